import Derived.Test.YtaojjcnmififoaaGreatG19
import Derived.Test.YtaojjcnmififoaaGreatPlainRec
import Derived.Deep.RegionWith
import Derived.Deep.DeepMust
namespace Go.Proofs.YtaojjcnmififoaaGreat
set_option maxRecDepth 100000
set_option maxHeartbeats 8000000
set_option linter.unusedVariables false
set_option linter.unusedSimpArgs false
open Go.RowKit
theorem WI (v : Value) (bs : List Int) (page slot : Int) (w : World) (nc : IsI page) (iO : IsI slot) (hl : bs.length ≤ 1000000) (ho : Own 0 5 .u8 w v bs) :
  Calls Tryz.prog 164 #[.agg #[.int .i64 page, .int .i64 slot], v] w fun e w' => ∃ aa nn cc, e = .returned (.slice aa nn cc) ∧ Own 0 5 .u8 w' (.slice aa nn cc) (bs ++ (Q6 page 2 ++ Q6 slot 2)) ∧ Grew w v w' (.slice aa nn cc) := by
 have b0 := (Blk.newL w [.int .i64 page, .int .i64 slot] 140).drew
 have nZ := (show Hid (Grew w v ((w.alloc (.cells #[.int .i64 page, .int .i64 slot] 140)).drew) v) from Grew.of_same (kZ0.alloc _).drew)
 have iQ := (show Hid (Own 0 5 .u8 ((w.alloc (.cells #[.int .i64 page, .int .i64 slot] 140)).drew) (v) (bs)) from ho.same (kZ0.alloc _).drew)
 have hU := (show Hid (¬ v.ownBlock = some w.heap.size) from fun e => by have := (ho.lt _ e).2; omega)
 have pO : bs.length ≤ 1000000 := hl
 clear ho hl
 go_enter Tryz.func164, Tryz.ntmps164
 go_wp2_with fail
 let Y1 : World → Prop := fun wx : World => wx.cell? ⟨w.heap.size, 0, none⟩ = some (.int .i64 page) ∧ wx.cell? ⟨w.heap.size, 1, none⟩ = some (.int .i64 slot)
 have hS : Y1 ((w.alloc (.cells #[.int .i64 page, .int .i64 slot] 140)).drew) := by exact ⟨b0.cell 0, b0.cell 1⟩
 refine Q9 Y1 99 8 rfl (by kernel_rfl) ?_
 refine tk 0 5 hS ?_
 refine tk 1 6 hS ?_
 refine tk 2 7 hS ?_
 refine tk 4 9 hS ?_
 refine tk 5 10 hS ?_
 refine o1Q 3 (fun K hK => ?_)
 go_simp
 refine (Rc _ (bs) (page) 2 _ nc (by unfold IsI; omega) (by omega) iQ.out).mono ?_
 rintro e oG ⟨lV, lS, lH, rfl, aw, hg⟩
 have kg := (show Hid (Own 0 5 .u8 oG (.slice lV lS lH) ((bs) ++ Q6 (page) 2)) from aw)
 have hH := hid (nZ.out.trans hg)
 have bk1 := b0.kept hg.kept hU.out
 have ft := (show Hid (¬ (Value.slice lV lS lH).ownBlock = some (w.heap.size)) from fun e => (hg.own _ e).elim hU.out (fun h => by have h := Nat.lt_of_lt_of_le b0.lt h; omega))
 have rC : ((bs) ++ Q6 (page) 2).length ≤ 1000008 := by rw [List.length_append]; have := Ra (page) 2; omega
 clear aw hg
 have hS : Y1 oG := by exact ⟨bk1.cell 0, bk1.cell 1⟩
 refine hK.out _ _ (fun _ => hS) ?_
 clear hK K
 try simp only [Act.put, sA, s0, sS]
 refine o1Q 6 (fun K hK => ?_)
 go_simp
 refine (Rc _ ((bs) ++ Q6 (page) 2) (slot) 2 _ iO (by unfold IsI; omega) (by omega) kg.out).mono ?_
 rintro e oJ ⟨mE, mU, mT, rfl, aw, hg⟩
 have j5 := (show Hid (Own 0 5 .u8 oJ (.slice mE mU mT) (((bs) ++ Q6 (page) 2) ++ Q6 (slot) 2)) from aw)
 have jl := hid (hH.out.trans hg)
 have bk2 := bk1.kept hg.kept ft.out
 have ij := (show Hid (¬ (Value.slice mE mU mT).ownBlock = some (w.heap.size)) from fun e => (hg.own _ e).elim ft.out (fun h => by have h := Nat.lt_of_lt_of_le bk1.lt h; omega))
 have rT : (((bs) ++ Q6 (page) 2) ++ Q6 (slot) 2).length ≤ 1000016 := by rw [List.length_append]; have := Ra (slot) 2; omega
 clear aw hg
 have hS : Y1 oJ := by exact ⟨bk2.cell 0, bk2.cell 1⟩
 refine hK.out _ _ (fun _ => hS) ?_
 clear hK K
 try simp only [Act.put, sA, s0, sS]
 refine tk 7 4 hS ?_
 refine Q8 (by kernel_rfl) ?_
 go_wp2
 go_ret
 exact ⟨_, _, _, rfl, by simpa using j5.out, jl.out⟩
theorem Uy (v : Value) (bs : List Int) (txn prev : Int) (w : World)  (hl : bs.length ≤ 1000000) (ho : Own 0 5 .u8 w v bs) :
  Calls Tryz.prog 155 #[.agg #[.int .i64 txn, .int .i64 prev], v] w fun e w' => ∃ aa nn cc, e = .returned (.slice aa nn cc) ∧ Own 0 5 .u8 w' (.slice aa nn cc) (bs ++ []) ∧ Grew w v w' (.slice aa nn cc) := by
 obtain ⟨aa, nn, cc, rfl⟩ := Sd ho
 have iQ := (show Hid (Own 0 5 .u8 ((w.alloc (.cells #[.int .i64 txn, .int .i64 prev] 138))) (.slice aa nn cc) (bs)) from ho.same (kZ0.alloc _))
 have nZ := (show Hid (Grew w (.slice aa nn cc) ((w.alloc (.cells #[.int .i64 txn, .int .i64 prev] 138))) (.slice aa nn cc)) from Grew.of_same (kZ0.alloc _))
 clear ho
 go_enter Tryz.func155, Tryz.ntmps155
 go_wp2
 go_ret
 exact ⟨aa, nn, cc, rfl, by simpa using iQ.out, nZ.out⟩
theorem jaZ (v : Value) (bs : List Int) (txn prev page slot : Int) (bu : Bool) (ba : Option Addr) (bc : Nat) (bb : List Int) (au : Bool) (aa : Option Addr) (ac : Nat) (ab : List Int) (w : World) (nc : IsI page) (iO : IsI slot) (wR : bb.length ≤ 1000) (Ab : ab.length ≤ 1000) (fI : ∀ wx, Kept (fun b => v.ownBlock = some b) w wx → Rd .u8 wx (.slice ba bb.length bc) bb) (fx : ∀ wx, Kept (fun b => v.ownBlock = some b) w wx → Rd .u8 wx (.slice aa ab.length ac) ab) (hl : bs.length ≤ 1000000) (ho : Own 0 5 .u8 w v bs) :
  Calls Tryz.prog 162 #[.agg #[.int .i64 txn, .int .i64 prev, .int .i64 page, .int .i64 slot, .bool bu, .slice ba bb.length bc, .bool au, .slice aa ab.length ac], v] w fun e w' => ∃ aa nn cc, e = .returned (.slice aa nn cc) ∧ Own 0 5 .u8 w' (.slice aa nn cc) (bs ++ (((Q6 page 2 ++ Q6 slot 2) ++ Ry bu bb) ++ Ry au ab)) ∧ Grew w v w' (.slice aa nn cc) := by
 have ML := (show Hid (∀ wx, Kept (fun b => v.ownBlock = some b) w wx → Rd .u8 wx (.slice ba bb.length bc) bb) from fI)
 have Cn := (show Hid (∀ wx, Kept (fun b => v.ownBlock = some b) w wx → Rd .u8 wx (.slice aa ab.length ac) ab) from fx)
 clear fI fx
 have b0 := (Blk.newL w [.int .i64 txn, .int .i64 prev, .int .i64 page, .int .i64 slot, .bool bu, .slice ba bb.length bc, .bool au, .slice aa ab.length ac] 144)
 have nZ := (show Hid (Grew w v ((w.alloc (.cells #[.int .i64 txn, .int .i64 prev, .int .i64 page, .int .i64 slot, .bool bu, .slice ba bb.length bc, .bool au, .slice aa ab.length ac] 144))) v) from Grew.of_same (kZ0.alloc _))
 have iQ := (show Hid (Own 0 5 .u8 ((w.alloc (.cells #[.int .i64 txn, .int .i64 prev, .int .i64 page, .int .i64 slot, .bool bu, .slice ba bb.length bc, .bool au, .slice aa ab.length ac] 144))) (v) (bs)) from ho.same (kZ0.alloc _))
 have hU := (show Hid (¬ v.ownBlock = some w.heap.size) from fun e => by have := (ho.lt _ e).2; omega)
 have pO : bs.length ≤ 1000000 := hl
 clear ho hl
 go_enter Tryz.func162, Tryz.ntmps162
 go_wp2_with fail
 refine (WI _ (bs) page slot _ nc iO (by omega) iQ.out).mono ?_
 rintro e oG ⟨lV, lS, lH, rfl, aw, hg⟩
 have kg := (show Hid (Own 0 5 .u8 oG (.slice lV lS lH) ((bs) ++ (Q6 page 2 ++ Q6 slot 2))) from aw)
 have hH := hid (nZ.out.trans hg)
 have bk1 := b0.kept hg.kept hU.out
 have ft := (show Hid (¬ (Value.slice lV lS lH).ownBlock = some (w.heap.size)) from fun e => (hg.own _ e).elim hU.out (fun h => by have h := Nat.lt_of_lt_of_le b0.lt h; omega))
 have rC : ((bs) ++ (Q6 page 2 ++ Q6 slot 2)).length ≤ 1000016 := by rw [List.length_append]; have := Ra page 2; have := Ra slot 2; rw [List.length_append]; omega
 clear aw hg
 have vM := bk1.c4
 have vl := bk1.c5
 go_wp2_with fail
 refine (UI _ ((bs) ++ (Q6 page 2 ++ Q6 slot 2)) bu (.slice ba bb.length bc) (bb) _ (by omega) (by omega) (fun wx dG => ML.out wx (hH.out.kept.next dG (fun i hi e => (hH.out.own i e).resolve_right (by omega)))) kg.out).mono ?_
 rintro e oJ ⟨mE, mU, mT, rfl, aw, hg⟩
 have j5 := (show Hid (Own 0 5 .u8 oJ (.slice mE mU mT) (((bs) ++ (Q6 page 2 ++ Q6 slot 2)) ++ Ry bu (bb))) from aw)
 have jl := hid (hH.out.trans hg)
 have bk2 := bk1.kept hg.kept ft.out
 have ij := (show Hid (¬ (Value.slice mE mU mT).ownBlock = some (w.heap.size)) from fun e => (hg.own _ e).elim ft.out (fun h => by have h := Nat.lt_of_lt_of_le bk1.lt h; omega))
 have rT : (((bs) ++ (Q6 page 2 ++ Q6 slot 2)) ++ Ry bu (bb)).length ≤ 1001116 := by rw [List.length_append]; have := TF bu (bb); omega
 clear aw hg
 have ui := bk2.c6
 have Fl := bk2.c7
 go_wp2_with fail
 refine (UI _ (((bs) ++ (Q6 page 2 ++ Q6 slot 2)) ++ Ry bu (bb)) au (.slice aa ab.length ac) (ab) _ (by omega) (by omega) (fun wx dG => Cn.out wx (jl.out.kept.next dG (fun i hi e => (jl.out.own i e).resolve_right (by omega)))) j5.out).mono ?_
 rintro e G0 ⟨zD, yh, zV, rfl, aw, hg⟩
 have t5 := (show Hid (Own 0 5 .u8 G0 (.slice zD yh zV) ((((bs) ++ (Q6 page 2 ++ Q6 slot 2)) ++ Ry bu (bb)) ++ Ry au (ab))) from aw)
 have tK := hid (jl.out.trans hg)
 have Ol := bk2.kept hg.kept ij.out
 have xA := (show Hid (¬ (Value.slice zD yh zV).ownBlock = some (w.heap.size)) from fun e => (hg.own _ e).elim ij.out (fun h => by have h := Nat.lt_of_lt_of_le bk2.lt h; omega))
 have G3 : ((((bs) ++ (Q6 page 2 ++ Q6 slot 2)) ++ Ry bu (bb)) ++ Ry au (ab)).length ≤ 1002216 := by rw [List.length_append]; have := TF au (ab); omega
 clear aw hg
 go_wp2
 go_ret
 exact ⟨_, _, _, rfl, by simpa using t5.out, tK.out⟩
theorem jai (v : Value) (bs : List Int) (txn prev page slot : Int) (au : Bool) (aa : Option Addr) (ac : Nat) (ab : List Int) (un : Int) (w : World) (nc : IsI page) (iO : IsI slot) (kt : IsI un) (Ab : ab.length ≤ 1000) (fx : ∀ wx, Kept (fun b => v.ownBlock = some b) w wx → Rd .u8 wx (.slice aa ab.length ac) ab) (hl : bs.length ≤ 1000000) (ho : Own 0 5 .u8 w v bs) :
  Calls Tryz.prog 168 #[.agg #[.int .i64 txn, .int .i64 prev, .int .i64 page, .int .i64 slot, .bool au, .slice aa ab.length ac, .int .i64 un], v] w fun e w' => ∃ aa nn cc, e = .returned (.slice aa nn cc) ∧ Own 0 5 .u8 w' (.slice aa nn cc) (bs ++ (((Q6 page 2 ++ Q6 slot 2) ++ Ry au ab) ++ Q6 un 8)) ∧ Grew w v w' (.slice aa nn cc) := by
 have Cn := (show Hid (∀ wx, Kept (fun b => v.ownBlock = some b) w wx → Rd .u8 wx (.slice aa ab.length ac) ab) from fx)
 clear fx
 have b0 := (Blk.newL w [.int .i64 txn, .int .i64 prev, .int .i64 page, .int .i64 slot, .bool au, .slice aa ab.length ac, .int .i64 un] 146)
 have nZ := (show Hid (Grew w v ((w.alloc (.cells #[.int .i64 txn, .int .i64 prev, .int .i64 page, .int .i64 slot, .bool au, .slice aa ab.length ac, .int .i64 un] 146))) v) from Grew.of_same (kZ0.alloc _))
 have iQ := (show Hid (Own 0 5 .u8 ((w.alloc (.cells #[.int .i64 txn, .int .i64 prev, .int .i64 page, .int .i64 slot, .bool au, .slice aa ab.length ac, .int .i64 un] 146))) (v) (bs)) from ho.same (kZ0.alloc _))
 have hU := (show Hid (¬ v.ownBlock = some w.heap.size) from fun e => by have := (ho.lt _ e).2; omega)
 have pO : bs.length ≤ 1000000 := hl
 clear ho hl
 go_enter Tryz.func168, Tryz.ntmps168
 go_wp2_with fail
 refine (WI _ (bs) page slot _ nc iO (by omega) iQ.out).mono ?_
 rintro e oG ⟨lV, lS, lH, rfl, aw, hg⟩
 have kg := (show Hid (Own 0 5 .u8 oG (.slice lV lS lH) ((bs) ++ (Q6 page 2 ++ Q6 slot 2))) from aw)
 have hH := hid (nZ.out.trans hg)
 have bk1 := b0.kept hg.kept hU.out
 have ft := (show Hid (¬ (Value.slice lV lS lH).ownBlock = some (w.heap.size)) from fun e => (hg.own _ e).elim hU.out (fun h => by have h := Nat.lt_of_lt_of_le b0.lt h; omega))
 have rC : ((bs) ++ (Q6 page 2 ++ Q6 slot 2)).length ≤ 1000016 := by rw [List.length_append]; have := Ra page 2; have := Ra slot 2; rw [List.length_append]; omega
 clear aw hg
 have vM := bk1.c4
 have vl := bk1.c5
 go_wp2_with fail
 refine (UI _ ((bs) ++ (Q6 page 2 ++ Q6 slot 2)) au (.slice aa ab.length ac) (ab) _ (by omega) (by omega) (fun wx dG => Cn.out wx (hH.out.kept.next dG (fun i hi e => (hH.out.own i e).resolve_right (by omega)))) kg.out).mono ?_
 rintro e oJ ⟨mE, mU, mT, rfl, aw, hg⟩
 have j5 := (show Hid (Own 0 5 .u8 oJ (.slice mE mU mT) (((bs) ++ (Q6 page 2 ++ Q6 slot 2)) ++ Ry au (ab))) from aw)
 have jl := hid (hH.out.trans hg)
 have bk2 := bk1.kept hg.kept ft.out
 have ij := (show Hid (¬ (Value.slice mE mU mT).ownBlock = some (w.heap.size)) from fun e => (hg.own _ e).elim ft.out (fun h => by have h := Nat.lt_of_lt_of_le bk1.lt h; omega))
 have rT : (((bs) ++ (Q6 page 2 ++ Q6 slot 2)) ++ Ry au (ab)).length ≤ 1001116 := by rw [List.length_append]; have := TF au (ab); omega
 clear aw hg
 have ui := bk2.c6
 go_wp2_with fail
 refine (Rc _ (((bs) ++ (Q6 page 2 ++ Q6 slot 2)) ++ Ry au (ab)) (un) 8 _ kt (by unfold IsI; omega) (by omega) j5.out).mono ?_
 rintro e G0 ⟨zD, yh, zV, rfl, aw, hg⟩
 have t5 := (show Hid (Own 0 5 .u8 G0 (.slice zD yh zV) ((((bs) ++ (Q6 page 2 ++ Q6 slot 2)) ++ Ry au (ab)) ++ Q6 (un) 8)) from aw)
 have tK := hid (jl.out.trans hg)
 have Ol := bk2.kept hg.kept ij.out
 have xA := (show Hid (¬ (Value.slice zD yh zV).ownBlock = some (w.heap.size)) from fun e => (hg.own _ e).elim ij.out (fun h => by have h := Nat.lt_of_lt_of_le bk2.lt h; omega))
 have G3 : ((((bs) ++ (Q6 page 2 ++ Q6 slot 2)) ++ Ry au (ab)) ++ Q6 (un) 8).length ≤ 1001124 := by rw [List.length_append]; have := Ra (un) 8; omega
 clear aw hg
 go_wp2
 go_ret
 exact ⟨_, _, _, rfl, by simpa using t5.out, tK.out⟩
theorem ja0 (v : Value) (bs : List Int) (txn prev page : Int) (ia : Option Addr) (ic : Nat) (ib : List Int) (w : World) (nc : IsI page) (FN : ib.length ≤ 4096) (jL : ∀ wx, Kept (fun b => v.ownBlock = some b) w wx → Rd .u8 wx (.slice ia ib.length ic) ib) (hl : bs.length ≤ 1000000) (ho : Own 0 5 .u8 w v bs) :
  Calls Tryz.prog 175 #[.agg #[.int .i64 txn, .int .i64 prev, .int .i64 page, .slice ia ib.length ic], v] w fun e w' => ∃ aa nn cc, e = .returned (.slice aa nn cc) ∧ Own 0 5 .u8 w' (.slice aa nn cc) (bs ++ (Q6 page 2 ++ ib)) ∧ Grew w v w' (.slice aa nn cc) := by
 have Li := (show Hid (∀ wx, Kept (fun b => v.ownBlock = some b) w wx → Rd .u8 wx (.slice ia ib.length ic) ib) from jL)
 clear jL
 have b0 := (Blk.newL w [.int .i64 txn, .int .i64 prev, .int .i64 page, .slice ia ib.length ic] 158).drew
 have nZ := (show Hid (Grew w v ((w.alloc (.cells #[.int .i64 txn, .int .i64 prev, .int .i64 page, .slice ia ib.length ic] 158)).drew) v) from Grew.of_same (kZ0.alloc _).drew)
 have iQ := (show Hid (Own 0 5 .u8 ((w.alloc (.cells #[.int .i64 txn, .int .i64 prev, .int .i64 page, .slice ia ib.length ic] 158)).drew) (v) (bs)) from ho.same (kZ0.alloc _).drew)
 have hU := (show Hid (¬ v.ownBlock = some w.heap.size) from fun e => by have := (ho.lt _ e).2; omega)
 have pO : bs.length ≤ 1000000 := hl
 clear ho hl
 go_enter Tryz.func175, Tryz.ntmps175
 go_wp2_with fail
 have hS : ((fun wx : World => wx.cell? ⟨w.heap.size, 2, none⟩ = some (.int .i64 page) ∧ wx.cell? ⟨w.heap.size, 3, none⟩ = some (.slice ia ib.length ic))) ((w.alloc (.cells #[.int .i64 txn, .int .i64 prev, .int .i64 page, .slice ia ib.length ic] 158)).drew) := by exact ⟨b0.cell 2, b0.cell 3⟩
 refine Q9 ((fun wx : World => wx.cell? ⟨w.heap.size, 2, none⟩ = some (.int .i64 page) ∧ wx.cell? ⟨w.heap.size, 3, none⟩ = some (.slice ia ib.length ic))) 99 8 rfl (by kernel_rfl) ?_
 refine tk 0 5 hS ?_
 refine tk 1 6 hS ?_
 refine tk 2 7 hS ?_
 refine tk 4 9 hS ?_
 refine tk 5 10 hS ?_
 refine o1Q 3 (fun K hK => ?_)
 go_simp
 refine (Rc _ (bs) (page) 2 _ nc (by unfold IsI; omega) (by omega) iQ.out).mono ?_
 rintro e oG ⟨lV, lS, lH, rfl, aw, hg⟩
 have kg := (show Hid (Own 0 5 .u8 oG (.slice lV lS lH) ((bs) ++ Q6 (page) 2)) from aw)
 have hH := hid (nZ.out.trans hg)
 have bk1 := b0.kept hg.kept hU.out
 have ft := (show Hid (¬ (Value.slice lV lS lH).ownBlock = some (w.heap.size)) from fun e => (hg.own _ e).elim hU.out (fun h => by have h := Nat.lt_of_lt_of_le b0.lt h; omega))
 have rC : ((bs) ++ Q6 (page) 2).length ≤ 1000008 := by rw [List.length_append]; have := Ra (page) 2; omega
 clear aw hg
 have hS : ((fun wx : World => wx.cell? ⟨w.heap.size, 2, none⟩ = some (.int .i64 page) ∧ wx.cell? ⟨w.heap.size, 3, none⟩ = some (.slice ia ib.length ic))) oG := by exact ⟨bk1.cell 2, bk1.cell 3⟩
 refine hK.out _ _ (fun _ => hS) ?_
 clear hK K
 try simp only [Act.put, sA, s0, sS]
 refine o1Q 6 (fun K hK => ?_)
 refine VE (by rfl) (.tmp 8) (.tmp 10) (by rfl) (.slice lV lS lH) (.slice ia ib.length ic) ((bs) ++ Q6 (page) 2) ib (by rfl) (by rfl) kg.out (Li.out _ hH.out.kept) (by omega) ?_
 intro mE mU mT oJ aw hg
 have j5 := (show Hid (Own 0 5 .u8 oJ (.slice mE mU mT) (((bs) ++ Q6 (page) 2) ++ ib)) from aw)
 have jl := hid (hH.out.trans hg)
 have bk2 := bk1.kept hg.kept ft.out
 have ij := (show Hid (¬ (Value.slice mE mU mT).ownBlock = some (w.heap.size)) from fun e => (hg.own _ e).elim ft.out (fun h => by have h := Nat.lt_of_lt_of_le bk1.lt h; omega))
 have rT : (((bs) ++ Q6 (page) 2) ++ ib).length ≤ 1005008 := by rw [List.length_append]; skip; omega
 clear aw hg
 have hS : ((fun wx : World => wx.cell? ⟨w.heap.size, 2, none⟩ = some (.int .i64 page) ∧ wx.cell? ⟨w.heap.size, 3, none⟩ = some (.slice ia ib.length ic))) oJ := by exact ⟨bk2.cell 2, bk2.cell 3⟩
 refine hK.out _ _ (fun _ => hS) ?_
 clear hK K
 try simp only [Act.put, sA, s0, sS]
 refine tk 7 4 hS ?_
 refine Q8 (by kernel_rfl) ?_
 go_wp2
 go_ret
 exact ⟨_, _, _, rfl, by simpa using j5.out, jl.out⟩
theorem ja1 (v : Value) (bs : List Int) (txn prev nt : Int) (te : TypeId) (ta : Option Addr) (tn tc : Nat) (tb : List Int) (de : TypeId) (da : Option Addr) (dn dc : Nat) (db : List Int) (w : World) (jE : 1 ≤ nt ∧ nt ≤ 2147483648) (ql : tn ≤ 8) (ky : dn ≤ 16) (pK : ∀ i, i < tn → (1 ≤ tb.getD (i * 4) 0 ∧ tb.getD (i * 4) 0 ≤ 2147483647) ∧ (1 ≤ tb.getD (i * 4 + 1) 0 ∧ tb.getD (i * 4 + 1) 0 ≤ 3) ∧ (1 ≤ tb.getD (i * 4 + 2) 0 ∧ tb.getD (i * 4 + 2) 0 ≤ 1099511627776) ∧ (0 ≤ tb.getD (i * 4 + 3) 0 ∧ tb.getD (i * 4 + 3) 0 ≤ tb.getD (i * 4 + 2) 0)) (pP : ∀ i, i < dn → (0 ≤ db.getD (i * 2) 0 ∧ db.getD (i * 2) 0 < 16) ∧ (1 ≤ db.getD (i * 2 + 1) 0 ∧ db.getD (i * 2 + 1) 0 ≤ 1099511627776)) (jR : ∀ wx, Kept (fun b => v.ownBlock = some b) w wx → RdF 4 wx ⟨te, ta, tn, tc, tb⟩) (fw : ∀ wx, Kept (fun b => v.ownBlock = some b) w wx → RdF 2 wx ⟨de, da, dn, dc, db⟩) (hl : bs.length ≤ 1000000) (ho : Own 0 5 .u8 w v bs) :
  Calls Tryz.prog 171 #[.agg #[.int .i64 txn, .int .i64 prev, .int .i64 nt, .slice ta tn tc, .slice da dn dc], v] w fun e w' => ∃ aa nn cc, e = .returned (.slice aa nn cc) ∧ Own 0 5 .u8 w' (.slice aa nn cc) (bs ++ ((((Q6 nt 4 ++ Q6 (tn : Nat) 1) ++ RG tb tn) ++ Q6 (dn : Nat) 1) ++ Tg db dn)) ∧ Grew w v w' (.slice aa nn cc) := by
 have E7 := (show Hid (∀ wx, Kept (fun b => v.ownBlock = some b) w wx → RdF 4 wx ⟨te, ta, tn, tc, tb⟩) from jR)
 have vQ := (show Hid (∀ wx, Kept (fun b => v.ownBlock = some b) w wx → RdF 2 wx ⟨de, da, dn, dc, db⟩) from fw)
 have An := (show Hid (∀ i, i < tn → _) from pK)
 have uE := (show Hid (∀ i, i < dn → _) from pP)
 clear jR fw pK pP
 have b0 := (Blk.newL w [.int .i64 txn, .int .i64 prev, .int .i64 nt, .slice ta tn tc, .slice da dn dc] 155)
 have nZ := (show Hid (Grew w v ((w.alloc (.cells #[.int .i64 txn, .int .i64 prev, .int .i64 nt, .slice ta tn tc, .slice da dn dc] 155))) v) from Grew.of_same (kZ0.alloc _))
 have iQ := (show Hid (Own 0 5 .u8 ((w.alloc (.cells #[.int .i64 txn, .int .i64 prev, .int .i64 nt, .slice ta tn tc, .slice da dn dc] 155))) (v) (bs)) from ho.same (kZ0.alloc _))
 have hU := (show Hid (¬ v.ownBlock = some w.heap.size) from fun e => by have := (ho.lt _ e).2; omega)
 have pO : bs.length ≤ 1000000 := hl
 clear ho hl
 go_enter Tryz.func171, Tryz.ntmps171
 go_wp2_with fail
 refine (Rc _ (bs) (nt) 4 _ (by unfold IsI; omega) (by unfold IsI; omega) (by omega) iQ.out).mono ?_
 rintro e oG ⟨lV, lS, lH, rfl, aw, hg⟩
 have kg := (show Hid (Own 0 5 .u8 oG (.slice lV lS lH) ((bs) ++ Q6 (nt) 4)) from aw)
 have hH := hid (nZ.out.trans hg)
 have bk1 := b0.kept hg.kept hU.out
 have ft := (show Hid (¬ (Value.slice lV lS lH).ownBlock = some (w.heap.size)) from fun e => (hg.own _ e).elim hU.out (fun h => by have h := Nat.lt_of_lt_of_le b0.lt h; omega))
 have rC : ((bs) ++ Q6 (nt) 4).length ≤ 1000008 := by rw [List.length_append]; have := Ra (nt) 4; omega
 clear aw hg
 have CX := bk1.c3
 go_wp2_with fail
 refine (Rc _ ((bs) ++ Q6 (nt) 4) (tn) 1 _ (by unfold IsI; omega) (by unfold IsI; omega) (by omega) kg.out).mono ?_
 rintro e oJ ⟨mE, mU, mT, rfl, aw, hg⟩
 have j5 := (show Hid (Own 0 5 .u8 oJ (.slice mE mU mT) (((bs) ++ Q6 (nt) 4) ++ Q6 (tn) 1)) from aw)
 have jl := hid (hH.out.trans hg)
 have bk2 := bk1.kept hg.kept ft.out
 have ij := (show Hid (¬ (Value.slice mE mU mT).ownBlock = some (w.heap.size)) from fun e => (hg.own _ e).elim ft.out (fun h => by have h := Nat.lt_of_lt_of_le bk1.lt h; omega))
 have rT : (((bs) ++ Q6 (nt) 4) ++ Q6 (tn) 1).length ≤ 1000016 := by rw [List.length_append]; have := Ra (tn) 1; omega
 clear aw hg
 have EW := bk2.c3
 go_wp2
 go_loopw [1, 6, 21] (fun u _ i wr => ∃ (k : Nat) (a : Option Addr) (n c : Nat), k ≤ tn ∧ i = .int .i64 k ∧ u = .slice a n c ∧ Hid (Own 0 5 .u8 wr (.slice a n c) ((((bs) ++ Q6 (nt) 4) ++ Q6 (tn) 1) ++ RG tb k)) ∧ Hid (Grew w v wr (.slice a n c)) ∧ Hid (Blk wr w.heap.size 155 [.int .i64 txn, .int .i64 prev, .int .i64 nt, .slice ta tn tc, .slice da dn dc]) ∧ Hid (¬ (Value.slice a n c).ownBlock = some w.heap.size)) (fun _ _ i _ => tn - (intOf i).toNat)
 case atStart => exact ⟨0, _, _, _, Nat.zero_le _, rfl, rfl, by rw [ZC, List.append_nil]; exact j5, jl, bk2, ij⟩
 case round =>
  obtain ⟨k, ar, nr, cr, hk, rfl, rfl, HOr, ud, kq, uo⟩ := hrel
  by_cases bH : k < tn
  ·have hc := (E7.out wr ud.out.kept).2.2.resolve_left (fun h => by dsimp only at h; omega)
   dsimp only at hc
   obtain ⟨eB, eO, s7, zQ, kn⟩ := hc
   subst s7
   have q0 : wr.cell? ⟨eB, eO + k * 4, none⟩ = some (.int .i64 (tb.getD (k * 4) 0)) := by have h := kn (k * 4) (by omega); simpa only [Nat.add_assoc] using h
   have q1 : wr.cell? ⟨eB, eO + k * 4 + 1, none⟩ = some (.int .i64 (tb.getD (k * 4 + 1) 0)) := by have h := kn (k * 4 + 1) (by omega); simpa only [Nat.add_assoc] using h
   have q2 : wr.cell? ⟨eB, eO + k * 4 + 2, none⟩ = some (.int .i64 (tb.getD (k * 4 + 2) 0)) := by have h := kn (k * 4 + 2) (by omega); simpa only [Nat.add_assoc] using h
   have q3 : wr.cell? ⟨eB, eO + k * 4 + 3, none⟩ = some (.int .i64 (tb.getD (k * 4 + 3) 0)) := by have h := kn (k * 4 + 3) (by omega); simpa only [Nat.add_assoc] using h
   have EJ := (show Hid (_) from An.out k bH)
   have zc := (show Hid (txB tb k = Q6 (tb.getD (k * 4) 0) 4 ++ Q6 (tb.getD (k * 4 + 1) 0) 1 ++ Q6 (tb.getD (k * 4 + 2) 0) 8 ++ Q6 (tb.getD (k * 4 + 3) 0) 8) from rfl)
   clear kn
   generalize tb.getD (k * 4) 0 = x0 at *
   generalize tb.getD (k * 4 + 1) 0 = x1 at *
   generalize tb.getD (k * 4 + 2) 0 = x2 at *
   generalize tb.getD (k * 4 + 3) 0 = x3 at *
   obtain ⟨g0, g1, g2, g3⟩ := EJ.out
   have ol : ((((bs) ++ Q6 (nt) 4) ++ Q6 (tn) 1) ++ RG tb k).length ≤ 1000272 := by rw [List.length_append]; have := UX tb k; omega
   have KN := kq.out.alloc (.cells #[.int .i64 x0, .int .i64 x1, .int .i64 x2, .int .i64 x3] 96)
   have Es := Blk.newL wr [.int .i64 x0, .int .i64 x1, .int .i64 x2, .int .i64 x3] 96
   have tD := uo
   have s6 := (show Hid (¬ (Value.slice ar nr cr).ownBlock = some wr.heap.size) from fun e => by have := (HOr.out.lt _ e).2; omega)
   have FM := hid (HOr.out.same (kZ0.alloc (.cells #[.int .i64 x0, .int .i64 x1, .int .i64 x2, .int .i64 x3] 96)))
   have CN := hid (ud.out.trans (Grew.of_same (kZ0.alloc (.cells #[.int .i64 x0, .int .i64 x1, .int .i64 x2, .int .i64 x3] 96))))
   have LP := ol
   have CI := Es.c0
   go_wp2_with fail
   refine (Rc _ ((((bs) ++ Q6 (nt) 4) ++ Q6 (tn) 1) ++ RG tb k) (x0) 4 _ (by unfold IsI; omega) (by unfold IsI; omega) (by omega) FM.out).mono ?_
   rintro e Na ⟨Fw, En, CL, rfl, aw, hg⟩
   have Ct := (show Hid (Own 0 5 .u8 Na (.slice Fw En CL) (((((bs) ++ Q6 (nt) 4) ++ Q6 (tn) 1) ++ RG tb k) ++ Q6 (x0) 4)) from aw)
   have Ej := hid (CN.out.trans hg)
   have Hq := KN.kept hg.kept tD.out
   have se := (show Hid (¬ (Value.slice Fw En CL).ownBlock = some (w.heap.size)) from fun e => (hg.own _ e).elim tD.out (fun h => by have h := Nat.lt_of_lt_of_le KN.lt h; omega))
   have CM := Es.kept hg.kept s6.out
   have tq := (show Hid (¬ (Value.slice Fw En CL).ownBlock = some (wr.heap.size)) from fun e => (hg.own _ e).elim s6.out (fun h => by have h := Nat.lt_of_lt_of_le Es.lt h; omega))
   have LW : (((((bs) ++ Q6 (nt) 4) ++ Q6 (tn) 1) ++ RG tb k) ++ Q6 (x0) 4).length ≤ 1000280 := by rw [List.length_append]; have := Ra (x0) 4; omega
   clear aw hg
   have Gu := CM.c1
   go_wp2_with fail
   refine (Rc _ (((((bs) ++ Q6 (nt) 4) ++ Q6 (tn) 1) ++ RG tb k) ++ Q6 (x0) 4) (x1) 1 _ (by unfold IsI; omega) (by unfold IsI; omega) (by omega) Ct.out).mono ?_
   rintro e OV ⟨EB, Cs, Ex, rfl, aw, hg⟩
   have DC := (show Hid (Own 0 5 .u8 OV (.slice EB Cs Ex) ((((((bs) ++ Q6 (nt) 4) ++ Q6 (tn) 1) ++ RG tb k) ++ Q6 (x0) 4) ++ Q6 (x1) 1)) from aw)
   have GC := hid (Ej.out.trans hg)
   have Ji := Hq.kept hg.kept se.out
   have sV := (show Hid (¬ (Value.slice EB Cs Ex).ownBlock = some (w.heap.size)) from fun e => (hg.own _ e).elim se.out (fun h => by have h := Nat.lt_of_lt_of_le Hq.lt h; omega))
   have FB := CM.kept hg.kept tq.out
   have sH := (show Hid (¬ (Value.slice EB Cs Ex).ownBlock = some (wr.heap.size)) from fun e => (hg.own _ e).elim tq.out (fun h => by have h := Nat.lt_of_lt_of_le CM.lt h; omega))
   have LF : ((((((bs) ++ Q6 (nt) 4) ++ Q6 (tn) 1) ++ RG tb k) ++ Q6 (x0) 4) ++ Q6 (x1) 1).length ≤ 1000288 := by rw [List.length_append]; have := Ra (x1) 1; omega
   clear aw hg
   have Dt := FB.c2
   go_wp2_with fail
   refine (Rc _ ((((((bs) ++ Q6 (nt) 4) ++ Q6 (tn) 1) ++ RG tb k) ++ Q6 (x0) 4) ++ Q6 (x1) 1) (x2) 8 _ (by unfold IsI; omega) (by unfold IsI; omega) (by omega) DC.out).mono ?_
   rintro e Ns ⟨Eb, Dh, Gy, rfl, aw, hg⟩
   have Cl := (show Hid (Own 0 5 .u8 Ns (.slice Eb Dh Gy) (((((((bs) ++ Q6 (nt) 4) ++ Q6 (tn) 1) ++ RG tb k) ++ Q6 (x0) 4) ++ Q6 (x1) 1) ++ Q6 (x2) 8)) from aw)
   have Cd := hid (GC.out.trans hg)
   have Ii := Ji.kept hg.kept sV.out
   have sr := (show Hid (¬ (Value.slice Eb Dh Gy).ownBlock = some (w.heap.size)) from fun e => (hg.own _ e).elim sV.out (fun h => by have h := Nat.lt_of_lt_of_le Ji.lt h; omega))
   have E6 := FB.kept hg.kept sH.out
   have r6 := (show Hid (¬ (Value.slice Eb Dh Gy).ownBlock = some (wr.heap.size)) from fun e => (hg.own _ e).elim sH.out (fun h => by have h := Nat.lt_of_lt_of_le FB.lt h; omega))
   have OJ : (((((((bs) ++ Q6 (nt) 4) ++ Q6 (tn) 1) ++ RG tb k) ++ Q6 (x0) 4) ++ Q6 (x1) 1) ++ Q6 (x2) 8).length ≤ 1000296 := by rw [List.length_append]; have := Ra (x2) 8; omega
   clear aw hg
   have Eg := E6.c3
   go_wp2_with fail
   refine (Rc _ (((((((bs) ++ Q6 (nt) 4) ++ Q6 (tn) 1) ++ RG tb k) ++ Q6 (x0) 4) ++ Q6 (x1) 1) ++ Q6 (x2) 8) (x3) 8 _ (by unfold IsI; omega) (by unfold IsI; omega) (by omega) Cl.out).mono ?_
   rintro e OZ ⟨CU, C7, EG, rfl, aw, hg⟩
   have Gv := (show Hid (Own 0 5 .u8 OZ (.slice CU C7 EG) ((((((((bs) ++ Q6 (nt) 4) ++ Q6 (tn) 1) ++ RG tb k) ++ Q6 (x0) 4) ++ Q6 (x1) 1) ++ Q6 (x2) 8) ++ Q6 (x3) 8)) from aw)
   have Dp := hid (Cd.out.trans hg)
   have Mt := Ii.kept hg.kept sr.out
   have xg := (show Hid (¬ (Value.slice CU C7 EG).ownBlock = some (w.heap.size)) from fun e => (hg.own _ e).elim sr.out (fun h => by have h := Nat.lt_of_lt_of_le Ii.lt h; omega))
   have Qy := E6.kept hg.kept r6.out
   have K6 := (show Hid (¬ (Value.slice CU C7 EG).ownBlock = some (wr.heap.size)) from fun e => (hg.own _ e).elim r6.out (fun h => by have h := Nat.lt_of_lt_of_le E6.lt h; omega))
   have N3 : ((((((((bs) ++ Q6 (nt) 4) ++ Q6 (tn) 1) ++ RG tb k) ++ Q6 (x0) 4) ++ Q6 (x1) 1) ++ Q6 (x2) 8) ++ Q6 (x3) 8).length ≤ 1000304 := by rw [List.length_append]; have := Ra (x3) 8; omega
   clear aw hg
   go_wp2
   go_roundw
   case rel => exact ⟨k + 1, _, _, _, by omega, by go_num, rfl, by rw [UC, zc.out]; simpa [Hid] using Gv.out, Dp, Mt, xg⟩
   case measure => simp [intOf]; omega
  ·obtain yG : k = tn := by omega
   rw [yG] at HOr
   have ol : ((((bs) ++ Q6 (nt) 4) ++ Q6 (tn) 1) ++ RG tb tn).length ≤ 1000272 := by rw [List.length_append]; have := UX tb tn; omega
   have br := kq.out
   have zy := uo
   have KZ := br.c4
   go_wp2_with fail
   refine (Rc _ ((((bs) ++ Q6 (nt) 4) ++ Q6 (tn) 1) ++ RG tb tn) (dn) 1 _ (by unfold IsI; omega) (by unfold IsI; omega) (by omega) HOr.out).mono ?_
   rintro e O0 ⟨KJ, Kj, Ju, rfl, aw, hg⟩
   have Cb := (show Hid (Own 0 5 .u8 O0 (.slice KJ Kj Ju) (((((bs) ++ Q6 (nt) 4) ++ Q6 (tn) 1) ++ RG tb tn) ++ Q6 (dn) 1)) from aw)
   have FJ := hid (ud.out.trans hg)
   have JG := br.kept hg.kept zy.out
   have zO := (show Hid (¬ (Value.slice KJ Kj Ju).ownBlock = some (w.heap.size)) from fun e => (hg.own _ e).elim zy.out (fun h => by have h := Nat.lt_of_lt_of_le br.lt h; omega))
   have Mp : (((((bs) ++ Q6 (nt) 4) ++ Q6 (tn) 1) ++ RG tb tn) ++ Q6 (dn) 1).length ≤ 1000280 := by rw [List.length_append]; have := Ra (dn) 1; omega
   clear aw hg
   have CF := JG.c4
   go_wp2
   go_loopw [1, 8, 50] (fun u _ i wr => ∃ (k : Nat) (a : Option Addr) (n c : Nat), k ≤ dn ∧ i = .int .i64 k ∧ u = .slice a n c ∧ Hid (Own 0 5 .u8 wr (.slice a n c) ((((((bs) ++ Q6 (nt) 4) ++ Q6 (tn) 1) ++ RG tb tn) ++ Q6 (dn) 1) ++ Tg db k)) ∧ Hid (Grew w v wr (.slice a n c)) ∧ Hid (Blk wr w.heap.size 155 [.int .i64 txn, .int .i64 prev, .int .i64 nt, .slice ta tn tc, .slice da dn dc]) ∧ Hid (¬ (Value.slice a n c).ownBlock = some w.heap.size)) (fun _ _ i _ => dn - (intOf i).toNat)
   case atStart => exact ⟨0, _, _, _, Nat.zero_le _, rfl, rfl, by rw [ZE, List.append_nil]; exact Cb, FJ, JG, zO⟩
   case round =>
    obtain ⟨k, ar, nr, cr, hk, rfl, rfl, HOr, ud, kq, uo⟩ := hrel
    by_cases bH : k < dn
    ·have hc := (vQ.out wr ud.out.kept).2.2.resolve_left (fun h => by dsimp only at h; omega)
     dsimp only at hc
     obtain ⟨eB, eO, s7, zQ, kn⟩ := hc
     subst s7
     have q0 : wr.cell? ⟨eB, eO + k * 2, none⟩ = some (.int .i64 (db.getD (k * 2) 0)) := by have h := kn (k * 2) (by omega); simpa only [Nat.add_assoc] using h
     have q1 : wr.cell? ⟨eB, eO + k * 2 + 1, none⟩ = some (.int .i64 (db.getD (k * 2 + 1) 0)) := by have h := kn (k * 2 + 1) (by omega); simpa only [Nat.add_assoc] using h
     have EJ := (show Hid (_) from uE.out k bH)
     have zc := (show Hid (dyB db k = Q6 (db.getD (k * 2) 0) 2 ++ Q6 (db.getD (k * 2 + 1) 0) 8) from rfl)
     clear kn
     generalize db.getD (k * 2) 0 = y0 at *
     generalize db.getD (k * 2 + 1) 0 = y1 at *
     obtain ⟨g0, g1⟩ := EJ.out
     have ol : ((((((bs) ++ Q6 (nt) 4) ++ Q6 (tn) 1) ++ RG tb tn) ++ Q6 (dn) 1) ++ Tg db k).length ≤ 1000536 := by rw [List.length_append]; have := XC db k; omega
     have Hu := kq.out.alloc (.cells #[.int .i64 y0, .int .i64 y1] 98)
     have EZ := Blk.newL wr [.int .i64 y0, .int .i64 y1] 98
     have tt := uo
     have sE := (show Hid (¬ (Value.slice ar nr cr).ownBlock = some wr.heap.size) from fun e => by have := (HOr.out.lt _ e).2; omega)
     have FX := hid (HOr.out.same (kZ0.alloc (.cells #[.int .i64 y0, .int .i64 y1] 98)))
     have Cy := hid (ud.out.trans (Grew.of_same (kZ0.alloc (.cells #[.int .i64 y0, .int .i64 y1] 98))))
     have L6 := ol
     have DF := EZ.c0
     go_wp2_with fail
     refine (Rc _ ((((((bs) ++ Q6 (nt) 4) ++ Q6 (tn) 1) ++ RG tb tn) ++ Q6 (dn) 1) ++ Tg db k) (y0) 2 _ (by unfold IsI; omega) (by unfold IsI; omega) (by omega) FX.out).mono ?_
     rintro e LI ⟨CR, Cw, Eo, rfl, aw, hg⟩
     have EM := (show Hid (Own 0 5 .u8 LI (.slice CR Cw Eo) (((((((bs) ++ Q6 (nt) 4) ++ Q6 (tn) 1) ++ RG tb tn) ++ Q6 (dn) 1) ++ Tg db k) ++ Q6 (y0) 2)) from aw)
     have Fv := hid (Cy.out.trans hg)
     have IJ := Hu.kept hg.kept tt.out
     have sR := (show Hid (¬ (Value.slice CR Cw Eo).ownBlock = some (w.heap.size)) from fun e => (hg.own _ e).elim tt.out (fun h => by have h := Nat.lt_of_lt_of_le Hu.lt h; omega))
     have ED := EZ.kept hg.kept sE.out
     have sy := (show Hid (¬ (Value.slice CR Cw Eo).ownBlock = some (wr.heap.size)) from fun e => (hg.own _ e).elim sE.out (fun h => by have h := Nat.lt_of_lt_of_le EZ.lt h; omega))
     have Oj : (((((((bs) ++ Q6 (nt) 4) ++ Q6 (tn) 1) ++ RG tb tn) ++ Q6 (dn) 1) ++ Tg db k) ++ Q6 (y0) 2).length ≤ 1000544 := by rw [List.length_append]; have := Ra (y0) 2; omega
     clear aw hg
     have F3 := ED.c1
     go_wp2_with fail
     refine (Rc _ (((((((bs) ++ Q6 (nt) 4) ++ Q6 (tn) 1) ++ RG tb tn) ++ Q6 (dn) 1) ++ Tg db k) ++ Q6 (y0) 2) (y1) 8 _ (by unfold IsI; omega) (by unfold IsI; omega) (by omega) EM.out).mono ?_
     rintro e Lf ⟨Fy, Da, El, rfl, aw, hg⟩
     have C0 := (show Hid (Own 0 5 .u8 Lf (.slice Fy Da El) ((((((((bs) ++ Q6 (nt) 4) ++ Q6 (tn) 1) ++ RG tb tn) ++ Q6 (dn) 1) ++ Tg db k) ++ Q6 (y0) 2) ++ Q6 (y1) 8)) from aw)
     have DU := hid (Fv.out.trans hg)
     have Nk := IJ.kept hg.kept sR.out
     have yI := (show Hid (¬ (Value.slice Fy Da El).ownBlock = some (w.heap.size)) from fun e => (hg.own _ e).elim sR.out (fun h => by have h := Nat.lt_of_lt_of_le IJ.lt h; omega))
     have P9 := ED.kept hg.kept sy.out
     have Ir := (show Hid (¬ (Value.slice Fy Da El).ownBlock = some (wr.heap.size)) from fun e => (hg.own _ e).elim sy.out (fun h => by have h := Nat.lt_of_lt_of_le ED.lt h; omega))
     have NC : ((((((((bs) ++ Q6 (nt) 4) ++ Q6 (tn) 1) ++ RG tb tn) ++ Q6 (dn) 1) ++ Tg db k) ++ Q6 (y0) 2) ++ Q6 (y1) 8).length ≤ 1000552 := by rw [List.length_append]; have := Ra (y1) 8; omega
     clear aw hg
     go_wp2
     go_roundw
     case rel => exact ⟨k + 1, _, _, _, by omega, by go_num, rfl, by rw [UD, zc.out]; simpa [Hid] using C0.out, DU, Nk, yI⟩
     case measure => simp [intOf]; omega
    ·obtain yG : k = dn := by omega
     rw [yG] at HOr
     go_wp2
     go_ret
     exact ⟨_, _, _, rfl, by simpa using HOr.out, ud.out⟩
@[go_sem] theorem jgf (n : Nat) (txn prev page slot : Int) (bu : Bool) (ba : Option Addr) (bn bc : Nat) (au : Bool) (aa : Option Addr) (an ac : Nat) (w : World) : (method (n + 1) 144 (.agg #[.int .i64 txn, .int .i64 prev, .int .i64 page, .int .i64 slot, .bool bu, .slice ba bn bc, .bool au, .slice aa an ac]) "loop.example/s02544/impl.kind").run Tryz.prog w = .ok (92, .agg #[.int .i64 txn, .int .i64 prev, .int .i64 page, .int .i64 slot, .bool bu, .slice ba bn bc, .bool au, .slice aa an ac]) w := by kernel_rfl
@[go_sem] theorem jgg (n : Nat) (txn prev page slot : Int) (bu : Bool) (ba : Option Addr) (bn bc : Nat) (au : Bool) (aa : Option Addr) (an ac : Nat) (w : World) : (method (n + 1) 144 (.agg #[.int .i64 txn, .int .i64 prev, .int .i64 page, .int .i64 slot, .bool bu, .slice ba bn bc, .bool au, .slice aa an ac]) "loop.example/s02544/impl.transaction").run Tryz.prog w = .ok (93, .agg #[.int .i64 txn, .int .i64 prev]) w := by kernel_rfl
@[go_sem] theorem jgh (n : Nat) (txn prev page slot : Int) (bu : Bool) (ba : Option Addr) (bn bc : Nat) (au : Bool) (aa : Option Addr) (an ac : Nat) (w : World) : (method (n + 1) 144 (.agg #[.int .i64 txn, .int .i64 prev, .int .i64 page, .int .i64 slot, .bool bu, .slice ba bn bc, .bool au, .slice aa an ac]) "loop.example/s02544/impl.ahead").run Tryz.prog w = .ok (94, .agg #[.int .i64 txn, .int .i64 prev]) w := by kernel_rfl
@[go_sem] theorem jgi (n : Nat) (txn prev page slot : Int) (bu : Bool) (ba : Option Addr) (bn bc : Nat) (au : Bool) (aa : Option Addr) (an ac : Nat) (w : World) : (method (n + 1) 144 (.agg #[.int .i64 txn, .int .i64 prev, .int .i64 page, .int .i64 slot, .bool bu, .slice ba bn bc, .bool au, .slice aa an ac]) "loop.example/s02544/impl.appendRest").run Tryz.prog w = .ok (162, .agg #[.int .i64 txn, .int .i64 prev, .int .i64 page, .int .i64 slot, .bool bu, .slice ba bn bc, .bool au, .slice aa an ac]) w := by kernel_rfl
set_option maxRecDepth 100000 in
theorem jeB (txn prev page slot : Int) (bu : Bool) (ba : Option Addr) (bn bc : Nat) (au : Bool) (aa : Option Addr) (an ac : Nat) (w : World) : Calls Tryz.prog 92 #[.agg #[.int .i64 txn, .int .i64 prev, .int .i64 page, .int .i64 slot, .bool bu, .slice ba bn bc, .bool au, .slice aa an ac]] w fun e w' => e = .returned (.int .i64 1) ∧ Same w w' := by
 go_enter Tryz.func92, Tryz.ntmps92
 go_wp2
 go_ret
 exact ⟨rfl, kZ0.alloc _⟩
@[go_sem] theorem jgj (n : Nat) (txn prev page slot : Int) (au : Bool) (aa : Option Addr) (an ac : Nat) (un : Int) (w : World) : (method (n + 1) 146 (.agg #[.int .i64 txn, .int .i64 prev, .int .i64 page, .int .i64 slot, .bool au, .slice aa an ac, .int .i64 un]) "loop.example/s02544/impl.kind").run Tryz.prog w = .ok (95, .agg #[.int .i64 txn, .int .i64 prev, .int .i64 page, .int .i64 slot, .bool au, .slice aa an ac, .int .i64 un]) w := by kernel_rfl
@[go_sem] theorem jgk (n : Nat) (txn prev page slot : Int) (au : Bool) (aa : Option Addr) (an ac : Nat) (un : Int) (w : World) : (method (n + 1) 146 (.agg #[.int .i64 txn, .int .i64 prev, .int .i64 page, .int .i64 slot, .bool au, .slice aa an ac, .int .i64 un]) "loop.example/s02544/impl.transaction").run Tryz.prog w = .ok (93, .agg #[.int .i64 txn, .int .i64 prev]) w := by kernel_rfl
@[go_sem] theorem jgl (n : Nat) (txn prev page slot : Int) (au : Bool) (aa : Option Addr) (an ac : Nat) (un : Int) (w : World) : (method (n + 1) 146 (.agg #[.int .i64 txn, .int .i64 prev, .int .i64 page, .int .i64 slot, .bool au, .slice aa an ac, .int .i64 un]) "loop.example/s02544/impl.ahead").run Tryz.prog w = .ok (94, .agg #[.int .i64 txn, .int .i64 prev]) w := by kernel_rfl
@[go_sem] theorem jgm (n : Nat) (txn prev page slot : Int) (au : Bool) (aa : Option Addr) (an ac : Nat) (un : Int) (w : World) : (method (n + 1) 146 (.agg #[.int .i64 txn, .int .i64 prev, .int .i64 page, .int .i64 slot, .bool au, .slice aa an ac, .int .i64 un]) "loop.example/s02544/impl.appendRest").run Tryz.prog w = .ok (168, .agg #[.int .i64 txn, .int .i64 prev, .int .i64 page, .int .i64 slot, .bool au, .slice aa an ac, .int .i64 un]) w := by kernel_rfl
set_option maxRecDepth 100000 in
theorem jeC (txn prev page slot : Int) (au : Bool) (aa : Option Addr) (an ac : Nat) (un : Int) (w : World) : Calls Tryz.prog 95 #[.agg #[.int .i64 txn, .int .i64 prev, .int .i64 page, .int .i64 slot, .bool au, .slice aa an ac, .int .i64 un]] w fun e w' => e = .returned (.int .i64 2) ∧ Same w w' := by
 go_enter Tryz.func95, Tryz.ntmps95
 go_wp2
 go_ret
 exact ⟨rfl, kZ0.alloc _⟩
@[go_sem] theorem jgn (n : Nat) (txn prev : Int) (w : World) : (method (n + 1) 148 (.agg #[.int .i64 txn, .int .i64 prev]) "loop.example/s02544/impl.kind").run Tryz.prog w = .ok (96, .agg #[.int .i64 txn, .int .i64 prev]) w := by kernel_rfl
@[go_sem] theorem jgo (n : Nat) (txn prev : Int) (w : World) : (method (n + 1) 148 (.agg #[.int .i64 txn, .int .i64 prev]) "loop.example/s02544/impl.transaction").run Tryz.prog w = .ok (93, .agg #[.int .i64 txn, .int .i64 prev]) w := by kernel_rfl
@[go_sem] theorem jgp (n : Nat) (txn prev : Int) (w : World) : (method (n + 1) 148 (.agg #[.int .i64 txn, .int .i64 prev]) "loop.example/s02544/impl.ahead").run Tryz.prog w = .ok (94, .agg #[.int .i64 txn, .int .i64 prev]) w := by kernel_rfl
@[go_sem] theorem jgq (n : Nat) (txn prev : Int) (w : World) : (method (n + 1) 148 (.agg #[.int .i64 txn, .int .i64 prev]) "loop.example/s02544/impl.appendRest").run Tryz.prog w = .ok (155, .agg #[.int .i64 txn, .int .i64 prev]) w := by kernel_rfl
set_option maxRecDepth 100000 in
theorem jeD (txn prev : Int) (w : World) : Calls Tryz.prog 96 #[.agg #[.int .i64 txn, .int .i64 prev]] w fun e w' => e = .returned (.int .i64 3) ∧ Same w w' := by
 go_enter Tryz.func96, Tryz.ntmps96
 go_wp2
 go_ret
 exact ⟨rfl, kZ0.alloc _⟩
@[go_sem] theorem jgr (n : Nat) (txn prev : Int) (w : World) : (method (n + 1) 149 (.agg #[.int .i64 txn, .int .i64 prev]) "loop.example/s02544/impl.kind").run Tryz.prog w = .ok (97, .agg #[.int .i64 txn, .int .i64 prev]) w := by kernel_rfl
@[go_sem] theorem jgs (n : Nat) (txn prev : Int) (w : World) : (method (n + 1) 149 (.agg #[.int .i64 txn, .int .i64 prev]) "loop.example/s02544/impl.transaction").run Tryz.prog w = .ok (93, .agg #[.int .i64 txn, .int .i64 prev]) w := by kernel_rfl
@[go_sem] theorem jgt (n : Nat) (txn prev : Int) (w : World) : (method (n + 1) 149 (.agg #[.int .i64 txn, .int .i64 prev]) "loop.example/s02544/impl.ahead").run Tryz.prog w = .ok (94, .agg #[.int .i64 txn, .int .i64 prev]) w := by kernel_rfl
@[go_sem] theorem jgu (n : Nat) (txn prev : Int) (w : World) : (method (n + 1) 149 (.agg #[.int .i64 txn, .int .i64 prev]) "loop.example/s02544/impl.appendRest").run Tryz.prog w = .ok (155, .agg #[.int .i64 txn, .int .i64 prev]) w := by kernel_rfl
set_option maxRecDepth 100000 in
theorem jeE (txn prev : Int) (w : World) : Calls Tryz.prog 97 #[.agg #[.int .i64 txn, .int .i64 prev]] w fun e w' => e = .returned (.int .i64 4) ∧ Same w w' := by
 go_enter Tryz.func97, Tryz.ntmps97
 go_wp2
 go_ret
 exact ⟨rfl, kZ0.alloc _⟩
@[go_sem] theorem jgv (n : Nat) (txn prev : Int) (w : World) : (method (n + 1) 150 (.agg #[.int .i64 txn, .int .i64 prev]) "loop.example/s02544/impl.kind").run Tryz.prog w = .ok (98, .agg #[.int .i64 txn, .int .i64 prev]) w := by kernel_rfl
@[go_sem] theorem jgw (n : Nat) (txn prev : Int) (w : World) : (method (n + 1) 150 (.agg #[.int .i64 txn, .int .i64 prev]) "loop.example/s02544/impl.transaction").run Tryz.prog w = .ok (93, .agg #[.int .i64 txn, .int .i64 prev]) w := by kernel_rfl
@[go_sem] theorem jgx (n : Nat) (txn prev : Int) (w : World) : (method (n + 1) 150 (.agg #[.int .i64 txn, .int .i64 prev]) "loop.example/s02544/impl.ahead").run Tryz.prog w = .ok (94, .agg #[.int .i64 txn, .int .i64 prev]) w := by kernel_rfl
@[go_sem] theorem jgy (n : Nat) (txn prev : Int) (w : World) : (method (n + 1) 150 (.agg #[.int .i64 txn, .int .i64 prev]) "loop.example/s02544/impl.appendRest").run Tryz.prog w = .ok (155, .agg #[.int .i64 txn, .int .i64 prev]) w := by kernel_rfl
set_option maxRecDepth 100000 in
theorem jeF (txn prev : Int) (w : World) : Calls Tryz.prog 98 #[.agg #[.int .i64 txn, .int .i64 prev]] w fun e w' => e = .returned (.int .i64 5) ∧ Same w w' := by
 go_enter Tryz.func98, Tryz.ntmps98
 go_wp2
 go_ret
 exact ⟨rfl, kZ0.alloc _⟩
@[go_sem] theorem jgz (n : Nat) (txn prev : Int) (w : World) : (method (n + 1) 151 (.agg #[.int .i64 txn, .int .i64 prev]) "loop.example/s02544/impl.kind").run Tryz.prog w = .ok (99, .agg #[.int .i64 txn, .int .i64 prev]) w := by kernel_rfl
@[go_sem] theorem jgA (n : Nat) (txn prev : Int) (w : World) : (method (n + 1) 151 (.agg #[.int .i64 txn, .int .i64 prev]) "loop.example/s02544/impl.transaction").run Tryz.prog w = .ok (93, .agg #[.int .i64 txn, .int .i64 prev]) w := by kernel_rfl
@[go_sem] theorem jgB (n : Nat) (txn prev : Int) (w : World) : (method (n + 1) 151 (.agg #[.int .i64 txn, .int .i64 prev]) "loop.example/s02544/impl.ahead").run Tryz.prog w = .ok (94, .agg #[.int .i64 txn, .int .i64 prev]) w := by kernel_rfl
@[go_sem] theorem jgC (n : Nat) (txn prev : Int) (w : World) : (method (n + 1) 151 (.agg #[.int .i64 txn, .int .i64 prev]) "loop.example/s02544/impl.appendRest").run Tryz.prog w = .ok (155, .agg #[.int .i64 txn, .int .i64 prev]) w := by kernel_rfl
set_option maxRecDepth 100000 in
theorem jeG (txn prev : Int) (w : World) : Calls Tryz.prog 99 #[.agg #[.int .i64 txn, .int .i64 prev]] w fun e w' => e = .returned (.int .i64 6) ∧ Same w w' := by
 go_enter Tryz.func99, Tryz.ntmps99
 go_wp2
 go_ret
 exact ⟨rfl, kZ0.alloc _⟩
@[go_sem] theorem jgD (n : Nat) (txn prev nt : Int) (ta : Option Addr) (tn tc : Nat) (da : Option Addr) (dn dc : Nat) (w : World) : (method (n + 1) 155 (.agg #[.int .i64 txn, .int .i64 prev, .int .i64 nt, .slice ta tn tc, .slice da dn dc]) "loop.example/s02544/impl.kind").run Tryz.prog w = .ok (100, .agg #[.int .i64 txn, .int .i64 prev, .int .i64 nt, .slice ta tn tc, .slice da dn dc]) w := by kernel_rfl
@[go_sem] theorem jgE (n : Nat) (txn prev nt : Int) (ta : Option Addr) (tn tc : Nat) (da : Option Addr) (dn dc : Nat) (w : World) : (method (n + 1) 155 (.agg #[.int .i64 txn, .int .i64 prev, .int .i64 nt, .slice ta tn tc, .slice da dn dc]) "loop.example/s02544/impl.transaction").run Tryz.prog w = .ok (93, .agg #[.int .i64 txn, .int .i64 prev]) w := by kernel_rfl
@[go_sem] theorem jgF (n : Nat) (txn prev nt : Int) (ta : Option Addr) (tn tc : Nat) (da : Option Addr) (dn dc : Nat) (w : World) : (method (n + 1) 155 (.agg #[.int .i64 txn, .int .i64 prev, .int .i64 nt, .slice ta tn tc, .slice da dn dc]) "loop.example/s02544/impl.ahead").run Tryz.prog w = .ok (94, .agg #[.int .i64 txn, .int .i64 prev]) w := by kernel_rfl
@[go_sem] theorem jgG (n : Nat) (txn prev nt : Int) (ta : Option Addr) (tn tc : Nat) (da : Option Addr) (dn dc : Nat) (w : World) : (method (n + 1) 155 (.agg #[.int .i64 txn, .int .i64 prev, .int .i64 nt, .slice ta tn tc, .slice da dn dc]) "loop.example/s02544/impl.appendRest").run Tryz.prog w = .ok (171, .agg #[.int .i64 txn, .int .i64 prev, .int .i64 nt, .slice ta tn tc, .slice da dn dc]) w := by kernel_rfl
set_option maxRecDepth 100000 in
theorem jeH (txn prev nt : Int) (ta : Option Addr) (tn tc : Nat) (da : Option Addr) (dn dc : Nat) (w : World) : Calls Tryz.prog 100 #[.agg #[.int .i64 txn, .int .i64 prev, .int .i64 nt, .slice ta tn tc, .slice da dn dc]] w fun e w' => e = .returned (.int .i64 7) ∧ Same w w' := by
 go_enter Tryz.func100, Tryz.ntmps100
 go_wp2
 go_ret
 exact ⟨rfl, kZ0.alloc _⟩
@[go_sem] theorem jgH (n : Nat) (txn prev page : Int) (ga : Option Addr) (gn gc : Nat) (w : World) : (method (n + 1) 158 (.agg #[.int .i64 txn, .int .i64 prev, .int .i64 page, .slice ga gn gc]) "loop.example/s02544/impl.kind").run Tryz.prog w = .ok (101, .agg #[.int .i64 txn, .int .i64 prev, .int .i64 page, .slice ga gn gc]) w := by kernel_rfl
@[go_sem] theorem jgI (n : Nat) (txn prev page : Int) (ga : Option Addr) (gn gc : Nat) (w : World) : (method (n + 1) 158 (.agg #[.int .i64 txn, .int .i64 prev, .int .i64 page, .slice ga gn gc]) "loop.example/s02544/impl.transaction").run Tryz.prog w = .ok (93, .agg #[.int .i64 txn, .int .i64 prev]) w := by kernel_rfl
@[go_sem] theorem jgJ (n : Nat) (txn prev page : Int) (ga : Option Addr) (gn gc : Nat) (w : World) : (method (n + 1) 158 (.agg #[.int .i64 txn, .int .i64 prev, .int .i64 page, .slice ga gn gc]) "loop.example/s02544/impl.ahead").run Tryz.prog w = .ok (94, .agg #[.int .i64 txn, .int .i64 prev]) w := by kernel_rfl
@[go_sem] theorem jgK (n : Nat) (txn prev page : Int) (ga : Option Addr) (gn gc : Nat) (w : World) : (method (n + 1) 158 (.agg #[.int .i64 txn, .int .i64 prev, .int .i64 page, .slice ga gn gc]) "loop.example/s02544/impl.appendRest").run Tryz.prog w = .ok (175, .agg #[.int .i64 txn, .int .i64 prev, .int .i64 page, .slice ga gn gc]) w := by kernel_rfl
set_option maxRecDepth 100000 in
theorem jeI (txn prev page : Int) (ga : Option Addr) (gn gc : Nat) (w : World) : Calls Tryz.prog 101 #[.agg #[.int .i64 txn, .int .i64 prev, .int .i64 page, .slice ga gn gc]] w fun e w' => e = .returned (.int .i64 8) ∧ Same w w' := by
 go_enter Tryz.func101, Tryz.ntmps101
 go_wp2
 go_ret
 exact ⟨rfl, kZ0.alloc _⟩
end Go.Proofs.YtaojjcnmififoaaGreat
