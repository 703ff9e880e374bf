import Derived.Test.YtdgmecmkkddpeaaGreatG19
import Derived.Test.YtdgmecmkkddpeaaGreatPlainRec
import Derived.Deep.RegionWith
import Derived.Deep.DeepMust
namespace Go.Proofs.YtdgmecmkkddpeaaGreat
set_option maxRecDepth 100000
set_option maxHeartbeats 8000000
set_option linter.unusedVariables false
set_option linter.unusedSimpArgs false
open Go.RowKit
theorem appendTo_own (v : Value) (bs : List Int) (page slot : Int) (w : World) (hpg : IsI page) (hsl : IsI slot) (hl : bs.length ≤ 1000000) (ho : Own 0 5 .u8 w v bs) :
  Calls Tryz.prog 128 #[.agg #[.int .i64 page, .int .i64 slot], v] w fun e w' => ∃ aa nn cc, e = .returned (.slice aa nn cc) ∧ Own 0 5 .u8 w' (.slice aa nn cc) (bs ++ (numB page 2 ++ numB slot 2)) ∧ Grew w v w' (.slice aa nn cc) := by
 have b0 := (Blk.newL w [.int .i64 page, .int .i64 slot] 94).drew
 have HG0 := (show Hid (Grew w v ((w.alloc (.cells #[.int .i64 page, .int .i64 slot] 94)).drew) v) from Grew.of_same ((Kept.refl _ _).alloc _).drew)
 have HO0 := (show Hid (Own 0 5 .u8 ((w.alloc (.cells #[.int .i64 page, .int .i64 slot] 94)).drew) (v) (bs)) from ho.same ((Kept.refl _ _).alloc _).drew)
 have HNb0 := (show Hid (¬ v.ownBlock = some w.heap.size) from fun e => by have := (ho.lt _ e).2; omega)
 have hl0 : bs.length ≤ 1000000 := hl
 clear ho hl
 go_enter Tryz.func128, Tryz.ntmps128
 go_wp2_with fail
 let Y1 : World → Prop := fun wx : World => wx.cell? ⟨w.heap.size, 0, none⟩ = some (.int .i64 page) ∧ wx.cell? ⟨w.heap.size, 1, none⟩ = some (.int .i64 slot)
 have hS : Y1 ((w.alloc (.cells #[.int .i64 page, .int .i64 slot] 94)).drew) := by exact ⟨b0.cell 0, b0.cell 1⟩
 refine wp_region_V Y1 99 8 rfl (by kernel_rfl) ?_
 refine tk 0 5 hS ?_
 refine tk 1 6 hS ?_
 refine tk 2 7 hS ?_
 refine tk 4 9 hS ?_
 refine tk 5 10 hS ?_
 refine wpAnyV_one (i := 3) (by kernel_rfl) rfl (fun K hK => ?_)
 go_simp
 refine (appendNumber_own _ (bs) (page) 2 _ hpg (by unfold IsI; omega) (by omega) HO0.out).mono ?_
 rintro e wk1 ⟨ak1, nk1, ck1, rfl, hown, hg⟩
 have HOk1 := (show Hid (Own 0 5 .u8 wk1 (.slice ak1 nk1 ck1) ((bs) ++ numB (page) 2)) from hown)
 have HGk1 := hid (HG0.out.trans hg)
 have bk1 := b0.kept hg.kept HNb0.out
 have HNbk1 := (show Hid (¬ (Value.slice ak1 nk1 ck1).ownBlock = some (w.heap.size)) from fun e => (hg.own _ e).elim HNb0.out (fun h => by have h := Nat.lt_of_lt_of_le b0.lt h; omega))
 have hlk1 : ((bs) ++ numB (page) 2).length ≤ 1000008 := by rw [List.length_append]; have := numB_length (page) 2; omega
 clear hown hg
 have hS : Y1 wk1 := by exact ⟨bk1.cell 0, bk1.cell 1⟩
 refine hK.out _ _ (fun _ => hS) ?_
 clear hK K
 try simp only [Act.put, sA, s0, sS]
 refine wpAnyV_one (i := 6) (by kernel_rfl) rfl (fun K hK => ?_)
 go_simp
 refine (appendNumber_own _ ((bs) ++ numB (page) 2) (slot) 2 _ hsl (by unfold IsI; omega) (by omega) HOk1.out).mono ?_
 rintro e wk2 ⟨ak2, nk2, ck2, rfl, hown, hg⟩
 have HOk2 := (show Hid (Own 0 5 .u8 wk2 (.slice ak2 nk2 ck2) (((bs) ++ numB (page) 2) ++ numB (slot) 2)) from hown)
 have HGk2 := hid (HGk1.out.trans hg)
 have bk2 := bk1.kept hg.kept HNbk1.out
 have HNbk2 := (show Hid (¬ (Value.slice ak2 nk2 ck2).ownBlock = some (w.heap.size)) from fun e => (hg.own _ e).elim HNbk1.out (fun h => by have h := Nat.lt_of_lt_of_le bk1.lt h; omega))
 have hlk2 : (((bs) ++ numB (page) 2) ++ numB (slot) 2).length ≤ 1000016 := by rw [List.length_append]; have := numB_length (slot) 2; omega
 clear hown hg
 have hS : Y1 wk2 := by exact ⟨bk2.cell 0, bk2.cell 1⟩
 refine hK.out _ _ (fun _ => hS) ?_
 clear hK K
 try simp only [Act.put, sA, s0, sS]
 refine tk 7 4 hS ?_
 refine wpAnyV_done (by kernel_rfl) ?_
 go_wp2
 go_ret
 exact ⟨_, _, _, rfl, by simpa using HOk2.out, HGk2.out⟩
theorem headRest_own (v : Value) (bs : List Int) (txn prev : Int) (w : World)  (hl : bs.length ≤ 1000000) (ho : Own 0 5 .u8 w v bs) :
  Calls Tryz.prog 119 #[.agg #[.int .i64 txn, .int .i64 prev], v] w fun e w' => ∃ aa nn cc, e = .returned (.slice aa nn cc) ∧ Own 0 5 .u8 w' (.slice aa nn cc) (bs ++ []) ∧ Grew w v w' (.slice aa nn cc) := by
 obtain ⟨aa, nn, cc, rfl⟩ := slice_of_own ho
 have HO0 := (show Hid (Own 0 5 .u8 ((w.alloc (.cells #[.int .i64 txn, .int .i64 prev] 92))) (.slice aa nn cc) (bs)) from ho.same ((Kept.refl _ _).alloc _))
 have HG0 := (show Hid (Grew w (.slice aa nn cc) ((w.alloc (.cells #[.int .i64 txn, .int .i64 prev] 92))) (.slice aa nn cc)) from Grew.of_same ((Kept.refl _ _).alloc _))
 clear ho
 go_enter Tryz.func119, Tryz.ntmps119
 go_wp2
 go_ret
 exact ⟨aa, nn, cc, rfl, by simpa using HO0.out, HG0.out⟩
theorem updRest_own (v : Value) (bs : List Int) (txn prev page slot : Int) (bu : Bool) (ba : Option Addr) (bc : Nat) (bb : List Int) (au : Bool) (aa : Option Addr) (ac : Nat) (ab : List Int) (w : World) (hpg : IsI page) (hsl : IsI slot) (hbl : bb.length ≤ 1000) (hal : ab.length ≤ 1000) (hrb : ∀ wx, Kept (fun b => v.ownBlock = some b) w wx → Rd .u8 wx (.slice ba bb.length bc) bb) (hra : ∀ wx, Kept (fun b => v.ownBlock = some b) w wx → Rd .u8 wx (.slice aa ab.length ac) ab) (hl : bs.length ≤ 1000000) (ho : Own 0 5 .u8 w v bs) :
  Calls Tryz.prog 126 #[.agg #[.int .i64 txn, .int .i64 prev, .int .i64 page, .int .i64 slot, .bool bu, .slice ba bb.length bc, .bool au, .slice aa ab.length ac], v] w fun e w' => ∃ aa nn cc, e = .returned (.slice aa nn cc) ∧ Own 0 5 .u8 w' (.slice aa nn cc) (bs ++ (((numB page 2 ++ numB slot 2) ++ partB bu bb) ++ partB au ab)) ∧ Grew w v w' (.slice aa nn cc) := by
 have HRb := (show Hid (∀ wx, Kept (fun b => v.ownBlock = some b) w wx → Rd .u8 wx (.slice ba bb.length bc) bb) from hrb)
 have HRa := (show Hid (∀ wx, Kept (fun b => v.ownBlock = some b) w wx → Rd .u8 wx (.slice aa ab.length ac) ab) from hra)
 clear hrb hra
 have b0 := (Blk.newL w [.int .i64 txn, .int .i64 prev, .int .i64 page, .int .i64 slot, .bool bu, .slice ba bb.length bc, .bool au, .slice aa ab.length ac] 96)
 have HG0 := (show Hid (Grew w v ((w.alloc (.cells #[.int .i64 txn, .int .i64 prev, .int .i64 page, .int .i64 slot, .bool bu, .slice ba bb.length bc, .bool au, .slice aa ab.length ac] 96))) v) from Grew.of_same ((Kept.refl _ _).alloc _))
 have HO0 := (show Hid (Own 0 5 .u8 ((w.alloc (.cells #[.int .i64 txn, .int .i64 prev, .int .i64 page, .int .i64 slot, .bool bu, .slice ba bb.length bc, .bool au, .slice aa ab.length ac] 96))) (v) (bs)) from ho.same ((Kept.refl _ _).alloc _))
 have HNb0 := (show Hid (¬ v.ownBlock = some w.heap.size) from fun e => by have := (ho.lt _ e).2; omega)
 have hl0 : bs.length ≤ 1000000 := hl
 clear ho hl
 go_enter Tryz.func126, Tryz.ntmps126
 go_wp2_with fail
 refine (appendTo_own _ (bs) page slot _ hpg hsl (by omega) HO0.out).mono ?_
 rintro e wk1 ⟨ak1, nk1, ck1, rfl, hown, hg⟩
 have HOk1 := (show Hid (Own 0 5 .u8 wk1 (.slice ak1 nk1 ck1) ((bs) ++ (numB page 2 ++ numB slot 2))) from hown)
 have HGk1 := hid (HG0.out.trans hg)
 have bk1 := b0.kept hg.kept HNb0.out
 have HNbk1 := (show Hid (¬ (Value.slice ak1 nk1 ck1).ownBlock = some (w.heap.size)) from fun e => (hg.own _ e).elim HNb0.out (fun h => by have h := Nat.lt_of_lt_of_le b0.lt h; omega))
 have hlk1 : ((bs) ++ (numB page 2 ++ numB slot 2)).length ≤ 1000016 := by rw [List.length_append]; have := numB_length page 2; have := numB_length slot 2; rw [List.length_append]; omega
 clear hown hg
 have dbk1_4 := bk1.c4
 have dbk1_5 := bk1.c5
 go_wp2_with fail
 refine (appendSlot_own _ ((bs) ++ (numB page 2 ++ numB slot 2)) bu (.slice ba bb.length bc) (bb) _ (by omega) (by omega) (fun wx hkx => HRb.out wx (HGk1.out.kept.next hkx (fun i hi e => (HGk1.out.own i e).resolve_right (by omega)))) HOk1.out).mono ?_
 rintro e wk2 ⟨ak2, nk2, ck2, rfl, hown, hg⟩
 have HOk2 := (show Hid (Own 0 5 .u8 wk2 (.slice ak2 nk2 ck2) (((bs) ++ (numB page 2 ++ numB slot 2)) ++ partB bu (bb))) from hown)
 have HGk2 := hid (HGk1.out.trans hg)
 have bk2 := bk1.kept hg.kept HNbk1.out
 have HNbk2 := (show Hid (¬ (Value.slice ak2 nk2 ck2).ownBlock = some (w.heap.size)) from fun e => (hg.own _ e).elim HNbk1.out (fun h => by have h := Nat.lt_of_lt_of_le bk1.lt h; omega))
 have hlk2 : (((bs) ++ (numB page 2 ++ numB slot 2)) ++ partB bu (bb)).length ≤ 1001116 := by rw [List.length_append]; have := partB_length bu (bb); omega
 clear hown hg
 have dbk2_6 := bk2.c6
 have dbk2_7 := bk2.c7
 go_wp2_with fail
 refine (appendSlot_own _ (((bs) ++ (numB page 2 ++ numB slot 2)) ++ partB bu (bb)) au (.slice aa ab.length ac) (ab) _ (by omega) (by omega) (fun wx hkx => HRa.out wx (HGk2.out.kept.next hkx (fun i hi e => (HGk2.out.own i e).resolve_right (by omega)))) HOk2.out).mono ?_
 rintro e wk3 ⟨ak3, nk3, ck3, rfl, hown, hg⟩
 have HOk3 := (show Hid (Own 0 5 .u8 wk3 (.slice ak3 nk3 ck3) ((((bs) ++ (numB page 2 ++ numB slot 2)) ++ partB bu (bb)) ++ partB au (ab))) from hown)
 have HGk3 := hid (HGk2.out.trans hg)
 have bk3 := bk2.kept hg.kept HNbk2.out
 have HNbk3 := (show Hid (¬ (Value.slice ak3 nk3 ck3).ownBlock = some (w.heap.size)) from fun e => (hg.own _ e).elim HNbk2.out (fun h => by have h := Nat.lt_of_lt_of_le bk2.lt h; omega))
 have hlk3 : ((((bs) ++ (numB page 2 ++ numB slot 2)) ++ partB bu (bb)) ++ partB au (ab)).length ≤ 1002216 := by rw [List.length_append]; have := partB_length au (ab); omega
 clear hown hg
 go_wp2
 go_ret
 exact ⟨_, _, _, rfl, by simpa using HOk3.out, HGk3.out⟩
theorem undoRest_own (v : Value) (bs : List Int) (txn prev page slot : Int) (au : Bool) (aa : Option Addr) (ac : Nat) (ab : List Int) (un : Int) (w : World) (hpg : IsI page) (hsl : IsI slot) (hun : IsI un) (hal : ab.length ≤ 1000) (hra : ∀ wx, Kept (fun b => v.ownBlock = some b) w wx → Rd .u8 wx (.slice aa ab.length ac) ab) (hl : bs.length ≤ 1000000) (ho : Own 0 5 .u8 w v bs) :
  Calls Tryz.prog 132 #[.agg #[.int .i64 txn, .int .i64 prev, .int .i64 page, .int .i64 slot, .bool au, .slice aa ab.length ac, .int .i64 un], v] w fun e w' => ∃ aa nn cc, e = .returned (.slice aa nn cc) ∧ Own 0 5 .u8 w' (.slice aa nn cc) (bs ++ (((numB page 2 ++ numB slot 2) ++ partB au ab) ++ numB un 8)) ∧ Grew w v w' (.slice aa nn cc) := by
 have HRa := (show Hid (∀ wx, Kept (fun b => v.ownBlock = some b) w wx → Rd .u8 wx (.slice aa ab.length ac) ab) from hra)
 clear hra
 have b0 := (Blk.newL w [.int .i64 txn, .int .i64 prev, .int .i64 page, .int .i64 slot, .bool au, .slice aa ab.length ac, .int .i64 un] 98)
 have HG0 := (show Hid (Grew w v ((w.alloc (.cells #[.int .i64 txn, .int .i64 prev, .int .i64 page, .int .i64 slot, .bool au, .slice aa ab.length ac, .int .i64 un] 98))) v) from Grew.of_same ((Kept.refl _ _).alloc _))
 have HO0 := (show Hid (Own 0 5 .u8 ((w.alloc (.cells #[.int .i64 txn, .int .i64 prev, .int .i64 page, .int .i64 slot, .bool au, .slice aa ab.length ac, .int .i64 un] 98))) (v) (bs)) from ho.same ((Kept.refl _ _).alloc _))
 have HNb0 := (show Hid (¬ v.ownBlock = some w.heap.size) from fun e => by have := (ho.lt _ e).2; omega)
 have hl0 : bs.length ≤ 1000000 := hl
 clear ho hl
 go_enter Tryz.func132, Tryz.ntmps132
 go_wp2_with fail
 refine (appendTo_own _ (bs) page slot _ hpg hsl (by omega) HO0.out).mono ?_
 rintro e wk1 ⟨ak1, nk1, ck1, rfl, hown, hg⟩
 have HOk1 := (show Hid (Own 0 5 .u8 wk1 (.slice ak1 nk1 ck1) ((bs) ++ (numB page 2 ++ numB slot 2))) from hown)
 have HGk1 := hid (HG0.out.trans hg)
 have bk1 := b0.kept hg.kept HNb0.out
 have HNbk1 := (show Hid (¬ (Value.slice ak1 nk1 ck1).ownBlock = some (w.heap.size)) from fun e => (hg.own _ e).elim HNb0.out (fun h => by have h := Nat.lt_of_lt_of_le b0.lt h; omega))
 have hlk1 : ((bs) ++ (numB page 2 ++ numB slot 2)).length ≤ 1000016 := by rw [List.length_append]; have := numB_length page 2; have := numB_length slot 2; rw [List.length_append]; omega
 clear hown hg
 have dbk1_4 := bk1.c4
 have dbk1_5 := bk1.c5
 go_wp2_with fail
 refine (appendSlot_own _ ((bs) ++ (numB page 2 ++ numB slot 2)) au (.slice aa ab.length ac) (ab) _ (by omega) (by omega) (fun wx hkx => HRa.out wx (HGk1.out.kept.next hkx (fun i hi e => (HGk1.out.own i e).resolve_right (by omega)))) HOk1.out).mono ?_
 rintro e wk2 ⟨ak2, nk2, ck2, rfl, hown, hg⟩
 have HOk2 := (show Hid (Own 0 5 .u8 wk2 (.slice ak2 nk2 ck2) (((bs) ++ (numB page 2 ++ numB slot 2)) ++ partB au (ab))) from hown)
 have HGk2 := hid (HGk1.out.trans hg)
 have bk2 := bk1.kept hg.kept HNbk1.out
 have HNbk2 := (show Hid (¬ (Value.slice ak2 nk2 ck2).ownBlock = some (w.heap.size)) from fun e => (hg.own _ e).elim HNbk1.out (fun h => by have h := Nat.lt_of_lt_of_le bk1.lt h; omega))
 have hlk2 : (((bs) ++ (numB page 2 ++ numB slot 2)) ++ partB au (ab)).length ≤ 1001116 := by rw [List.length_append]; have := partB_length au (ab); omega
 clear hown hg
 have dbk2_6 := bk2.c6
 go_wp2_with fail
 refine (appendNumber_own _ (((bs) ++ (numB page 2 ++ numB slot 2)) ++ partB au (ab)) (un) 8 _ hun (by unfold IsI; omega) (by omega) HOk2.out).mono ?_
 rintro e wk3 ⟨ak3, nk3, ck3, rfl, hown, hg⟩
 have HOk3 := (show Hid (Own 0 5 .u8 wk3 (.slice ak3 nk3 ck3) ((((bs) ++ (numB page 2 ++ numB slot 2)) ++ partB au (ab)) ++ numB (un) 8)) from hown)
 have HGk3 := hid (HGk2.out.trans hg)
 have bk3 := bk2.kept hg.kept HNbk2.out
 have HNbk3 := (show Hid (¬ (Value.slice ak3 nk3 ck3).ownBlock = some (w.heap.size)) from fun e => (hg.own _ e).elim HNbk2.out (fun h => by have h := Nat.lt_of_lt_of_le bk2.lt h; omega))
 have hlk3 : ((((bs) ++ (numB page 2 ++ numB slot 2)) ++ partB au (ab)) ++ numB (un) 8).length ≤ 1001124 := by rw [List.length_append]; have := numB_length (un) 8; omega
 clear hown hg
 go_wp2
 go_ret
 exact ⟨_, _, _, rfl, by simpa using HOk3.out, HGk3.out⟩
theorem imgRest_own (v : Value) (bs : List Int) (txn prev page : Int) (ia : Option Addr) (ic : Nat) (ib : List Int) (w : World) (hpg : IsI page) (hil : ib.length ≤ 4096) (hri : ∀ wx, Kept (fun b => v.ownBlock = some b) w wx → Rd .u8 wx (.slice ia ib.length ic) ib) (hl : bs.length ≤ 1000000) (ho : Own 0 5 .u8 w v bs) :
  Calls Tryz.prog 139 #[.agg #[.int .i64 txn, .int .i64 prev, .int .i64 page, .slice ia ib.length ic], v] w fun e w' => ∃ aa nn cc, e = .returned (.slice aa nn cc) ∧ Own 0 5 .u8 w' (.slice aa nn cc) (bs ++ (numB page 2 ++ ib)) ∧ Grew w v w' (.slice aa nn cc) := by
 have HRi := (show Hid (∀ wx, Kept (fun b => v.ownBlock = some b) w wx → Rd .u8 wx (.slice ia ib.length ic) ib) from hri)
 clear hri
 have b0 := (Blk.newL w [.int .i64 txn, .int .i64 prev, .int .i64 page, .slice ia ib.length ic] 107).drew
 have HG0 := (show Hid (Grew w v ((w.alloc (.cells #[.int .i64 txn, .int .i64 prev, .int .i64 page, .slice ia ib.length ic] 107)).drew) v) from Grew.of_same ((Kept.refl _ _).alloc _).drew)
 have HO0 := (show Hid (Own 0 5 .u8 ((w.alloc (.cells #[.int .i64 txn, .int .i64 prev, .int .i64 page, .slice ia ib.length ic] 107)).drew) (v) (bs)) from ho.same ((Kept.refl _ _).alloc _).drew)
 have HNb0 := (show Hid (¬ v.ownBlock = some w.heap.size) from fun e => by have := (ho.lt _ e).2; omega)
 have hl0 : bs.length ≤ 1000000 := hl
 clear ho hl
 go_enter Tryz.func139, Tryz.ntmps139
 go_wp2_with fail
 have hS : ((fun wx : World => wx.cell? ⟨w.heap.size, 2, none⟩ = some (.int .i64 page) ∧ wx.cell? ⟨w.heap.size, 3, none⟩ = some (.slice ia ib.length ic))) ((w.alloc (.cells #[.int .i64 txn, .int .i64 prev, .int .i64 page, .slice ia ib.length ic] 107)).drew) := by exact ⟨b0.cell 2, b0.cell 3⟩
 refine wp_region_V ((fun wx : World => wx.cell? ⟨w.heap.size, 2, none⟩ = some (.int .i64 page) ∧ wx.cell? ⟨w.heap.size, 3, none⟩ = some (.slice ia ib.length ic))) 99 8 rfl (by kernel_rfl) ?_
 refine tk 0 5 hS ?_
 refine tk 1 6 hS ?_
 refine tk 2 7 hS ?_
 refine tk 4 9 hS ?_
 refine tk 5 10 hS ?_
 refine wpAnyV_one (i := 3) (by kernel_rfl) rfl (fun K hK => ?_)
 go_simp
 refine (appendNumber_own _ (bs) (page) 2 _ hpg (by unfold IsI; omega) (by omega) HO0.out).mono ?_
 rintro e wk1 ⟨ak1, nk1, ck1, rfl, hown, hg⟩
 have HOk1 := (show Hid (Own 0 5 .u8 wk1 (.slice ak1 nk1 ck1) ((bs) ++ numB (page) 2)) from hown)
 have HGk1 := hid (HG0.out.trans hg)
 have bk1 := b0.kept hg.kept HNb0.out
 have HNbk1 := (show Hid (¬ (Value.slice ak1 nk1 ck1).ownBlock = some (w.heap.size)) from fun e => (hg.own _ e).elim HNb0.out (fun h => by have h := Nat.lt_of_lt_of_le b0.lt h; omega))
 have hlk1 : ((bs) ++ numB (page) 2).length ≤ 1000008 := by rw [List.length_append]; have := numB_length (page) 2; omega
 clear hown hg
 have hS : ((fun wx : World => wx.cell? ⟨w.heap.size, 2, none⟩ = some (.int .i64 page) ∧ wx.cell? ⟨w.heap.size, 3, none⟩ = some (.slice ia ib.length ic))) wk1 := by exact ⟨bk1.cell 2, bk1.cell 3⟩
 refine hK.out _ _ (fun _ => hS) ?_
 clear hK K
 try simp only [Act.put, sA, s0, sS]
 refine wpAnyV_one (i := 6) (by kernel_rfl) rfl (fun K hK => ?_)
 refine step_app (by rfl) (.tmp 8) (.tmp 10) (by rfl) (.slice ak1 nk1 ck1) (.slice ia ib.length ic) ((bs) ++ numB (page) 2) ib (by rfl) (by rfl) HOk1.out (HRi.out _ HGk1.out.kept) (by omega) ?_
 intro ak2 nk2 ck2 wk2 hown hg
 have HOk2 := (show Hid (Own 0 5 .u8 wk2 (.slice ak2 nk2 ck2) (((bs) ++ numB (page) 2) ++ ib)) from hown)
 have HGk2 := hid (HGk1.out.trans hg)
 have bk2 := bk1.kept hg.kept HNbk1.out
 have HNbk2 := (show Hid (¬ (Value.slice ak2 nk2 ck2).ownBlock = some (w.heap.size)) from fun e => (hg.own _ e).elim HNbk1.out (fun h => by have h := Nat.lt_of_lt_of_le bk1.lt h; omega))
 have hlk2 : (((bs) ++ numB (page) 2) ++ ib).length ≤ 1005008 := by rw [List.length_append]; skip; omega
 clear hown hg
 have hS : ((fun wx : World => wx.cell? ⟨w.heap.size, 2, none⟩ = some (.int .i64 page) ∧ wx.cell? ⟨w.heap.size, 3, none⟩ = some (.slice ia ib.length ic))) wk2 := by exact ⟨bk2.cell 2, bk2.cell 3⟩
 refine hK.out _ _ (fun _ => hS) ?_
 clear hK K
 try simp only [Act.put, sA, s0, sS]
 refine tk 7 4 hS ?_
 refine wpAnyV_done (by kernel_rfl) ?_
 go_wp2
 go_ret
 exact ⟨_, _, _, rfl, by simpa using HOk2.out, HGk2.out⟩
theorem tabRest_own (v : Value) (bs : List Int) (txn prev nt : Int) (te : TypeId) (ta : Option Addr) (tn tc : Nat) (tb : List Int) (de : TypeId) (da : Option Addr) (dn dc : Nat) (db : List Int) (w : World) (hnt : 1 ≤ nt ∧ nt ≤ 2147483648) (hn8 : tn ≤ 8) (hn16 : dn ≤ 16) (htg : ∀ i, i < tn → (1 ≤ tb.getD (i * 4) 0 ∧ tb.getD (i * 4) 0 ≤ 2147483647) ∧ (1 ≤ tb.getD (i * 4 + 1) 0 ∧ tb.getD (i * 4 + 1) 0 ≤ 3) ∧ (1 ≤ tb.getD (i * 4 + 2) 0 ∧ tb.getD (i * 4 + 2) 0 ≤ 1099511627776) ∧ (0 ≤ tb.getD (i * 4 + 3) 0 ∧ tb.getD (i * 4 + 3) 0 ≤ tb.getD (i * 4 + 2) 0)) (hdg : ∀ i, i < dn → (0 ≤ db.getD (i * 2) 0 ∧ db.getD (i * 2) 0 < 16) ∧ (1 ≤ db.getD (i * 2 + 1) 0 ∧ db.getD (i * 2 + 1) 0 ≤ 1099511627776)) (hrt : ∀ wx, Kept (fun b => v.ownBlock = some b) w wx → RdF 4 wx ⟨te, ta, tn, tc, tb⟩) (hrd : ∀ wx, Kept (fun b => v.ownBlock = some b) w wx → RdF 2 wx ⟨de, da, dn, dc, db⟩) (hl : bs.length ≤ 1000000) (ho : Own 0 5 .u8 w v bs) :
  Calls Tryz.prog 135 #[.agg #[.int .i64 txn, .int .i64 prev, .int .i64 nt, .slice ta tn tc, .slice da dn dc], v] w fun e w' => ∃ aa nn cc, e = .returned (.slice aa nn cc) ∧ Own 0 5 .u8 w' (.slice aa nn cc) (bs ++ ((((numB nt 4 ++ numB (tn : Nat) 1) ++ txsB tb tn) ++ numB (dn : Nat) 1) ++ dysB db dn)) ∧ Grew w v w' (.slice aa nn cc) := by
 have HRT := (show Hid (∀ wx, Kept (fun b => v.ownBlock = some b) w wx → RdF 4 wx ⟨te, ta, tn, tc, tb⟩) from hrt)
 have HRD := (show Hid (∀ wx, Kept (fun b => v.ownBlock = some b) w wx → RdF 2 wx ⟨de, da, dn, dc, db⟩) from hrd)
 have HTG := (show Hid (∀ i, i < tn → _) from htg)
 have HDG := (show Hid (∀ i, i < dn → _) from hdg)
 clear hrt hrd htg hdg
 have b0 := (Blk.newL w [.int .i64 txn, .int .i64 prev, .int .i64 nt, .slice ta tn tc, .slice da dn dc] 105)
 have HG0 := (show Hid (Grew w v ((w.alloc (.cells #[.int .i64 txn, .int .i64 prev, .int .i64 nt, .slice ta tn tc, .slice da dn dc] 105))) v) from Grew.of_same ((Kept.refl _ _).alloc _))
 have HO0 := (show Hid (Own 0 5 .u8 ((w.alloc (.cells #[.int .i64 txn, .int .i64 prev, .int .i64 nt, .slice ta tn tc, .slice da dn dc] 105))) (v) (bs)) from ho.same ((Kept.refl _ _).alloc _))
 have HNb0 := (show Hid (¬ v.ownBlock = some w.heap.size) from fun e => by have := (ho.lt _ e).2; omega)
 have hl0 : bs.length ≤ 1000000 := hl
 clear ho hl
 go_enter Tryz.func135, Tryz.ntmps135
 go_wp2_with fail
 refine (appendNumber_own _ (bs) (nt) 4 _ (by unfold IsI; omega) (by unfold IsI; omega) (by omega) HO0.out).mono ?_
 rintro e wk1 ⟨ak1, nk1, ck1, rfl, hown, hg⟩
 have HOk1 := (show Hid (Own 0 5 .u8 wk1 (.slice ak1 nk1 ck1) ((bs) ++ numB (nt) 4)) from hown)
 have HGk1 := hid (HG0.out.trans hg)
 have bk1 := b0.kept hg.kept HNb0.out
 have HNbk1 := (show Hid (¬ (Value.slice ak1 nk1 ck1).ownBlock = some (w.heap.size)) from fun e => (hg.own _ e).elim HNb0.out (fun h => by have h := Nat.lt_of_lt_of_le b0.lt h; omega))
 have hlk1 : ((bs) ++ numB (nt) 4).length ≤ 1000008 := by rw [List.length_append]; have := numB_length (nt) 4; omega
 clear hown hg
 have dbk1_3 := bk1.c3
 go_wp2_with fail
 refine (appendNumber_own _ ((bs) ++ numB (nt) 4) (tn) 1 _ (by unfold IsI; omega) (by unfold IsI; omega) (by omega) HOk1.out).mono ?_
 rintro e wk2 ⟨ak2, nk2, ck2, rfl, hown, hg⟩
 have HOk2 := (show Hid (Own 0 5 .u8 wk2 (.slice ak2 nk2 ck2) (((bs) ++ numB (nt) 4) ++ numB (tn) 1)) from hown)
 have HGk2 := hid (HGk1.out.trans hg)
 have bk2 := bk1.kept hg.kept HNbk1.out
 have HNbk2 := (show Hid (¬ (Value.slice ak2 nk2 ck2).ownBlock = some (w.heap.size)) from fun e => (hg.own _ e).elim HNbk1.out (fun h => by have h := Nat.lt_of_lt_of_le bk1.lt h; omega))
 have hlk2 : (((bs) ++ numB (nt) 4) ++ numB (tn) 1).length ≤ 1000016 := by rw [List.length_append]; have := numB_length (tn) 1; omega
 clear hown hg
 have dbk2_3 := bk2.c3
 go_wp2
 go_loopw [1, 6, 21] (fun u _ i wr => ∃ (k : Nat) (a : Option Addr) (n c : Nat), k ≤ tn ∧ i = .int .i64 k ∧ u = .slice a n c ∧ Hid (Own 0 5 .u8 wr (.slice a n c) ((((bs) ++ numB (nt) 4) ++ numB (tn) 1) ++ txsB tb k)) ∧ Hid (Grew w v wr (.slice a n c)) ∧ Hid (Blk wr w.heap.size 105 [.int .i64 txn, .int .i64 prev, .int .i64 nt, .slice ta tn tc, .slice da dn dc]) ∧ Hid (¬ (Value.slice a n c).ownBlock = some w.heap.size)) (fun _ _ i _ => tn - (intOf i).toNat)
 case atStart => exact ⟨0, _, _, _, Nat.zero_le _, rfl, rfl, by rw [txsB_zero, List.append_nil]; exact HOk2, HGk2, bk2, HNbk2⟩
 case round =>
  obtain ⟨k, ar, nr, cr, hk, rfl, rfl, HOr, HGr, HBr, HNr⟩ := hrel
  by_cases hlt : k < tn
  ·have hc := (HRT.out wr HGr.out.kept).2.2.resolve_left (fun h => by dsimp only at h; omega)
   dsimp only at hc
   obtain ⟨eB, eO, hta, htle, htc⟩ := hc
   subst hta
   have q0 : wr.cell? ⟨eB, eO + k * 4, none⟩ = some (.int .i64 (tb.getD (k * 4) 0)) := by have h := htc (k * 4) (by omega); simpa only [Nat.add_assoc] using h
   have q1 : wr.cell? ⟨eB, eO + k * 4 + 1, none⟩ = some (.int .i64 (tb.getD (k * 4 + 1) 0)) := by have h := htc (k * 4 + 1) (by omega); simpa only [Nat.add_assoc] using h
   have q2 : wr.cell? ⟨eB, eO + k * 4 + 2, none⟩ = some (.int .i64 (tb.getD (k * 4 + 2) 0)) := by have h := htc (k * 4 + 2) (by omega); simpa only [Nat.add_assoc] using h
   have q3 : wr.cell? ⟨eB, eO + k * 4 + 3, none⟩ = some (.int .i64 (tb.getD (k * 4 + 3) 0)) := by have h := htc (k * 4 + 3) (by omega); simpa only [Nat.add_assoc] using h
   have HGD := (show Hid (_) from HTG.out k hlt)
   have HTB := (show Hid (txB tb k = numB (tb.getD (k * 4) 0) 4 ++ numB (tb.getD (k * 4 + 1) 0) 1 ++ numB (tb.getD (k * 4 + 2) 0) 8 ++ numB (tb.getD (k * 4 + 3) 0) 8) from rfl)
   clear htc
   generalize tb.getD (k * 4) 0 = x0 at *
   generalize tb.getD (k * 4 + 1) 0 = x1 at *
   generalize tb.getD (k * 4 + 2) 0 = x2 at *
   generalize tb.getD (k * 4 + 3) 0 = x3 at *
   obtain ⟨g0, g1, g2, g3⟩ := HGD.out
   have hlr : ((((bs) ++ numB (nt) 4) ++ numB (tn) 1) ++ txsB tb k).length ≤ 1000272 := by rw [List.length_append]; have := txsB_length tb k; omega
   have bmE := HBr.out.alloc (.cells #[.int .i64 x0, .int .i64 x1, .int .i64 x2, .int .i64 x3] 67)
   have emE := Blk.newL wr [.int .i64 x0, .int .i64 x1, .int .i64 x2, .int .i64 x3] 67
   have HNbmE := HNr
   have HNemE := (show Hid (¬ (Value.slice ar nr cr).ownBlock = some wr.heap.size) from fun e => by have := (HOr.out.lt _ e).2; omega)
   have HOmE := (show Hid (Own 0 5 .u8 (wr.alloc (.cells #[.int .i64 x0, .int .i64 x1, .int .i64 x2, .int .i64 x3] 67)) (.slice ar nr cr) ((((bs) ++ numB (nt) 4) ++ numB (tn) 1) ++ txsB tb k)) from HOr.out.same ((Kept.refl _ _).alloc _))
   have HGmE := (show Hid (Grew w v (wr.alloc (.cells #[.int .i64 x0, .int .i64 x1, .int .i64 x2, .int .i64 x3] 67)) (.slice ar nr cr)) from HGr.out.trans (Grew.of_same ((Kept.refl _ _).alloc _)))
   have hlmE := hlr
   have demE_0 := emE.c0
   go_wp2_with fail
   refine (appendNumber_own _ ((((bs) ++ numB (nt) 4) ++ numB (tn) 1) ++ txsB tb k) (x0) 4 _ (by unfold IsI; omega) (by unfold IsI; omega) (by omega) HOmE.out).mono ?_
   rintro e wm1 ⟨am1, nm1, cm1, rfl, hown, hg⟩
   have HOm1 := (show Hid (Own 0 5 .u8 wm1 (.slice am1 nm1 cm1) (((((bs) ++ numB (nt) 4) ++ numB (tn) 1) ++ txsB tb k) ++ numB (x0) 4)) from hown)
   have HGm1 := hid (HGmE.out.trans hg)
   have bm1 := bmE.kept hg.kept HNbmE.out
   have HNbm1 := (show Hid (¬ (Value.slice am1 nm1 cm1).ownBlock = some (w.heap.size)) from fun e => (hg.own _ e).elim HNbmE.out (fun h => by have h := Nat.lt_of_lt_of_le bmE.lt h; omega))
   have em1 := emE.kept hg.kept HNemE.out
   have HNem1 := (show Hid (¬ (Value.slice am1 nm1 cm1).ownBlock = some (wr.heap.size)) from fun e => (hg.own _ e).elim HNemE.out (fun h => by have h := Nat.lt_of_lt_of_le emE.lt h; omega))
   have hlm1 : (((((bs) ++ numB (nt) 4) ++ numB (tn) 1) ++ txsB tb k) ++ numB (x0) 4).length ≤ 1000280 := by rw [List.length_append]; have := numB_length (x0) 4; omega
   clear hown hg
   have dem1_1 := em1.c1
   go_wp2_with fail
   refine (appendNumber_own _ (((((bs) ++ numB (nt) 4) ++ numB (tn) 1) ++ txsB tb k) ++ numB (x0) 4) (x1) 1 _ (by unfold IsI; omega) (by unfold IsI; omega) (by omega) HOm1.out).mono ?_
   rintro e wm2 ⟨am2, nm2, cm2, rfl, hown, hg⟩
   have HOm2 := (show Hid (Own 0 5 .u8 wm2 (.slice am2 nm2 cm2) ((((((bs) ++ numB (nt) 4) ++ numB (tn) 1) ++ txsB tb k) ++ numB (x0) 4) ++ numB (x1) 1)) from hown)
   have HGm2 := hid (HGm1.out.trans hg)
   have bm2 := bm1.kept hg.kept HNbm1.out
   have HNbm2 := (show Hid (¬ (Value.slice am2 nm2 cm2).ownBlock = some (w.heap.size)) from fun e => (hg.own _ e).elim HNbm1.out (fun h => by have h := Nat.lt_of_lt_of_le bm1.lt h; omega))
   have em2 := em1.kept hg.kept HNem1.out
   have HNem2 := (show Hid (¬ (Value.slice am2 nm2 cm2).ownBlock = some (wr.heap.size)) from fun e => (hg.own _ e).elim HNem1.out (fun h => by have h := Nat.lt_of_lt_of_le em1.lt h; omega))
   have hlm2 : ((((((bs) ++ numB (nt) 4) ++ numB (tn) 1) ++ txsB tb k) ++ numB (x0) 4) ++ numB (x1) 1).length ≤ 1000288 := by rw [List.length_append]; have := numB_length (x1) 1; omega
   clear hown hg
   have dem2_2 := em2.c2
   go_wp2_with fail
   refine (appendNumber_own _ ((((((bs) ++ numB (nt) 4) ++ numB (tn) 1) ++ txsB tb k) ++ numB (x0) 4) ++ numB (x1) 1) (x2) 8 _ (by unfold IsI; omega) (by unfold IsI; omega) (by omega) HOm2.out).mono ?_
   rintro e wm3 ⟨am3, nm3, cm3, rfl, hown, hg⟩
   have HOm3 := (show Hid (Own 0 5 .u8 wm3 (.slice am3 nm3 cm3) (((((((bs) ++ numB (nt) 4) ++ numB (tn) 1) ++ txsB tb k) ++ numB (x0) 4) ++ numB (x1) 1) ++ numB (x2) 8)) from hown)
   have HGm3 := hid (HGm2.out.trans hg)
   have bm3 := bm2.kept hg.kept HNbm2.out
   have HNbm3 := (show Hid (¬ (Value.slice am3 nm3 cm3).ownBlock = some (w.heap.size)) from fun e => (hg.own _ e).elim HNbm2.out (fun h => by have h := Nat.lt_of_lt_of_le bm2.lt h; omega))
   have em3 := em2.kept hg.kept HNem2.out
   have HNem3 := (show Hid (¬ (Value.slice am3 nm3 cm3).ownBlock = some (wr.heap.size)) from fun e => (hg.own _ e).elim HNem2.out (fun h => by have h := Nat.lt_of_lt_of_le em2.lt h; omega))
   have hlm3 : (((((((bs) ++ numB (nt) 4) ++ numB (tn) 1) ++ txsB tb k) ++ numB (x0) 4) ++ numB (x1) 1) ++ numB (x2) 8).length ≤ 1000296 := by rw [List.length_append]; have := numB_length (x2) 8; omega
   clear hown hg
   have dem3_3 := em3.c3
   go_wp2_with fail
   refine (appendNumber_own _ (((((((bs) ++ numB (nt) 4) ++ numB (tn) 1) ++ txsB tb k) ++ numB (x0) 4) ++ numB (x1) 1) ++ numB (x2) 8) (x3) 8 _ (by unfold IsI; omega) (by unfold IsI; omega) (by omega) HOm3.out).mono ?_
   rintro e wm4 ⟨am4, nm4, cm4, rfl, hown, hg⟩
   have HOm4 := (show Hid (Own 0 5 .u8 wm4 (.slice am4 nm4 cm4) ((((((((bs) ++ numB (nt) 4) ++ numB (tn) 1) ++ txsB tb k) ++ numB (x0) 4) ++ numB (x1) 1) ++ numB (x2) 8) ++ numB (x3) 8)) from hown)
   have HGm4 := hid (HGm3.out.trans hg)
   have bm4 := bm3.kept hg.kept HNbm3.out
   have HNbm4 := (show Hid (¬ (Value.slice am4 nm4 cm4).ownBlock = some (w.heap.size)) from fun e => (hg.own _ e).elim HNbm3.out (fun h => by have h := Nat.lt_of_lt_of_le bm3.lt h; omega))
   have em4 := em3.kept hg.kept HNem3.out
   have HNem4 := (show Hid (¬ (Value.slice am4 nm4 cm4).ownBlock = some (wr.heap.size)) from fun e => (hg.own _ e).elim HNem3.out (fun h => by have h := Nat.lt_of_lt_of_le em3.lt h; omega))
   have hlm4 : ((((((((bs) ++ numB (nt) 4) ++ numB (tn) 1) ++ txsB tb k) ++ numB (x0) 4) ++ numB (x1) 1) ++ numB (x2) 8) ++ numB (x3) 8).length ≤ 1000304 := by rw [List.length_append]; have := numB_length (x3) 8; omega
   clear hown hg
   go_wp2
   go_roundw
   case rel => exact ⟨k + 1, _, _, _, by omega, by go_num, rfl, by rw [txsB_succ, HTB.out]; simpa [Hid] using HOm4.out, HGm4, bm4, HNbm4⟩
   case measure => simp [intOf]; omega
  ·obtain hkt : k = tn := by omega
   rw [hkt] at HOr
   have hlr : ((((bs) ++ numB (nt) 4) ++ numB (tn) 1) ++ txsB tb tn).length ≤ 1000272 := by rw [List.length_append]; have := txsB_length tb tn; omega
   have br := HBr.out
   have HNbr := HNr
   have dbr_4 := br.c4
   go_wp2_with fail
   refine (appendNumber_own _ ((((bs) ++ numB (nt) 4) ++ numB (tn) 1) ++ txsB tb tn) (dn) 1 _ (by unfold IsI; omega) (by unfold IsI; omega) (by omega) HOr.out).mono ?_
   rintro e wp1 ⟨ap1, np1, cp1, rfl, hown, hg⟩
   have HOp1 := (show Hid (Own 0 5 .u8 wp1 (.slice ap1 np1 cp1) (((((bs) ++ numB (nt) 4) ++ numB (tn) 1) ++ txsB tb tn) ++ numB (dn) 1)) from hown)
   have HGp1 := hid (HGr.out.trans hg)
   have bp1 := br.kept hg.kept HNbr.out
   have HNbp1 := (show Hid (¬ (Value.slice ap1 np1 cp1).ownBlock = some (w.heap.size)) from fun e => (hg.own _ e).elim HNbr.out (fun h => by have h := Nat.lt_of_lt_of_le br.lt h; omega))
   have hlp1 : (((((bs) ++ numB (nt) 4) ++ numB (tn) 1) ++ txsB tb tn) ++ numB (dn) 1).length ≤ 1000280 := by rw [List.length_append]; have := numB_length (dn) 1; omega
   clear hown hg
   have dbp1_4 := bp1.c4
   go_wp2
   go_loopw [1, 8, 50] (fun u _ i wr => ∃ (k : Nat) (a : Option Addr) (n c : Nat), k ≤ dn ∧ i = .int .i64 k ∧ u = .slice a n c ∧ Hid (Own 0 5 .u8 wr (.slice a n c) ((((((bs) ++ numB (nt) 4) ++ numB (tn) 1) ++ txsB tb tn) ++ numB (dn) 1) ++ dysB db k)) ∧ Hid (Grew w v wr (.slice a n c)) ∧ Hid (Blk wr w.heap.size 105 [.int .i64 txn, .int .i64 prev, .int .i64 nt, .slice ta tn tc, .slice da dn dc]) ∧ Hid (¬ (Value.slice a n c).ownBlock = some w.heap.size)) (fun _ _ i _ => dn - (intOf i).toNat)
   case atStart => exact ⟨0, _, _, _, Nat.zero_le _, rfl, rfl, by rw [dysB_zero, List.append_nil]; exact HOp1, HGp1, bp1, HNbp1⟩
   case round =>
    obtain ⟨k, ar, nr, cr, hk, rfl, rfl, HOr, HGr, HBr, HNr⟩ := hrel
    by_cases hlt : k < dn
    ·have hc := (HRD.out wr HGr.out.kept).2.2.resolve_left (fun h => by dsimp only at h; omega)
     dsimp only at hc
     obtain ⟨eB, eO, hta, htle, htc⟩ := hc
     subst hta
     have q0 : wr.cell? ⟨eB, eO + k * 2, none⟩ = some (.int .i64 (db.getD (k * 2) 0)) := by have h := htc (k * 2) (by omega); simpa only [Nat.add_assoc] using h
     have q1 : wr.cell? ⟨eB, eO + k * 2 + 1, none⟩ = some (.int .i64 (db.getD (k * 2 + 1) 0)) := by have h := htc (k * 2 + 1) (by omega); simpa only [Nat.add_assoc] using h
     have HGD := (show Hid (_) from HDG.out k hlt)
     have HTB := (show Hid (dyB db k = numB (db.getD (k * 2) 0) 2 ++ numB (db.getD (k * 2 + 1) 0) 8) from rfl)
     clear htc
     generalize db.getD (k * 2) 0 = y0 at *
     generalize db.getD (k * 2 + 1) 0 = y1 at *
     obtain ⟨g0, g1⟩ := HGD.out
     have hlr : ((((((bs) ++ numB (nt) 4) ++ numB (tn) 1) ++ txsB tb tn) ++ numB (dn) 1) ++ dysB db k).length ≤ 1000536 := by rw [List.length_append]; have := dysB_length db k; omega
     have bzE := HBr.out.alloc (.cells #[.int .i64 y0, .int .i64 y1] 69)
     have ezE := Blk.newL wr [.int .i64 y0, .int .i64 y1] 69
     have HNbzE := HNr
     have HNezE := (show Hid (¬ (Value.slice ar nr cr).ownBlock = some wr.heap.size) from fun e => by have := (HOr.out.lt _ e).2; omega)
     have HOzE := (show Hid (Own 0 5 .u8 (wr.alloc (.cells #[.int .i64 y0, .int .i64 y1] 69)) (.slice ar nr cr) ((((((bs) ++ numB (nt) 4) ++ numB (tn) 1) ++ txsB tb tn) ++ numB (dn) 1) ++ dysB db k)) from HOr.out.same ((Kept.refl _ _).alloc _))
     have HGzE := (show Hid (Grew w v (wr.alloc (.cells #[.int .i64 y0, .int .i64 y1] 69)) (.slice ar nr cr)) from HGr.out.trans (Grew.of_same ((Kept.refl _ _).alloc _)))
     have hlzE := hlr
     have dezE_0 := ezE.c0
     go_wp2_with fail
     refine (appendNumber_own _ ((((((bs) ++ numB (nt) 4) ++ numB (tn) 1) ++ txsB tb tn) ++ numB (dn) 1) ++ dysB db k) (y0) 2 _ (by unfold IsI; omega) (by unfold IsI; omega) (by omega) HOzE.out).mono ?_
     rintro e wz1 ⟨az1, nz1, cz1, rfl, hown, hg⟩
     have HOz1 := (show Hid (Own 0 5 .u8 wz1 (.slice az1 nz1 cz1) (((((((bs) ++ numB (nt) 4) ++ numB (tn) 1) ++ txsB tb tn) ++ numB (dn) 1) ++ dysB db k) ++ numB (y0) 2)) from hown)
     have HGz1 := hid (HGzE.out.trans hg)
     have bz1 := bzE.kept hg.kept HNbzE.out
     have HNbz1 := (show Hid (¬ (Value.slice az1 nz1 cz1).ownBlock = some (w.heap.size)) from fun e => (hg.own _ e).elim HNbzE.out (fun h => by have h := Nat.lt_of_lt_of_le bzE.lt h; omega))
     have ez1 := ezE.kept hg.kept HNezE.out
     have HNez1 := (show Hid (¬ (Value.slice az1 nz1 cz1).ownBlock = some (wr.heap.size)) from fun e => (hg.own _ e).elim HNezE.out (fun h => by have h := Nat.lt_of_lt_of_le ezE.lt h; omega))
     have hlz1 : (((((((bs) ++ numB (nt) 4) ++ numB (tn) 1) ++ txsB tb tn) ++ numB (dn) 1) ++ dysB db k) ++ numB (y0) 2).length ≤ 1000544 := by rw [List.length_append]; have := numB_length (y0) 2; omega
     clear hown hg
     have dez1_1 := ez1.c1
     go_wp2_with fail
     refine (appendNumber_own _ (((((((bs) ++ numB (nt) 4) ++ numB (tn) 1) ++ txsB tb tn) ++ numB (dn) 1) ++ dysB db k) ++ numB (y0) 2) (y1) 8 _ (by unfold IsI; omega) (by unfold IsI; omega) (by omega) HOz1.out).mono ?_
     rintro e wz2 ⟨az2, nz2, cz2, rfl, hown, hg⟩
     have HOz2 := (show Hid (Own 0 5 .u8 wz2 (.slice az2 nz2 cz2) ((((((((bs) ++ numB (nt) 4) ++ numB (tn) 1) ++ txsB tb tn) ++ numB (dn) 1) ++ dysB db k) ++ numB (y0) 2) ++ numB (y1) 8)) from hown)
     have HGz2 := hid (HGz1.out.trans hg)
     have bz2 := bz1.kept hg.kept HNbz1.out
     have HNbz2 := (show Hid (¬ (Value.slice az2 nz2 cz2).ownBlock = some (w.heap.size)) from fun e => (hg.own _ e).elim HNbz1.out (fun h => by have h := Nat.lt_of_lt_of_le bz1.lt h; omega))
     have ez2 := ez1.kept hg.kept HNez1.out
     have HNez2 := (show Hid (¬ (Value.slice az2 nz2 cz2).ownBlock = some (wr.heap.size)) from fun e => (hg.own _ e).elim HNez1.out (fun h => by have h := Nat.lt_of_lt_of_le ez1.lt h; omega))
     have hlz2 : ((((((((bs) ++ numB (nt) 4) ++ numB (tn) 1) ++ txsB tb tn) ++ numB (dn) 1) ++ dysB db k) ++ numB (y0) 2) ++ numB (y1) 8).length ≤ 1000552 := by rw [List.length_append]; have := numB_length (y1) 8; omega
     clear hown hg
     go_wp2
     go_roundw
     case rel => exact ⟨k + 1, _, _, _, by omega, by go_num, rfl, by rw [dysB_succ, HTB.out]; simpa [Hid] using HOz2.out, HGz2, bz2, HNbz2⟩
     case measure => simp [intOf]; omega
    ·obtain hkt : k = dn := by omega
     rw [hkt] at HOr
     go_wp2
     go_ret
     exact ⟨_, _, _, rfl, by simpa using HOr.out, HGr.out⟩
@[go_sem] theorem invk_1 (n : Nat) (txn prev page slot : Int) (bu : Bool) (ba : Option Addr) (bn bc : Nat) (au : Bool) (aa : Option Addr) (an ac : Nat) (w : World) : (method (n + 1) 96 (.agg #[.int .i64 txn, .int .i64 prev, .int .i64 page, .int .i64 slot, .bool bu, .slice ba bn bc, .bool au, .slice aa an ac]) "loop.example/s02544/impl.kind").run Tryz.prog w = .ok (66, .agg #[.int .i64 txn, .int .i64 prev, .int .i64 page, .int .i64 slot, .bool bu, .slice ba bn bc, .bool au, .slice aa an ac]) w := by kernel_rfl
@[go_sem] theorem invt_1 (n : Nat) (txn prev page slot : Int) (bu : Bool) (ba : Option Addr) (bn bc : Nat) (au : Bool) (aa : Option Addr) (an ac : Nat) (w : World) : (method (n + 1) 96 (.agg #[.int .i64 txn, .int .i64 prev, .int .i64 page, .int .i64 slot, .bool bu, .slice ba bn bc, .bool au, .slice aa an ac]) "loop.example/s02544/impl.transaction").run Tryz.prog w = .ok (67, .agg #[.int .i64 txn, .int .i64 prev]) w := by kernel_rfl
@[go_sem] theorem inva_1 (n : Nat) (txn prev page slot : Int) (bu : Bool) (ba : Option Addr) (bn bc : Nat) (au : Bool) (aa : Option Addr) (an ac : Nat) (w : World) : (method (n + 1) 96 (.agg #[.int .i64 txn, .int .i64 prev, .int .i64 page, .int .i64 slot, .bool bu, .slice ba bn bc, .bool au, .slice aa an ac]) "loop.example/s02544/impl.ahead").run Tryz.prog w = .ok (68, .agg #[.int .i64 txn, .int .i64 prev]) w := by kernel_rfl
@[go_sem] theorem invr_1 (n : Nat) (txn prev page slot : Int) (bu : Bool) (ba : Option Addr) (bn bc : Nat) (au : Bool) (aa : Option Addr) (an ac : Nat) (w : World) : (method (n + 1) 96 (.agg #[.int .i64 txn, .int .i64 prev, .int .i64 page, .int .i64 slot, .bool bu, .slice ba bn bc, .bool au, .slice aa an ac]) "loop.example/s02544/impl.appendRest").run Tryz.prog w = .ok (126, .agg #[.int .i64 txn, .int .i64 prev, .int .i64 page, .int .i64 slot, .bool bu, .slice ba bn bc, .bool au, .slice aa an ac]) w := by kernel_rfl
set_option maxRecDepth 100000 in
theorem kindI_1 (txn prev page slot : Int) (bu : Bool) (ba : Option Addr) (bn bc : Nat) (au : Bool) (aa : Option Addr) (an ac : Nat) (w : World) : Calls Tryz.prog 66 #[.agg #[.int .i64 txn, .int .i64 prev, .int .i64 page, .int .i64 slot, .bool bu, .slice ba bn bc, .bool au, .slice aa an ac]] w fun e w' => e = .returned (.int .i64 1) ∧ Same w w' := by
 go_enter Tryz.func66, Tryz.ntmps66
 go_wp2
 go_ret
 exact ⟨rfl, (Kept.refl _ _).alloc _⟩
@[go_sem] theorem invk_2 (n : Nat) (txn prev page slot : Int) (au : Bool) (aa : Option Addr) (an ac : Nat) (un : Int) (w : World) : (method (n + 1) 98 (.agg #[.int .i64 txn, .int .i64 prev, .int .i64 page, .int .i64 slot, .bool au, .slice aa an ac, .int .i64 un]) "loop.example/s02544/impl.kind").run Tryz.prog w = .ok (69, .agg #[.int .i64 txn, .int .i64 prev, .int .i64 page, .int .i64 slot, .bool au, .slice aa an ac, .int .i64 un]) w := by kernel_rfl
@[go_sem] theorem invt_2 (n : Nat) (txn prev page slot : Int) (au : Bool) (aa : Option Addr) (an ac : Nat) (un : Int) (w : World) : (method (n + 1) 98 (.agg #[.int .i64 txn, .int .i64 prev, .int .i64 page, .int .i64 slot, .bool au, .slice aa an ac, .int .i64 un]) "loop.example/s02544/impl.transaction").run Tryz.prog w = .ok (67, .agg #[.int .i64 txn, .int .i64 prev]) w := by kernel_rfl
@[go_sem] theorem inva_2 (n : Nat) (txn prev page slot : Int) (au : Bool) (aa : Option Addr) (an ac : Nat) (un : Int) (w : World) : (method (n + 1) 98 (.agg #[.int .i64 txn, .int .i64 prev, .int .i64 page, .int .i64 slot, .bool au, .slice aa an ac, .int .i64 un]) "loop.example/s02544/impl.ahead").run Tryz.prog w = .ok (68, .agg #[.int .i64 txn, .int .i64 prev]) w := by kernel_rfl
@[go_sem] theorem invr_2 (n : Nat) (txn prev page slot : Int) (au : Bool) (aa : Option Addr) (an ac : Nat) (un : Int) (w : World) : (method (n + 1) 98 (.agg #[.int .i64 txn, .int .i64 prev, .int .i64 page, .int .i64 slot, .bool au, .slice aa an ac, .int .i64 un]) "loop.example/s02544/impl.appendRest").run Tryz.prog w = .ok (132, .agg #[.int .i64 txn, .int .i64 prev, .int .i64 page, .int .i64 slot, .bool au, .slice aa an ac, .int .i64 un]) w := by kernel_rfl
set_option maxRecDepth 100000 in
theorem kindI_2 (txn prev page slot : Int) (au : Bool) (aa : Option Addr) (an ac : Nat) (un : Int) (w : World) : Calls Tryz.prog 69 #[.agg #[.int .i64 txn, .int .i64 prev, .int .i64 page, .int .i64 slot, .bool au, .slice aa an ac, .int .i64 un]] w fun e w' => e = .returned (.int .i64 2) ∧ Same w w' := by
 go_enter Tryz.func69, Tryz.ntmps69
 go_wp2
 go_ret
 exact ⟨rfl, (Kept.refl _ _).alloc _⟩
@[go_sem] theorem invk_3 (n : Nat) (txn prev : Int) (w : World) : (method (n + 1) 100 (.agg #[.int .i64 txn, .int .i64 prev]) "loop.example/s02544/impl.kind").run Tryz.prog w = .ok (70, .agg #[.int .i64 txn, .int .i64 prev]) w := by kernel_rfl
@[go_sem] theorem invt_3 (n : Nat) (txn prev : Int) (w : World) : (method (n + 1) 100 (.agg #[.int .i64 txn, .int .i64 prev]) "loop.example/s02544/impl.transaction").run Tryz.prog w = .ok (67, .agg #[.int .i64 txn, .int .i64 prev]) w := by kernel_rfl
@[go_sem] theorem inva_3 (n : Nat) (txn prev : Int) (w : World) : (method (n + 1) 100 (.agg #[.int .i64 txn, .int .i64 prev]) "loop.example/s02544/impl.ahead").run Tryz.prog w = .ok (68, .agg #[.int .i64 txn, .int .i64 prev]) w := by kernel_rfl
@[go_sem] theorem invr_3 (n : Nat) (txn prev : Int) (w : World) : (method (n + 1) 100 (.agg #[.int .i64 txn, .int .i64 prev]) "loop.example/s02544/impl.appendRest").run Tryz.prog w = .ok (119, .agg #[.int .i64 txn, .int .i64 prev]) w := by kernel_rfl
set_option maxRecDepth 100000 in
theorem kindI_3 (txn prev : Int) (w : World) : Calls Tryz.prog 70 #[.agg #[.int .i64 txn, .int .i64 prev]] w fun e w' => e = .returned (.int .i64 3) ∧ Same w w' := by
 go_enter Tryz.func70, Tryz.ntmps70
 go_wp2
 go_ret
 exact ⟨rfl, (Kept.refl _ _).alloc _⟩
@[go_sem] theorem invk_4 (n : Nat) (txn prev : Int) (w : World) : (method (n + 1) 101 (.agg #[.int .i64 txn, .int .i64 prev]) "loop.example/s02544/impl.kind").run Tryz.prog w = .ok (71, .agg #[.int .i64 txn, .int .i64 prev]) w := by kernel_rfl
@[go_sem] theorem invt_4 (n : Nat) (txn prev : Int) (w : World) : (method (n + 1) 101 (.agg #[.int .i64 txn, .int .i64 prev]) "loop.example/s02544/impl.transaction").run Tryz.prog w = .ok (67, .agg #[.int .i64 txn, .int .i64 prev]) w := by kernel_rfl
@[go_sem] theorem inva_4 (n : Nat) (txn prev : Int) (w : World) : (method (n + 1) 101 (.agg #[.int .i64 txn, .int .i64 prev]) "loop.example/s02544/impl.ahead").run Tryz.prog w = .ok (68, .agg #[.int .i64 txn, .int .i64 prev]) w := by kernel_rfl
@[go_sem] theorem invr_4 (n : Nat) (txn prev : Int) (w : World) : (method (n + 1) 101 (.agg #[.int .i64 txn, .int .i64 prev]) "loop.example/s02544/impl.appendRest").run Tryz.prog w = .ok (119, .agg #[.int .i64 txn, .int .i64 prev]) w := by kernel_rfl
set_option maxRecDepth 100000 in
theorem kindI_4 (txn prev : Int) (w : World) : Calls Tryz.prog 71 #[.agg #[.int .i64 txn, .int .i64 prev]] w fun e w' => e = .returned (.int .i64 4) ∧ Same w w' := by
 go_enter Tryz.func71, Tryz.ntmps71
 go_wp2
 go_ret
 exact ⟨rfl, (Kept.refl _ _).alloc _⟩
@[go_sem] theorem invk_5 (n : Nat) (txn prev : Int) (w : World) : (method (n + 1) 102 (.agg #[.int .i64 txn, .int .i64 prev]) "loop.example/s02544/impl.kind").run Tryz.prog w = .ok (72, .agg #[.int .i64 txn, .int .i64 prev]) w := by kernel_rfl
@[go_sem] theorem invt_5 (n : Nat) (txn prev : Int) (w : World) : (method (n + 1) 102 (.agg #[.int .i64 txn, .int .i64 prev]) "loop.example/s02544/impl.transaction").run Tryz.prog w = .ok (67, .agg #[.int .i64 txn, .int .i64 prev]) w := by kernel_rfl
@[go_sem] theorem inva_5 (n : Nat) (txn prev : Int) (w : World) : (method (n + 1) 102 (.agg #[.int .i64 txn, .int .i64 prev]) "loop.example/s02544/impl.ahead").run Tryz.prog w = .ok (68, .agg #[.int .i64 txn, .int .i64 prev]) w := by kernel_rfl
@[go_sem] theorem invr_5 (n : Nat) (txn prev : Int) (w : World) : (method (n + 1) 102 (.agg #[.int .i64 txn, .int .i64 prev]) "loop.example/s02544/impl.appendRest").run Tryz.prog w = .ok (119, .agg #[.int .i64 txn, .int .i64 prev]) w := by kernel_rfl
set_option maxRecDepth 100000 in
theorem kindI_5 (txn prev : Int) (w : World) : Calls Tryz.prog 72 #[.agg #[.int .i64 txn, .int .i64 prev]] w fun e w' => e = .returned (.int .i64 5) ∧ Same w w' := by
 go_enter Tryz.func72, Tryz.ntmps72
 go_wp2
 go_ret
 exact ⟨rfl, (Kept.refl _ _).alloc _⟩
@[go_sem] theorem invk_6 (n : Nat) (txn prev : Int) (w : World) : (method (n + 1) 103 (.agg #[.int .i64 txn, .int .i64 prev]) "loop.example/s02544/impl.kind").run Tryz.prog w = .ok (73, .agg #[.int .i64 txn, .int .i64 prev]) w := by kernel_rfl
@[go_sem] theorem invt_6 (n : Nat) (txn prev : Int) (w : World) : (method (n + 1) 103 (.agg #[.int .i64 txn, .int .i64 prev]) "loop.example/s02544/impl.transaction").run Tryz.prog w = .ok (67, .agg #[.int .i64 txn, .int .i64 prev]) w := by kernel_rfl
@[go_sem] theorem inva_6 (n : Nat) (txn prev : Int) (w : World) : (method (n + 1) 103 (.agg #[.int .i64 txn, .int .i64 prev]) "loop.example/s02544/impl.ahead").run Tryz.prog w = .ok (68, .agg #[.int .i64 txn, .int .i64 prev]) w := by kernel_rfl
@[go_sem] theorem invr_6 (n : Nat) (txn prev : Int) (w : World) : (method (n + 1) 103 (.agg #[.int .i64 txn, .int .i64 prev]) "loop.example/s02544/impl.appendRest").run Tryz.prog w = .ok (119, .agg #[.int .i64 txn, .int .i64 prev]) w := by kernel_rfl
set_option maxRecDepth 100000 in
theorem kindI_6 (txn prev : Int) (w : World) : Calls Tryz.prog 73 #[.agg #[.int .i64 txn, .int .i64 prev]] w fun e w' => e = .returned (.int .i64 6) ∧ Same w w' := by
 go_enter Tryz.func73, Tryz.ntmps73
 go_wp2
 go_ret
 exact ⟨rfl, (Kept.refl _ _).alloc _⟩
@[go_sem] theorem invk_7 (n : Nat) (txn prev nt : Int) (ta : Option Addr) (tn tc : Nat) (da : Option Addr) (dn dc : Nat) (w : World) : (method (n + 1) 105 (.agg #[.int .i64 txn, .int .i64 prev, .int .i64 nt, .slice ta tn tc, .slice da dn dc]) "loop.example/s02544/impl.kind").run Tryz.prog w = .ok (74, .agg #[.int .i64 txn, .int .i64 prev, .int .i64 nt, .slice ta tn tc, .slice da dn dc]) w := by kernel_rfl
@[go_sem] theorem invt_7 (n : Nat) (txn prev nt : Int) (ta : Option Addr) (tn tc : Nat) (da : Option Addr) (dn dc : Nat) (w : World) : (method (n + 1) 105 (.agg #[.int .i64 txn, .int .i64 prev, .int .i64 nt, .slice ta tn tc, .slice da dn dc]) "loop.example/s02544/impl.transaction").run Tryz.prog w = .ok (67, .agg #[.int .i64 txn, .int .i64 prev]) w := by kernel_rfl
@[go_sem] theorem inva_7 (n : Nat) (txn prev nt : Int) (ta : Option Addr) (tn tc : Nat) (da : Option Addr) (dn dc : Nat) (w : World) : (method (n + 1) 105 (.agg #[.int .i64 txn, .int .i64 prev, .int .i64 nt, .slice ta tn tc, .slice da dn dc]) "loop.example/s02544/impl.ahead").run Tryz.prog w = .ok (68, .agg #[.int .i64 txn, .int .i64 prev]) w := by kernel_rfl
@[go_sem] theorem invr_7 (n : Nat) (txn prev nt : Int) (ta : Option Addr) (tn tc : Nat) (da : Option Addr) (dn dc : Nat) (w : World) : (method (n + 1) 105 (.agg #[.int .i64 txn, .int .i64 prev, .int .i64 nt, .slice ta tn tc, .slice da dn dc]) "loop.example/s02544/impl.appendRest").run Tryz.prog w = .ok (135, .agg #[.int .i64 txn, .int .i64 prev, .int .i64 nt, .slice ta tn tc, .slice da dn dc]) w := by kernel_rfl
set_option maxRecDepth 100000 in
theorem kindI_7 (txn prev nt : Int) (ta : Option Addr) (tn tc : Nat) (da : Option Addr) (dn dc : Nat) (w : World) : Calls Tryz.prog 74 #[.agg #[.int .i64 txn, .int .i64 prev, .int .i64 nt, .slice ta tn tc, .slice da dn dc]] w fun e w' => e = .returned (.int .i64 7) ∧ Same w w' := by
 go_enter Tryz.func74, Tryz.ntmps74
 go_wp2
 go_ret
 exact ⟨rfl, (Kept.refl _ _).alloc _⟩
@[go_sem] theorem invk_8 (n : Nat) (txn prev page : Int) (ga : Option Addr) (gn gc : Nat) (w : World) : (method (n + 1) 107 (.agg #[.int .i64 txn, .int .i64 prev, .int .i64 page, .slice ga gn gc]) "loop.example/s02544/impl.kind").run Tryz.prog w = .ok (75, .agg #[.int .i64 txn, .int .i64 prev, .int .i64 page, .slice ga gn gc]) w := by kernel_rfl
@[go_sem] theorem invt_8 (n : Nat) (txn prev page : Int) (ga : Option Addr) (gn gc : Nat) (w : World) : (method (n + 1) 107 (.agg #[.int .i64 txn, .int .i64 prev, .int .i64 page, .slice ga gn gc]) "loop.example/s02544/impl.transaction").run Tryz.prog w = .ok (67, .agg #[.int .i64 txn, .int .i64 prev]) w := by kernel_rfl
@[go_sem] theorem inva_8 (n : Nat) (txn prev page : Int) (ga : Option Addr) (gn gc : Nat) (w : World) : (method (n + 1) 107 (.agg #[.int .i64 txn, .int .i64 prev, .int .i64 page, .slice ga gn gc]) "loop.example/s02544/impl.ahead").run Tryz.prog w = .ok (68, .agg #[.int .i64 txn, .int .i64 prev]) w := by kernel_rfl
@[go_sem] theorem invr_8 (n : Nat) (txn prev page : Int) (ga : Option Addr) (gn gc : Nat) (w : World) : (method (n + 1) 107 (.agg #[.int .i64 txn, .int .i64 prev, .int .i64 page, .slice ga gn gc]) "loop.example/s02544/impl.appendRest").run Tryz.prog w = .ok (139, .agg #[.int .i64 txn, .int .i64 prev, .int .i64 page, .slice ga gn gc]) w := by kernel_rfl
set_option maxRecDepth 100000 in
theorem kindI_8 (txn prev page : Int) (ga : Option Addr) (gn gc : Nat) (w : World) : Calls Tryz.prog 75 #[.agg #[.int .i64 txn, .int .i64 prev, .int .i64 page, .slice ga gn gc]] w fun e w' => e = .returned (.int .i64 8) ∧ Same w w' := by
 go_enter Tryz.func75, Tryz.ntmps75
 go_wp2
 go_ret
 exact ⟨rfl, (Kept.refl _ _).alloc _⟩
end Go.Proofs.YtdgmecmkkddpeaaGreat
