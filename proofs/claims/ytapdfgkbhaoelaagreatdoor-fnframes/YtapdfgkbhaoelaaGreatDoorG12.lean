import Derived.Test.YtapdfgkbhaoelaaGreatDoorG11
import Derived.Deep.RegionWith
import Derived.Deep.DeepMust
namespace Go.Proofs.YtapdfgkbhaoelaaGreatDoor
set_option maxRecDepth 100000
set_option maxHeartbeats 8000000
set_option linter.unusedVariables false
set_option linter.unusedSimpArgs false
open Go.RowKit
theorem U1 (v : Value) (bs : List Int) (page slot : Int) (w : World) (ly : IsI page) (cw : IsI slot) (hl : bs.length ≤ 1000000) (ho : Own 0 5 .u8 w v bs) :
  Calls Tryz.prog 163 #[.agg #[Q1 page, Q1 slot], v] w fun e w' => ∃ aa nn cc, e = .returned (.slice aa nn cc) ∧ Own 0 5 .u8 w' (.slice aa nn cc) (bs ++ (OW page 2 ++ OW slot 2)) ∧ Grew w v w' (.slice aa nn cc) := by
 have b0 := (Blk.newL w [Q1 page, Q1 slot] 102).drew;have mx : Hid (Grew w v ((w.alloc (.cells #[Q1 page, Q1 slot] 102)).drew) v) := Grew.of_same (kZ0.alloc _).drew;have jE : Hid (Own 0 5 .u8 ((w.alloc (.cells #[Q1 page, Q1 slot] 102)).drew) (v) (bs)) := ho.same (kZ0.alloc _).drew;have fw := (show Hid (¬ v.ownBlock = some w.heap.size) from fun e => by have := (ho.lt _ e).2; omega);have pK : bs.length ≤ 1000000 := hl;clear ho hl
 go_enter Tryz.func163, Tryz.ntmps163
 go_wp2_with fail
 let Y1 : World → Prop := fun wx => D0 wx w.heap.size 0 (Q1 page) ∧ D0 wx w.heap.size 1 (Q1 slot)
 have hS : Y1 ((w.alloc (.cells #[Q1 page, Q1 slot] 102)).drew) := by exact ⟨b0.cell 0, b0.cell 1⟩
 refine O0 Y1 99 8 ?_;refine tk 0 5 hS ?_;refine tk 1 6 hS ?_;refine tk 2 7 hS ?_;refine tk 4 9 hS ?_;refine tk 5 10 hS ?_;refine o1Q 3 (fun K hK => ?_);go_simp;refine (O7 _ (bs) (page) 2 _ ly (by unfold IsI; omega) (by omega) jE.out).mono ?_;rintro e nk ⟨ki, j7, j4, rfl, ag, hg⟩;have i3 : Hid (Own 0 5 .u8 nk (.slice ki j7 j4) ((bs) ++ OW (page) 2)) := ag;have fC := hid (mx.out.trans hg);have bk1 := b0.kept hg.kept fw.out;have dp : Hid (¬ (Value.slice ki j7 j4).ownBlock = some (w.heap.size)) := fun e => (hg.own _ e).elim fw.out (fun h => by have h := Nat.lt_of_lt_of_le b0.lt h; omega)
 have pW : ((bs) ++ OW (page) 2).length ≤ 1000008 := by rw [List.length_append]; have := O3 (page) 2; omega
 clear ag hg
 have hS : Y1 nk := by exact ⟨bk1.cell 0, bk1.cell 1⟩
 refine hK.out _ _ (fun _ => hS) ?_;clear hK K
 try simp only [Sp]
 refine o1Q 6 (fun K hK => ?_);go_simp;refine (O7 _ ((bs) ++ OW (page) 2) (slot) 2 _ cw (by unfold IsI; omega) (by omega) i3.out).mono ?_;rintro e mV ⟨kW, kR, kT, rfl, ag, hg⟩;have iO : Hid (Own 0 5 .u8 mV (.slice kW kR kT) (((bs) ++ OW (page) 2) ++ OW (slot) 2)) := ag;have gD := hid (fC.out.trans hg);have bk2 := bk1.kept hg.kept dp.out;have fx : Hid (¬ (Value.slice kW kR kT).ownBlock = some (w.heap.size)) := fun e => (hg.own _ e).elim dp.out (fun h => by have h := Nat.lt_of_lt_of_le bk1.lt h; omega)
 have pJ : (((bs) ++ OW (page) 2) ++ OW (slot) 2).length ≤ 1000016 := by rw [List.length_append]; have := O3 (slot) 2; omega
 clear ag hg
 have hS : Y1 mV := by exact ⟨bk2.cell 0, bk2.cell 1⟩
 refine hK.out _ _ (fun _ => hS) ?_;clear hK K
 try simp only [Sp]
 refine tk 7 4 hS ?_;refine OZ ?_;go_wp2;go_ret;exact ⟨_, _, _, rfl, by simpa using iO.out, gD.out⟩
theorem Sd (v : Value) (bs : List Int) (txn prev : Int) (w : World)  (hl : bs.length ≤ 1000000) (ho : Own 0 5 .u8 w v bs) :
  Calls Tryz.prog 154 #[.agg #[Q1 txn, Q1 prev], v] w fun e w' => ∃ aa nn cc, e = .returned (.slice aa nn cc) ∧ Own 0 5 .u8 w' (.slice aa nn cc) (bs ++ []) ∧ Grew w v w' (.slice aa nn cc) := by
 obtain ⟨aa, nn, cc, rfl⟩ := QX ho;have jE : Hid (Own 0 5 .u8 ((w.alloc (.cells #[Q1 txn, Q1 prev] 100))) (.slice aa nn cc) (bs)) := ho.same (kZ0.alloc _);have mx : Hid (Grew w (.slice aa nn cc) ((w.alloc (.cells #[Q1 txn, Q1 prev] 100))) (.slice aa nn cc)) := Grew.of_same (kZ0.alloc _);clear ho
 go_enter Tryz.func154, Tryz.ntmps154
 go_wp2;go_ret;exact ⟨aa, nn, cc, rfl, by simpa using jE.out, mx.out⟩
theorem ZF (v : Value) (bs : List Int) (txn prev page slot : Int) (bu : Bool) (ba : Option Addr) (bc : Nat) (bb : List Int) (au : Bool) (aa : Option Addr) (ac : Nat) (ab : List Int) (w : World) (ly : IsI page) (cw : IsI slot) (eC : bb.length ≤ 1000) (vU : ab.length ≤ 1000) (kh : ∀ wx, Kept (fun b => v.ownBlock = some b) w wx → Rd .u8 wx (.slice ba bb.length bc) bb) (iG : ∀ wx, Kept (fun b => v.ownBlock = some b) w wx → Rd .u8 wx (.slice aa ab.length ac) ab) (hl : bs.length ≤ 1000000) (ho : Own 0 5 .u8 w v bs) :
  Calls Tryz.prog 161 #[.agg #[Q1 txn, Q1 prev, Q1 page, Q1 slot, .bool bu, .slice ba bb.length bc, .bool au, .slice aa ab.length ac], v] w fun e w' => ∃ aa nn cc, e = .returned (.slice aa nn cc) ∧ Own 0 5 .u8 w' (.slice aa nn cc) (bs ++ (((OW page 2 ++ OW slot 2) ++ Pn bu bb) ++ Pn au ab)) ∧ Grew w v w' (.slice aa nn cc) := by
 have Ki : Hid (∀ wx, Kept (fun b => v.ownBlock = some b) w wx → Rd .u8 wx (.slice ba bb.length bc) bb) := kh;have Dm : Hid (∀ wx, Kept (fun b => v.ownBlock = some b) w wx → Rd .u8 wx (.slice aa ab.length ac) ab) := iG;clear kh iG;have b0 := (Blk.newL w [Q1 txn, Q1 prev, Q1 page, Q1 slot, .bool bu, .slice ba bb.length bc, .bool au, .slice aa ab.length ac] 104);have mx : Hid (Grew w v ((w.alloc (.cells #[Q1 txn, Q1 prev, Q1 page, Q1 slot, .bool bu, .slice ba bb.length bc, .bool au, .slice aa ab.length ac] 104))) v) := Grew.of_same (kZ0.alloc _);have jE : Hid (Own 0 5 .u8 ((w.alloc (.cells #[Q1 txn, Q1 prev, Q1 page, Q1 slot, .bool bu, .slice ba bb.length bc, .bool au, .slice aa ab.length ac] 104))) (v) (bs)) := ho.same (kZ0.alloc _);have fw := (show Hid (¬ v.ownBlock = some w.heap.size) from fun e => by have := (ho.lt _ e).2; omega);have pK : bs.length ≤ 1000000 := hl;clear ho hl
 go_enter Tryz.func161, Tryz.ntmps161
 go_wp2_with fail
 refine (U1 _ (bs) page slot _ ly cw (by omega) jE.out).mono ?_;rintro e nk ⟨ki, j7, j4, rfl, ag, hg⟩;have i3 : Hid (Own 0 5 .u8 nk (.slice ki j7 j4) ((bs) ++ (OW page 2 ++ OW slot 2))) := ag;have fC := hid (mx.out.trans hg);have bk1 := b0.kept hg.kept fw.out;have dp : Hid (¬ (Value.slice ki j7 j4).ownBlock = some (w.heap.size)) := fun e => (hg.own _ e).elim fw.out (fun h => by have h := Nat.lt_of_lt_of_le b0.lt h; omega)
 have pW : ((bs) ++ (OW page 2 ++ OW slot 2)).length ≤ 1000016 := by rw [List.length_append]; have := O3 page 2; have := O3 slot 2; rw [List.length_append]; omega
 clear ag hg;have rR := bk1.c4;have tV := bk1.c5
 go_wp2_with fail
 refine (Sv _ ((bs) ++ (OW page 2 ++ OW slot 2)) bu (.slice ba bb.length bc) (bb) _ (by omega) (by omega) (fun wx bi => Ki.out wx (fC.out.kept.next bi (fun i hi e => (fC.out.own i e).resolve_right (by omega)))) i3.out).mono ?_;rintro e mV ⟨kW, kR, kT, rfl, ag, hg⟩;have iO : Hid (Own 0 5 .u8 mV (.slice kW kR kT) (((bs) ++ (OW page 2 ++ OW slot 2)) ++ Pn bu (bb))) := ag;have gD := hid (fC.out.trans hg);have bk2 := bk1.kept hg.kept dp.out;have fx : Hid (¬ (Value.slice kW kR kT).ownBlock = some (w.heap.size)) := fun e => (hg.own _ e).elim dp.out (fun h => by have h := Nat.lt_of_lt_of_le bk1.lt h; omega)
 have pJ : (((bs) ++ (OW page 2 ++ OW slot 2)) ++ Pn bu (bb)).length ≤ 1001116 := by rw [List.length_append]; have := QG bu (bb); omega
 clear ag hg;have tg := bk2.c6;have CO := bk2.c7
 go_wp2_with fail
 refine (Sv _ (((bs) ++ (OW page 2 ++ OW slot 2)) ++ Pn bu (bb)) au (.slice aa ab.length ac) (ab) _ (by omega) (by omega) (fun wx bi => Dm.out wx (gD.out.kept.next bi (fun i hi e => (gD.out.own i e).resolve_right (by omega)))) iO.out).mono ?_;rintro e Fi ⟨xY, yW, wE, rfl, ag, hg⟩;have sR : Hid (Own 0 5 .u8 Fi (.slice xY yW wE) ((((bs) ++ (OW page 2 ++ OW slot 2)) ++ Pn bu (bb)) ++ Pn au (ab))) := ag;have tG := hid (gD.out.trans hg);have KM := bk2.kept hg.kept fx.out;have xy : Hid (¬ (Value.slice xY yW wE).ownBlock = some (w.heap.size)) := fun e => (hg.own _ e).elim fx.out (fun h => by have h := Nat.lt_of_lt_of_le bk2.lt h; omega)
 have Fg : ((((bs) ++ (OW page 2 ++ OW slot 2)) ++ Pn bu (bb)) ++ Pn au (ab)).length ≤ 1002216 := by rw [List.length_append]; have := QG au (ab); omega
 clear ag hg;go_wp2;go_ret;exact ⟨_, _, _, rfl, by simpa using sR.out, tG.out⟩
theorem YO (v : Value) (bs : List Int) (txn prev page slot : Int) (au : Bool) (aa : Option Addr) (ac : Nat) (ab : List Int) (un : Int) (w : World) (ly : IsI page) (cw : IsI slot) (qc : IsI un) (vU : ab.length ≤ 1000) (iG : ∀ wx, Kept (fun b => v.ownBlock = some b) w wx → Rd .u8 wx (.slice aa ab.length ac) ab) (hl : bs.length ≤ 1000000) (ho : Own 0 5 .u8 w v bs) :
  Calls Tryz.prog 167 #[.agg #[Q1 txn, Q1 prev, Q1 page, Q1 slot, .bool au, .slice aa ab.length ac, Q1 un], v] w fun e w' => ∃ aa nn cc, e = .returned (.slice aa nn cc) ∧ Own 0 5 .u8 w' (.slice aa nn cc) (bs ++ (((OW page 2 ++ OW slot 2) ++ Pn au ab) ++ OW un 8)) ∧ Grew w v w' (.slice aa nn cc) := by
 have Dm : Hid (∀ wx, Kept (fun b => v.ownBlock = some b) w wx → Rd .u8 wx (.slice aa ab.length ac) ab) := iG;clear iG;have b0 := (Blk.newL w [Q1 txn, Q1 prev, Q1 page, Q1 slot, .bool au, .slice aa ab.length ac, Q1 un] 106);have mx : Hid (Grew w v ((w.alloc (.cells #[Q1 txn, Q1 prev, Q1 page, Q1 slot, .bool au, .slice aa ab.length ac, Q1 un] 106))) v) := Grew.of_same (kZ0.alloc _);have jE : Hid (Own 0 5 .u8 ((w.alloc (.cells #[Q1 txn, Q1 prev, Q1 page, Q1 slot, .bool au, .slice aa ab.length ac, Q1 un] 106))) (v) (bs)) := ho.same (kZ0.alloc _);have fw := (show Hid (¬ v.ownBlock = some w.heap.size) from fun e => by have := (ho.lt _ e).2; omega);have pK : bs.length ≤ 1000000 := hl;clear ho hl
 go_enter Tryz.func167, Tryz.ntmps167
 go_wp2_with fail
 refine (U1 _ (bs) page slot _ ly cw (by omega) jE.out).mono ?_;rintro e nk ⟨ki, j7, j4, rfl, ag, hg⟩;have i3 : Hid (Own 0 5 .u8 nk (.slice ki j7 j4) ((bs) ++ (OW page 2 ++ OW slot 2))) := ag;have fC := hid (mx.out.trans hg);have bk1 := b0.kept hg.kept fw.out;have dp : Hid (¬ (Value.slice ki j7 j4).ownBlock = some (w.heap.size)) := fun e => (hg.own _ e).elim fw.out (fun h => by have h := Nat.lt_of_lt_of_le b0.lt h; omega)
 have pW : ((bs) ++ (OW page 2 ++ OW slot 2)).length ≤ 1000016 := by rw [List.length_append]; have := O3 page 2; have := O3 slot 2; rw [List.length_append]; omega
 clear ag hg;have rR := bk1.c4;have tV := bk1.c5
 go_wp2_with fail
 refine (Sv _ ((bs) ++ (OW page 2 ++ OW slot 2)) au (.slice aa ab.length ac) (ab) _ (by omega) (by omega) (fun wx bi => Dm.out wx (fC.out.kept.next bi (fun i hi e => (fC.out.own i e).resolve_right (by omega)))) i3.out).mono ?_;rintro e mV ⟨kW, kR, kT, rfl, ag, hg⟩;have iO : Hid (Own 0 5 .u8 mV (.slice kW kR kT) (((bs) ++ (OW page 2 ++ OW slot 2)) ++ Pn au (ab))) := ag;have gD := hid (fC.out.trans hg);have bk2 := bk1.kept hg.kept dp.out;have fx : Hid (¬ (Value.slice kW kR kT).ownBlock = some (w.heap.size)) := fun e => (hg.own _ e).elim dp.out (fun h => by have h := Nat.lt_of_lt_of_le bk1.lt h; omega)
 have pJ : (((bs) ++ (OW page 2 ++ OW slot 2)) ++ Pn au (ab)).length ≤ 1001116 := by rw [List.length_append]; have := QG au (ab); omega
 clear ag hg;have tg := bk2.c6
 go_wp2_with fail
 refine (O7 _ (((bs) ++ (OW page 2 ++ OW slot 2)) ++ Pn au (ab)) (un) 8 _ qc (by unfold IsI; omega) (by omega) iO.out).mono ?_;rintro e Fi ⟨xY, yW, wE, rfl, ag, hg⟩;have sR : Hid (Own 0 5 .u8 Fi (.slice xY yW wE) ((((bs) ++ (OW page 2 ++ OW slot 2)) ++ Pn au (ab)) ++ OW (un) 8)) := ag;have tG := hid (gD.out.trans hg);have KM := bk2.kept hg.kept fx.out;have xy : Hid (¬ (Value.slice xY yW wE).ownBlock = some (w.heap.size)) := fun e => (hg.own _ e).elim fx.out (fun h => by have h := Nat.lt_of_lt_of_le bk2.lt h; omega)
 have Fg : ((((bs) ++ (OW page 2 ++ OW slot 2)) ++ Pn au (ab)) ++ OW (un) 8).length ≤ 1001124 := by rw [List.length_append]; have := O3 (un) 8; omega
 clear ag hg;go_wp2;go_ret;exact ⟨_, _, _, rfl, by simpa using sR.out, tG.out⟩
theorem ZG (v : Value) (bs : List Int) (txn prev page : Int) (ia : Option Addr) (ic : Nat) (ib : List Int) (w : World) (ly : IsI page) (C7 : ib.length ≤ 4096) (vx : ∀ wx, Kept (fun b => v.ownBlock = some b) w wx → Rd .u8 wx (.slice ia ib.length ic) ib) (hl : bs.length ≤ 1000000) (ho : Own 0 5 .u8 w v bs) :
  Calls Tryz.prog 174 #[.agg #[Q1 txn, Q1 prev, Q1 page, .slice ia ib.length ic], v] w fun e w' => ∃ aa nn cc, e = .returned (.slice aa nn cc) ∧ Own 0 5 .u8 w' (.slice aa nn cc) (bs ++ (OW page 2 ++ ib)) ∧ Grew w v w' (.slice aa nn cc) := by
 have J4 : Hid (∀ wx, Kept (fun b => v.ownBlock = some b) w wx → Rd .u8 wx (.slice ia ib.length ic) ib) := vx;clear vx;have b0 := (Blk.newL w [Q1 txn, Q1 prev, Q1 page, .slice ia ib.length ic] 115).drew;have mx : Hid (Grew w v ((w.alloc (.cells #[Q1 txn, Q1 prev, Q1 page, .slice ia ib.length ic] 115)).drew) v) := Grew.of_same (kZ0.alloc _).drew;have jE : Hid (Own 0 5 .u8 ((w.alloc (.cells #[Q1 txn, Q1 prev, Q1 page, .slice ia ib.length ic] 115)).drew) (v) (bs)) := ho.same (kZ0.alloc _).drew;have fw := (show Hid (¬ v.ownBlock = some w.heap.size) from fun e => by have := (ho.lt _ e).2; omega);have pK : bs.length ≤ 1000000 := hl;clear ho hl
 go_enter Tryz.func174, Tryz.ntmps174
 go_wp2_with fail
 have hS : ((fun wx : World => D0 wx w.heap.size 2 (Q1 page) ∧ D0 wx w.heap.size 3 (.slice ia ib.length ic))) ((w.alloc (.cells #[Q1 txn, Q1 prev, Q1 page, .slice ia ib.length ic] 115)).drew) := by exact ⟨b0.cell 2, b0.cell 3⟩
 refine O0 ((fun wx : World => D0 wx w.heap.size 2 (Q1 page) ∧ D0 wx w.heap.size 3 (.slice ia ib.length ic))) 99 8 ?_;refine tk 0 5 hS ?_;refine tk 1 6 hS ?_;refine tk 2 7 hS ?_;refine tk 4 9 hS ?_;refine tk 5 10 hS ?_;refine o1Q 3 (fun K hK => ?_);go_simp;refine (O7 _ (bs) (page) 2 _ ly (by unfold IsI; omega) (by omega) jE.out).mono ?_;rintro e nk ⟨ki, j7, j4, rfl, ag, hg⟩;have i3 : Hid (Own 0 5 .u8 nk (.slice ki j7 j4) ((bs) ++ OW (page) 2)) := ag;have fC := hid (mx.out.trans hg);have bk1 := b0.kept hg.kept fw.out;have dp : Hid (¬ (Value.slice ki j7 j4).ownBlock = some (w.heap.size)) := fun e => (hg.own _ e).elim fw.out (fun h => by have h := Nat.lt_of_lt_of_le b0.lt h; omega)
 have pW : ((bs) ++ OW (page) 2).length ≤ 1000008 := by rw [List.length_append]; have := O3 (page) 2; omega
 clear ag hg
 have hS : ((fun wx : World => D0 wx w.heap.size 2 (Q1 page) ∧ D0 wx w.heap.size 3 (.slice ia ib.length ic))) nk := by exact ⟨bk1.cell 2, bk1.cell 3⟩
 refine hK.out _ _ (fun _ => hS) ?_;clear hK K
 try simp only [Sp]
 refine o1Q 6 (fun K hK => ?_);refine Tk (by rfl) (.tmp 8) (.tmp 10) (by rfl) (.slice ki j7 j4) (.slice ia ib.length ic) ((bs) ++ OW (page) 2) ib (by rfl) (by rfl) i3.out (J4.out _ fC.out.kept) (by omega) ?_;intro kW kR kT mV ag hg;have iO : Hid (Own 0 5 .u8 mV (.slice kW kR kT) (((bs) ++ OW (page) 2) ++ ib)) := ag;have gD := hid (fC.out.trans hg);have bk2 := bk1.kept hg.kept dp.out;have fx : Hid (¬ (Value.slice kW kR kT).ownBlock = some (w.heap.size)) := fun e => (hg.own _ e).elim dp.out (fun h => by have h := Nat.lt_of_lt_of_le bk1.lt h; omega)
 have pJ : (((bs) ++ OW (page) 2) ++ ib).length ≤ 1005008 := by rw [List.length_append]; skip; omega
 clear ag hg
 have hS : ((fun wx : World => D0 wx w.heap.size 2 (Q1 page) ∧ D0 wx w.heap.size 3 (.slice ia ib.length ic))) mV := by exact ⟨bk2.cell 2, bk2.cell 3⟩
 refine hK.out _ _ (fun _ => hS) ?_;clear hK K
 try simp only [Sp]
 refine tk 7 4 hS ?_;refine OZ ?_;go_wp2;go_ret;exact ⟨_, _, _, rfl, by simpa using iO.out, gD.out⟩
theorem ZH (v : Value) (bs : List Int) (txn prev nt : Int) (te : TypeId) (ta : Option Addr) (tn tc : Nat) (tb : List Int) (de : TypeId) (da : Option Addr) (dn dc : Nat) (db : List Int) (w : World) (vB : 1 ≤ nt ∧ nt ≤ 2147483648) (kz : tn ≤ 8) (gm : dn ≤ 16) (lw : ∀ i, i < tn → (1 ≤ tb.getD (i * 4) 0 ∧ tb.getD (i * 4) 0 ≤ 2147483647) ∧ (1 ≤ tb.getD (i * 4 + 1) 0 ∧ tb.getD (i * 4 + 1) 0 ≤ 3) ∧ (1 ≤ tb.getD (i * 4 + 2) 0 ∧ tb.getD (i * 4 + 2) 0 ≤ 1099511627776) ∧ (0 ≤ tb.getD (i * 4 + 3) 0 ∧ tb.getD (i * 4 + 3) 0 ≤ tb.getD (i * 4 + 2) 0)) (ll : ∀ i, i < dn → (0 ≤ db.getD (i * 2) 0 ∧ db.getD (i * 2) 0 < 16) ∧ (1 ≤ db.getD (i * 2 + 1) 0 ∧ db.getD (i * 2 + 1) 0 ≤ 1099511627776)) (wU : ∀ wx, Kept (fun b => v.ownBlock = some b) w wx → RdF 4 wx ⟨te, ta, tn, tc, tb⟩) (b9 : ∀ wx, Kept (fun b => v.ownBlock = some b) w wx → RdF 2 wx ⟨de, da, dn, dc, db⟩) (hl : bs.length ≤ 1000000) (ho : Own 0 5 .u8 w v bs) :
  Calls Tryz.prog 170 #[.agg #[Q1 txn, Q1 prev, Q1 nt, .slice ta tn tc, .slice da dn dc], v] w fun e w' => ∃ aa nn cc, e = .returned (.slice aa nn cc) ∧ Own 0 5 .u8 w' (.slice aa nn cc) (bs ++ ((((OW nt 4 ++ OW (tn : Nat) 1) ++ PI tb tn) ++ OW (dn : Nat) 1) ++ QK db dn)) ∧ Grew w v w' (.slice aa nn cc) := by
 have lO : Hid (∀ wx, Kept (fun b => v.ownBlock = some b) w wx → RdF 4 wx ⟨te, ta, tn, tc, tb⟩) := wU;have jg : Hid (∀ wx, Kept (fun b => v.ownBlock = some b) w wx → RdF 2 wx ⟨de, da, dn, dc, db⟩) := b9;have su := (show Hid (∀ i, i < tn → _) from lw);have tD := (show Hid (∀ i, i < dn → _) from ll);clear wU b9 lw ll;have b0 := (Blk.newL w [Q1 txn, Q1 prev, Q1 nt, .slice ta tn tc, .slice da dn dc] 113);have mx : Hid (Grew w v ((w.alloc (.cells #[Q1 txn, Q1 prev, Q1 nt, .slice ta tn tc, .slice da dn dc] 113))) v) := Grew.of_same (kZ0.alloc _);have jE : Hid (Own 0 5 .u8 ((w.alloc (.cells #[Q1 txn, Q1 prev, Q1 nt, .slice ta tn tc, .slice da dn dc] 113))) (v) (bs)) := ho.same (kZ0.alloc _);have fw := (show Hid (¬ v.ownBlock = some w.heap.size) from fun e => by have := (ho.lt _ e).2; omega);have pK : bs.length ≤ 1000000 := hl;clear ho hl
 go_enter Tryz.func170, Tryz.ntmps170
 go_wp2_with fail
 refine (O7 _ (bs) (nt) 4 _ (by unfold IsI; omega) (by unfold IsI; omega) (by omega) jE.out).mono ?_;rintro e nk ⟨ki, j7, j4, rfl, ag, hg⟩;have i3 : Hid (Own 0 5 .u8 nk (.slice ki j7 j4) ((bs) ++ OW (nt) 4)) := ag;have fC := hid (mx.out.trans hg);have bk1 := b0.kept hg.kept fw.out;have dp : Hid (¬ (Value.slice ki j7 j4).ownBlock = some (w.heap.size)) := fun e => (hg.own _ e).elim fw.out (fun h => by have h := Nat.lt_of_lt_of_le b0.lt h; omega)
 have pW : ((bs) ++ OW (nt) 4).length ≤ 1000008 := by rw [List.length_append]; have := O3 (nt) 4; omega
 clear ag hg;have BJ := bk1.c3
 go_wp2_with fail
 refine (O7 _ ((bs) ++ OW (nt) 4) (tn) 1 _ (by unfold IsI; omega) (by unfold IsI; omega) (by omega) i3.out).mono ?_;rintro e mV ⟨kW, kR, kT, rfl, ag, hg⟩;have iO : Hid (Own 0 5 .u8 mV (.slice kW kR kT) (((bs) ++ OW (nt) 4) ++ OW (tn) 1)) := ag;have gD := hid (fC.out.trans hg);have bk2 := bk1.kept hg.kept dp.out;have fx : Hid (¬ (Value.slice kW kR kT).ownBlock = some (w.heap.size)) := fun e => (hg.own _ e).elim dp.out (fun h => by have h := Nat.lt_of_lt_of_le bk1.lt h; omega)
 have pJ : (((bs) ++ OW (nt) 4) ++ OW (tn) 1).length ≤ 1000016 := by rw [List.length_append]; have := O3 (tn) 1; omega
 clear ag hg;have Ev := bk2.c3;go_wp2
 go_loopw [1, 6, 21] (fun u _ i wr => ∃ (k : Nat) (a : Option Addr) (n c : Nat), k ≤ tn ∧ i = Q1 k ∧ u = .slice a n c ∧ Hid (Own 0 5 .u8 wr (.slice a n c) ((((bs) ++ OW (nt) 4) ++ OW (tn) 1) ++ PI tb k)) ∧ Hid (Grew w v wr (.slice a n c)) ∧ Hid (Blk wr w.heap.size 113 [Q1 txn, Q1 prev, Q1 nt, .slice ta tn tc, .slice da dn dc]) ∧ Hid (¬ (Value.slice a n c).ownBlock = some w.heap.size)) (fun _ _ i _ => tn - (intOf i).toNat)
 case atStart => exact ⟨0, _, _, _, Nat.zero_le _, rfl, rfl, by rw [X5, List.append_nil]; exact iO, gD, bk2, fx⟩
 case round =>
  obtain ⟨k, ar, nr, cr, hk, rfl, rfl, HOr, sV, jf, tM⟩ := hrel
  by_cases bg : k < tn
  ·have hc := (lO.out wr sV.out.kept).2.2.resolve_left (fun h => by dsimp only at h; omega)
   dsimp only at hc;obtain ⟨eB, eO, rb, xV, jc⟩ := hc;subst rb
   have q0 : wr.cell? ⟨eB, eO + k * 4, none⟩ = some (Q1 (tb.getD (k * 4) 0)) := by have h := jc (k * 4) (by omega); simpa only [Nat.add_assoc] using h
   have q1 : wr.cell? ⟨eB, eO + k * 4 + 1, none⟩ = some (Q1 (tb.getD (k * 4 + 1) 0)) := by have h := jc (k * 4 + 1) (by omega); simpa only [Nat.add_assoc] using h
   have q2 : wr.cell? ⟨eB, eO + k * 4 + 2, none⟩ = some (Q1 (tb.getD (k * 4 + 2) 0)) := by have h := jc (k * 4 + 2) (by omega); simpa only [Nat.add_assoc] using h
   have q3 : wr.cell? ⟨eB, eO + k * 4 + 3, none⟩ = some (Q1 (tb.getD (k * 4 + 3) 0)) := by have h := jc (k * 4 + 3) (by omega); simpa only [Nat.add_assoc] using h
   have D3 := (show Hid (_) from su.out k bg);have vF : Hid (txB tb k = OW (tb.getD (k * 4) 0) 4 ++ OW (tb.getD (k * 4 + 1) 0) 1 ++ OW (tb.getD (k * 4 + 2) 0) 8 ++ OW (tb.getD (k * 4 + 3) 0) 8) := rfl;clear jc;generalize tb.getD (k * 4) 0 = x0 at *;generalize tb.getD (k * 4 + 1) 0 = x1 at *;generalize tb.getD (k * 4 + 2) 0 = x2 at *;generalize tb.getD (k * 4 + 3) 0 = x3 at *;obtain ⟨g0, g1, g2, g3⟩ := D3.out
   have nA : ((((bs) ++ OW (nt) 4) ++ OW (tn) 1) ++ PI tb k).length ≤ 1000272 := by rw [List.length_append]; have := R8 tb k; omega
   have IL := jf.out.alloc (.cells #[Q1 x0, Q1 x1, Q1 x2, Q1 x3] 79);have EM := Blk.newL wr [Q1 x0, Q1 x1, Q1 x2, Q1 x3] 79;have p9 := tM;have qe := (show Hid (¬ (Value.slice ar nr cr).ownBlock = some wr.heap.size) from fun e => by have := (HOr.out.lt _ e).2; omega);have Be : Hid (Own 0 5 .u8 (wr.alloc (.cells #[Q1 x0, Q1 x1, Q1 x2, Q1 x3] 79)) (.slice ar nr cr) ((((bs) ++ OW (nt) 4) ++ OW (tn) 1) ++ PI tb k)) := HOr.out.same (kZ0.alloc _);have DD : Hid (Grew w v (wr.alloc (.cells #[Q1 x0, Q1 x1, Q1 x2, Q1 x3] 79)) (.slice ar nr cr)) := sV.out.trans (Grew.of_same (kZ0.alloc _));have Kn := nA;have CM := EM.c0
   go_wp2_with fail
   refine (O7 _ ((((bs) ++ OW (nt) 4) ++ OW (tn) 1) ++ PI tb k) (x0) 4 _ (by unfold IsI; omega) (by unfold IsI; omega) (by omega) Be.out).mono ?_;rintro e JE ⟨By, Dg, BG, rfl, ag, hg⟩;have Fj : Hid (Own 0 5 .u8 JE (.slice By Dg BG) (((((bs) ++ OW (nt) 4) ++ OW (tn) 1) ++ PI tb k) ++ OW (x0) 4)) := ag;have BR := hid (DD.out.trans hg);have Hv := IL.kept hg.kept p9.out;have qw := (show Hid (¬ (Value.slice By Dg BG).ownBlock = some (w.heap.size)) from fun e => (hg.own _ e).elim p9.out (fun h => by have h := Nat.lt_of_lt_of_le IL.lt h; omega));have Eu := EM.kept hg.kept qe.out;have qS : Hid (¬ (Value.slice By Dg BG).ownBlock = some (wr.heap.size)) := fun e => (hg.own _ e).elim qe.out (fun h => by have h := Nat.lt_of_lt_of_le EM.lt h; omega)
   have Mg : (((((bs) ++ OW (nt) 4) ++ OW (tn) 1) ++ PI tb k) ++ OW (x0) 4).length ≤ 1000280 := by rw [List.length_append]; have := O3 (x0) 4; omega
   clear ag hg;have E2 := Eu.c1
   go_wp2_with fail
   refine (O7 _ (((((bs) ++ OW (nt) 4) ++ OW (tn) 1) ++ PI tb k) ++ OW (x0) 4) (x1) 1 _ (by unfold IsI; omega) (by unfold IsI; omega) (by omega) Fj.out).mono ?_;rintro e Lt ⟨Ee, Ew, DN, rfl, ag, hg⟩;have Cp : Hid (Own 0 5 .u8 Lt (.slice Ee Ew DN) ((((((bs) ++ OW (nt) 4) ++ OW (tn) 1) ++ PI tb k) ++ OW (x0) 4) ++ OW (x1) 1)) := ag;have DC := hid (BR.out.trans hg);have Il := Hv.kept hg.kept qw.out;have qf := (show Hid (¬ (Value.slice Ee Ew DN).ownBlock = some (w.heap.size)) from fun e => (hg.own _ e).elim qw.out (fun h => by have h := Nat.lt_of_lt_of_le Hv.lt h; omega));have Bs := Eu.kept hg.kept qS.out;have qD : Hid (¬ (Value.slice Ee Ew DN).ownBlock = some (wr.heap.size)) := fun e => (hg.own _ e).elim qS.out (fun h => by have h := Nat.lt_of_lt_of_le Eu.lt h; omega)
   have LA : ((((((bs) ++ OW (nt) 4) ++ OW (tn) 1) ++ PI tb k) ++ OW (x0) 4) ++ OW (x1) 1).length ≤ 1000288 := by rw [List.length_append]; have := O3 (x1) 1; omega
   clear ag hg;have D1 := Bs.c2
   go_wp2_with fail
   refine (O7 _ ((((((bs) ++ OW (nt) 4) ++ OW (tn) 1) ++ PI tb k) ++ OW (x0) 4) ++ OW (x1) 1) (x2) 8 _ (by unfold IsI; omega) (by unfold IsI; omega) (by omega) Cp.out).mono ?_;rintro e JO ⟨De, Dn, C1, rfl, ag, hg⟩;have B4 : Hid (Own 0 5 .u8 JO (.slice De Dn C1) (((((((bs) ++ OW (nt) 4) ++ OW (tn) 1) ++ PI tb k) ++ OW (x0) 4) ++ OW (x1) 1) ++ OW (x2) 8)) := ag;have B6 := hid (DC.out.trans hg);have GB := Il.kept hg.kept qf.out;have rD := (show Hid (¬ (Value.slice De Dn C1).ownBlock = some (w.heap.size)) from fun e => (hg.own _ e).elim qf.out (fun h => by have h := Nat.lt_of_lt_of_le Il.lt h; omega));have Ct := Bs.kept hg.kept qD.out;have qA : Hid (¬ (Value.slice De Dn C1).ownBlock = some (wr.heap.size)) := fun e => (hg.own _ e).elim qD.out (fun h => by have h := Nat.lt_of_lt_of_le Bs.lt h; omega)
   have ME : (((((((bs) ++ OW (nt) 4) ++ OW (tn) 1) ++ PI tb k) ++ OW (x0) 4) ++ OW (x1) 1) ++ OW (x2) 8).length ≤ 1000296 := by rw [List.length_append]; have := O3 (x2) 8; omega
   clear ag hg;have CQ := Ct.c3
   go_wp2_with fail
   refine (O7 _ (((((((bs) ++ OW (nt) 4) ++ OW (tn) 1) ++ PI tb k) ++ OW (x0) 4) ++ OW (x1) 1) ++ OW (x2) 8) (x3) 8 _ (by unfold IsI; omega) (by unfold IsI; omega) (by omega) B4.out).mono ?_;rintro e Jf ⟨CU, Er, Bl, rfl, ag, hg⟩;have Dv : Hid (Own 0 5 .u8 Jf (.slice CU Er Bl) ((((((((bs) ++ OW (nt) 4) ++ OW (tn) 1) ++ PI tb k) ++ OW (x0) 4) ++ OW (x1) 1) ++ OW (x2) 8) ++ OW (x3) 8)) := ag;have BA := hid (B6.out.trans hg);have JF := GB.kept hg.kept rD.out;have yK := (show Hid (¬ (Value.slice CU Er Bl).ownBlock = some (w.heap.size)) from fun e => (hg.own _ e).elim rD.out (fun h => by have h := Nat.lt_of_lt_of_le GB.lt h; omega));have NB := Ct.kept hg.kept qA.out;have IU : Hid (¬ (Value.slice CU Er Bl).ownBlock = some (wr.heap.size)) := fun e => (hg.own _ e).elim qA.out (fun h => by have h := Nat.lt_of_lt_of_le Ct.lt h; omega)
   have Ku : ((((((((bs) ++ OW (nt) 4) ++ OW (tn) 1) ++ PI tb k) ++ OW (x0) 4) ++ OW (x1) 1) ++ OW (x2) 8) ++ OW (x3) 8).length ≤ 1000304 := by rw [List.length_append]; have := O3 (x3) 8; omega
   clear ag hg;go_wp2;go_roundw
   case rel => exact ⟨k + 1, _, _, _, by omega, by go_num, rfl, by rw [Sg, vF.out]; simpa [Hid] using Dv.out, BA, JF, yK⟩
   case measure => simp [intOf]; omega
  ·obtain s6 : k = tn := by omega
   rw [s6] at HOr
   have nA : ((((bs) ++ OW (nt) 4) ++ OW (tn) 1) ++ PI tb tn).length ≤ 1000272 := by rw [List.length_append]; have := R8 tb tn; omega
   have br := jf.out;have yX := tM;have IJ := br.c4
   go_wp2_with fail
   refine (O7 _ ((((bs) ++ OW (nt) 4) ++ OW (tn) 1) ++ PI tb tn) (dn) 1 _ (by unfold IsI; omega) (by unfold IsI; omega) (by omega) HOr.out).mono ?_;rintro e KB ⟨Gc, FE, F7, rfl, ag, hg⟩;have BW : Hid (Own 0 5 .u8 KB (.slice Gc FE F7) (((((bs) ++ OW (nt) 4) ++ OW (tn) 1) ++ PI tb tn) ++ OW (dn) 1)) := ag;have CH := hid (sV.out.trans hg);have He := br.kept hg.kept yX.out;have wW : Hid (¬ (Value.slice Gc FE F7).ownBlock = some (w.heap.size)) := fun e => (hg.own _ e).elim yX.out (fun h => by have h := Nat.lt_of_lt_of_le br.lt h; omega)
   have Ko : (((((bs) ++ OW (nt) 4) ++ OW (tn) 1) ++ PI tb tn) ++ OW (dn) 1).length ≤ 1000280 := by rw [List.length_append]; have := O3 (dn) 1; omega
   clear ag hg;have D5 := He.c4;go_wp2
   go_loopw [1, 8, 50] (fun u _ i wr => ∃ (k : Nat) (a : Option Addr) (n c : Nat), k ≤ dn ∧ i = Q1 k ∧ u = .slice a n c ∧ Hid (Own 0 5 .u8 wr (.slice a n c) ((((((bs) ++ OW (nt) 4) ++ OW (tn) 1) ++ PI tb tn) ++ OW (dn) 1) ++ QK db k)) ∧ Hid (Grew w v wr (.slice a n c)) ∧ Hid (Blk wr w.heap.size 113 [Q1 txn, Q1 prev, Q1 nt, .slice ta tn tc, .slice da dn dc]) ∧ Hid (¬ (Value.slice a n c).ownBlock = some w.heap.size)) (fun _ _ i _ => dn - (intOf i).toNat)
   case atStart => exact ⟨0, _, _, _, Nat.zero_le _, rfl, rfl, by rw [X6, List.append_nil]; exact BW, CH, He, wW⟩
   case round =>
    obtain ⟨k, ar, nr, cr, hk, rfl, rfl, HOr, sV, jf, tM⟩ := hrel
    by_cases bg : k < dn
    ·have hc := (jg.out wr sV.out.kept).2.2.resolve_left (fun h => by dsimp only at h; omega)
     dsimp only at hc;obtain ⟨eB, eO, rb, xV, jc⟩ := hc;subst rb
     have q0 : wr.cell? ⟨eB, eO + k * 2, none⟩ = some (Q1 (db.getD (k * 2) 0)) := by have h := jc (k * 2) (by omega); simpa only [Nat.add_assoc] using h
     have q1 : wr.cell? ⟨eB, eO + k * 2 + 1, none⟩ = some (Q1 (db.getD (k * 2 + 1) 0)) := by have h := jc (k * 2 + 1) (by omega); simpa only [Nat.add_assoc] using h
     have D3 := (show Hid (_) from tD.out k bg);have vF : Hid (dyB db k = OW (db.getD (k * 2) 0) 2 ++ OW (db.getD (k * 2 + 1) 0) 8) := rfl;clear jc;generalize db.getD (k * 2) 0 = y0 at *;generalize db.getD (k * 2 + 1) 0 = y1 at *;obtain ⟨g0, g1⟩ := D3.out
     have nA : ((((((bs) ++ OW (nt) 4) ++ OW (tn) 1) ++ PI tb tn) ++ OW (dn) 1) ++ QK db k).length ≤ 1000536 := by rw [List.length_append]; have := T9 db k; omega
     have Fs := jf.out.alloc (.cells #[Q1 y0, Q1 y1] 81);have AX := Blk.newL wr [Q1 y0, Q1 y1] 81;have qx := tM;have qU := (show Hid (¬ (Value.slice ar nr cr).ownBlock = some wr.heap.size) from fun e => by have := (HOr.out.lt _ e).2; omega);have B5 : Hid (Own 0 5 .u8 (wr.alloc (.cells #[Q1 y0, Q1 y1] 81)) (.slice ar nr cr) ((((((bs) ++ OW (nt) 4) ++ OW (tn) 1) ++ PI tb tn) ++ OW (dn) 1) ++ QK db k)) := HOr.out.same (kZ0.alloc _);have D7 : Hid (Grew w v (wr.alloc (.cells #[Q1 y0, Q1 y1] 81)) (.slice ar nr cr)) := sV.out.trans (Grew.of_same (kZ0.alloc _));have MS := nA;have BX := AX.c0
     go_wp2_with fail
     refine (O7 _ ((((((bs) ++ OW (nt) 4) ++ OW (tn) 1) ++ PI tb tn) ++ OW (dn) 1) ++ QK db k) (y0) 2 _ (by unfold IsI; omega) (by unfold IsI; omega) (by omega) B5.out).mono ?_;rintro e KZ ⟨Da, Cs, Bg, rfl, ag, hg⟩;have Ez : Hid (Own 0 5 .u8 KZ (.slice Da Cs Bg) (((((((bs) ++ OW (nt) 4) ++ OW (tn) 1) ++ PI tb tn) ++ OW (dn) 1) ++ QK db k) ++ OW (y0) 2)) := ag;have Cf := hid (D7.out.trans hg);have Hk := Fs.kept hg.kept qx.out;have qF := (show Hid (¬ (Value.slice Da Cs Bg).ownBlock = some (w.heap.size)) from fun e => (hg.own _ e).elim qx.out (fun h => by have h := Nat.lt_of_lt_of_le Fs.lt h; omega));have Ec := AX.kept hg.kept qU.out;have re : Hid (¬ (Value.slice Da Cs Bg).ownBlock = some (wr.heap.size)) := fun e => (hg.own _ e).elim qU.out (fun h => by have h := Nat.lt_of_lt_of_le AX.lt h; omega)
     have Mi : (((((((bs) ++ OW (nt) 4) ++ OW (tn) 1) ++ PI tb tn) ++ OW (dn) 1) ++ QK db k) ++ OW (y0) 2).length ≤ 1000544 := by rw [List.length_append]; have := O3 (y0) 2; omega
     clear ag hg;have Fq := Ec.c1
     go_wp2_with fail
     refine (O7 _ (((((((bs) ++ OW (nt) 4) ++ OW (tn) 1) ++ PI tb tn) ++ OW (dn) 1) ++ QK db k) ++ OW (y0) 2) (y1) 8 _ (by unfold IsI; omega) (by unfold IsI; omega) (by omega) Ez.out).mono ?_;rintro e M0 ⟨AZ, Do, AW, rfl, ag, hg⟩;have Bm : Hid (Own 0 5 .u8 M0 (.slice AZ Do AW) ((((((((bs) ++ OW (nt) 4) ++ OW (tn) 1) ++ PI tb tn) ++ OW (dn) 1) ++ QK db k) ++ OW (y0) 2) ++ OW (y1) 8)) := ag;have Bp := hid (Cf.out.trans hg);have Mx := Hk.kept hg.kept qF.out;have zq := (show Hid (¬ (Value.slice AZ Do AW).ownBlock = some (w.heap.size)) from fun e => (hg.own _ e).elim qF.out (fun h => by have h := Nat.lt_of_lt_of_le Hk.lt h; omega));have NK := Ec.kept hg.kept re.out;have Gd : Hid (¬ (Value.slice AZ Do AW).ownBlock = some (wr.heap.size)) := fun e => (hg.own _ e).elim re.out (fun h => by have h := Nat.lt_of_lt_of_le Ec.lt h; omega)
     have Kf : ((((((((bs) ++ OW (nt) 4) ++ OW (tn) 1) ++ PI tb tn) ++ OW (dn) 1) ++ QK db k) ++ OW (y0) 2) ++ OW (y1) 8).length ≤ 1000552 := by rw [List.length_append]; have := O3 (y1) 8; omega
     clear ag hg;go_wp2;go_roundw
     case rel => exact ⟨k + 1, _, _, _, by omega, by go_num, rfl, by rw [Si, vF.out]; simpa [Hid] using Bm.out, Bp, Mx, zq⟩
     case measure => simp [intOf]; omega
    ·obtain s6 : k = dn := by omega
     rw [s6] at HOr;go_wp2;go_ret;exact ⟨_, _, _, rfl, by simpa using HOr.out, sV.out⟩
@[go_sem] theorem jfK (n : Nat) (txn prev page slot : Int) (bu : Bool) (ba : Option Addr) (bn bc : Nat) (au : Bool) (aa : Option Addr) (an ac : Nat) (w : World) : (method (n + 1) 104 (.agg #[Q1 txn, Q1 prev, Q1 page, Q1 slot, .bool bu, .slice ba bn bc, .bool au, .slice aa an ac]) "loop.example/s02544/impl.kind").run Tryz.prog w = .ok (70, .agg #[Q1 txn, Q1 prev, Q1 page, Q1 slot, .bool bu, .slice ba bn bc, .bool au, .slice aa an ac]) w := by kernel_rfl
@[go_sem] theorem jfL (n : Nat) (txn prev page slot : Int) (bu : Bool) (ba : Option Addr) (bn bc : Nat) (au : Bool) (aa : Option Addr) (an ac : Nat) (w : World) : (method (n + 1) 104 (.agg #[Q1 txn, Q1 prev, Q1 page, Q1 slot, .bool bu, .slice ba bn bc, .bool au, .slice aa an ac]) "loop.example/s02544/impl.transaction").run Tryz.prog w = .ok (71, .agg #[Q1 txn, Q1 prev]) w := by kernel_rfl
@[go_sem] theorem jfM (n : Nat) (txn prev page slot : Int) (bu : Bool) (ba : Option Addr) (bn bc : Nat) (au : Bool) (aa : Option Addr) (an ac : Nat) (w : World) : (method (n + 1) 104 (.agg #[Q1 txn, Q1 prev, Q1 page, Q1 slot, .bool bu, .slice ba bn bc, .bool au, .slice aa an ac]) "loop.example/s02544/impl.ahead").run Tryz.prog w = .ok (72, .agg #[Q1 txn, Q1 prev]) w := by kernel_rfl
@[go_sem] theorem jfN (n : Nat) (txn prev page slot : Int) (bu : Bool) (ba : Option Addr) (bn bc : Nat) (au : Bool) (aa : Option Addr) (an ac : Nat) (w : World) : (method (n + 1) 104 (.agg #[Q1 txn, Q1 prev, Q1 page, Q1 slot, .bool bu, .slice ba bn bc, .bool au, .slice aa an ac]) "loop.example/s02544/impl.appendRest").run Tryz.prog w = .ok (161, .agg #[Q1 txn, Q1 prev, Q1 page, Q1 slot, .bool bu, .slice ba bn bc, .bool au, .slice aa an ac]) w := by kernel_rfl
set_option maxRecDepth 100000 in
theorem jdA (txn prev page slot : Int) (bu : Bool) (ba : Option Addr) (bn bc : Nat) (au : Bool) (aa : Option Addr) (an ac : Nat) (w : World) : Calls Tryz.prog 70 #[.agg #[Q1 txn, Q1 prev, Q1 page, Q1 slot, .bool bu, .slice ba bn bc, .bool au, .slice aa an ac]] w fun e w' => e = .returned (Q1 1) ∧ Same w w' := by
 go_enter Tryz.func70, Tryz.ntmps70
 go_wp2;go_ret;exact ⟨rfl, kZ0.alloc _⟩
@[go_sem] theorem jfO (n : Nat) (txn prev page slot : Int) (au : Bool) (aa : Option Addr) (an ac : Nat) (un : Int) (w : World) : (method (n + 1) 106 (.agg #[Q1 txn, Q1 prev, Q1 page, Q1 slot, .bool au, .slice aa an ac, Q1 un]) "loop.example/s02544/impl.kind").run Tryz.prog w = .ok (73, .agg #[Q1 txn, Q1 prev, Q1 page, Q1 slot, .bool au, .slice aa an ac, Q1 un]) w := by kernel_rfl
@[go_sem] theorem jfP (n : Nat) (txn prev page slot : Int) (au : Bool) (aa : Option Addr) (an ac : Nat) (un : Int) (w : World) : (method (n + 1) 106 (.agg #[Q1 txn, Q1 prev, Q1 page, Q1 slot, .bool au, .slice aa an ac, Q1 un]) "loop.example/s02544/impl.transaction").run Tryz.prog w = .ok (71, .agg #[Q1 txn, Q1 prev]) w := by kernel_rfl
@[go_sem] theorem jfQ (n : Nat) (txn prev page slot : Int) (au : Bool) (aa : Option Addr) (an ac : Nat) (un : Int) (w : World) : (method (n + 1) 106 (.agg #[Q1 txn, Q1 prev, Q1 page, Q1 slot, .bool au, .slice aa an ac, Q1 un]) "loop.example/s02544/impl.ahead").run Tryz.prog w = .ok (72, .agg #[Q1 txn, Q1 prev]) w := by kernel_rfl
@[go_sem] theorem jfR (n : Nat) (txn prev page slot : Int) (au : Bool) (aa : Option Addr) (an ac : Nat) (un : Int) (w : World) : (method (n + 1) 106 (.agg #[Q1 txn, Q1 prev, Q1 page, Q1 slot, .bool au, .slice aa an ac, Q1 un]) "loop.example/s02544/impl.appendRest").run Tryz.prog w = .ok (167, .agg #[Q1 txn, Q1 prev, Q1 page, Q1 slot, .bool au, .slice aa an ac, Q1 un]) w := by kernel_rfl
set_option maxRecDepth 100000 in
theorem jdB (txn prev page slot : Int) (au : Bool) (aa : Option Addr) (an ac : Nat) (un : Int) (w : World) : Calls Tryz.prog 73 #[.agg #[Q1 txn, Q1 prev, Q1 page, Q1 slot, .bool au, .slice aa an ac, Q1 un]] w fun e w' => e = .returned (Q1 2) ∧ Same w w' := by
 go_enter Tryz.func73, Tryz.ntmps73
 go_wp2;go_ret;exact ⟨rfl, kZ0.alloc _⟩
@[go_sem] theorem jfS (n : Nat) (txn prev : Int) (w : World) : (method (n + 1) 108 (.agg #[Q1 txn, Q1 prev]) "loop.example/s02544/impl.kind").run Tryz.prog w = .ok (74, .agg #[Q1 txn, Q1 prev]) w := by kernel_rfl
@[go_sem] theorem jfT (n : Nat) (txn prev : Int) (w : World) : (method (n + 1) 108 (.agg #[Q1 txn, Q1 prev]) "loop.example/s02544/impl.transaction").run Tryz.prog w = .ok (71, .agg #[Q1 txn, Q1 prev]) w := by kernel_rfl
@[go_sem] theorem jfU (n : Nat) (txn prev : Int) (w : World) : (method (n + 1) 108 (.agg #[Q1 txn, Q1 prev]) "loop.example/s02544/impl.ahead").run Tryz.prog w = .ok (72, .agg #[Q1 txn, Q1 prev]) w := by kernel_rfl
@[go_sem] theorem jfV (n : Nat) (txn prev : Int) (w : World) : (method (n + 1) 108 (.agg #[Q1 txn, Q1 prev]) "loop.example/s02544/impl.appendRest").run Tryz.prog w = .ok (154, .agg #[Q1 txn, Q1 prev]) w := by kernel_rfl
set_option maxRecDepth 100000 in
theorem jdC (txn prev : Int) (w : World) : Calls Tryz.prog 74 #[.agg #[Q1 txn, Q1 prev]] w fun e w' => e = .returned (Q1 3) ∧ Same w w' := by
 go_enter Tryz.func74, Tryz.ntmps74
 go_wp2;go_ret;exact ⟨rfl, kZ0.alloc _⟩
@[go_sem] theorem jfW (n : Nat) (txn prev : Int) (w : World) : (method (n + 1) 109 (.agg #[Q1 txn, Q1 prev]) "loop.example/s02544/impl.kind").run Tryz.prog w = .ok (75, .agg #[Q1 txn, Q1 prev]) w := by kernel_rfl
@[go_sem] theorem jfX (n : Nat) (txn prev : Int) (w : World) : (method (n + 1) 109 (.agg #[Q1 txn, Q1 prev]) "loop.example/s02544/impl.transaction").run Tryz.prog w = .ok (71, .agg #[Q1 txn, Q1 prev]) w := by kernel_rfl
@[go_sem] theorem jfY (n : Nat) (txn prev : Int) (w : World) : (method (n + 1) 109 (.agg #[Q1 txn, Q1 prev]) "loop.example/s02544/impl.ahead").run Tryz.prog w = .ok (72, .agg #[Q1 txn, Q1 prev]) w := by kernel_rfl
@[go_sem] theorem jfZ (n : Nat) (txn prev : Int) (w : World) : (method (n + 1) 109 (.agg #[Q1 txn, Q1 prev]) "loop.example/s02544/impl.appendRest").run Tryz.prog w = .ok (154, .agg #[Q1 txn, Q1 prev]) w := by kernel_rfl
set_option maxRecDepth 100000 in
theorem jdD (txn prev : Int) (w : World) : Calls Tryz.prog 75 #[.agg #[Q1 txn, Q1 prev]] w fun e w' => e = .returned (Q1 4) ∧ Same w w' := by
 go_enter Tryz.func75, Tryz.ntmps75
 go_wp2;go_ret;exact ⟨rfl, kZ0.alloc _⟩
@[go_sem] theorem jf0 (n : Nat) (txn prev : Int) (w : World) : (method (n + 1) 110 (.agg #[Q1 txn, Q1 prev]) "loop.example/s02544/impl.kind").run Tryz.prog w = .ok (76, .agg #[Q1 txn, Q1 prev]) w := by kernel_rfl
@[go_sem] theorem jf1 (n : Nat) (txn prev : Int) (w : World) : (method (n + 1) 110 (.agg #[Q1 txn, Q1 prev]) "loop.example/s02544/impl.transaction").run Tryz.prog w = .ok (71, .agg #[Q1 txn, Q1 prev]) w := by kernel_rfl
@[go_sem] theorem jf2 (n : Nat) (txn prev : Int) (w : World) : (method (n + 1) 110 (.agg #[Q1 txn, Q1 prev]) "loop.example/s02544/impl.ahead").run Tryz.prog w = .ok (72, .agg #[Q1 txn, Q1 prev]) w := by kernel_rfl
@[go_sem] theorem jf3 (n : Nat) (txn prev : Int) (w : World) : (method (n + 1) 110 (.agg #[Q1 txn, Q1 prev]) "loop.example/s02544/impl.appendRest").run Tryz.prog w = .ok (154, .agg #[Q1 txn, Q1 prev]) w := by kernel_rfl
set_option maxRecDepth 100000 in
theorem jdE (txn prev : Int) (w : World) : Calls Tryz.prog 76 #[.agg #[Q1 txn, Q1 prev]] w fun e w' => e = .returned (Q1 5) ∧ Same w w' := by
 go_enter Tryz.func76, Tryz.ntmps76
 go_wp2;go_ret;exact ⟨rfl, kZ0.alloc _⟩
@[go_sem] theorem jf4 (n : Nat) (txn prev : Int) (w : World) : (method (n + 1) 111 (.agg #[Q1 txn, Q1 prev]) "loop.example/s02544/impl.kind").run Tryz.prog w = .ok (77, .agg #[Q1 txn, Q1 prev]) w := by kernel_rfl
@[go_sem] theorem jf5 (n : Nat) (txn prev : Int) (w : World) : (method (n + 1) 111 (.agg #[Q1 txn, Q1 prev]) "loop.example/s02544/impl.transaction").run Tryz.prog w = .ok (71, .agg #[Q1 txn, Q1 prev]) w := by kernel_rfl
@[go_sem] theorem jf6 (n : Nat) (txn prev : Int) (w : World) : (method (n + 1) 111 (.agg #[Q1 txn, Q1 prev]) "loop.example/s02544/impl.ahead").run Tryz.prog w = .ok (72, .agg #[Q1 txn, Q1 prev]) w := by kernel_rfl
@[go_sem] theorem jf7 (n : Nat) (txn prev : Int) (w : World) : (method (n + 1) 111 (.agg #[Q1 txn, Q1 prev]) "loop.example/s02544/impl.appendRest").run Tryz.prog w = .ok (154, .agg #[Q1 txn, Q1 prev]) w := by kernel_rfl
set_option maxRecDepth 100000 in
theorem jdF (txn prev : Int) (w : World) : Calls Tryz.prog 77 #[.agg #[Q1 txn, Q1 prev]] w fun e w' => e = .returned (Q1 6) ∧ Same w w' := by
 go_enter Tryz.func77, Tryz.ntmps77
 go_wp2;go_ret;exact ⟨rfl, kZ0.alloc _⟩
@[go_sem] theorem jf8 (n : Nat) (txn prev nt : Int) (ta : Option Addr) (tn tc : Nat) (da : Option Addr) (dn dc : Nat) (w : World) : (method (n + 1) 113 (.agg #[Q1 txn, Q1 prev, Q1 nt, .slice ta tn tc, .slice da dn dc]) "loop.example/s02544/impl.kind").run Tryz.prog w = .ok (78, .agg #[Q1 txn, Q1 prev, Q1 nt, .slice ta tn tc, .slice da dn dc]) w := by kernel_rfl
@[go_sem] theorem jf9 (n : Nat) (txn prev nt : Int) (ta : Option Addr) (tn tc : Nat) (da : Option Addr) (dn dc : Nat) (w : World) : (method (n + 1) 113 (.agg #[Q1 txn, Q1 prev, Q1 nt, .slice ta tn tc, .slice da dn dc]) "loop.example/s02544/impl.transaction").run Tryz.prog w = .ok (71, .agg #[Q1 txn, Q1 prev]) w := by kernel_rfl
@[go_sem] theorem jga (n : Nat) (txn prev nt : Int) (ta : Option Addr) (tn tc : Nat) (da : Option Addr) (dn dc : Nat) (w : World) : (method (n + 1) 113 (.agg #[Q1 txn, Q1 prev, Q1 nt, .slice ta tn tc, .slice da dn dc]) "loop.example/s02544/impl.ahead").run Tryz.prog w = .ok (72, .agg #[Q1 txn, Q1 prev]) w := by kernel_rfl
@[go_sem] theorem jgb (n : Nat) (txn prev nt : Int) (ta : Option Addr) (tn tc : Nat) (da : Option Addr) (dn dc : Nat) (w : World) : (method (n + 1) 113 (.agg #[Q1 txn, Q1 prev, Q1 nt, .slice ta tn tc, .slice da dn dc]) "loop.example/s02544/impl.appendRest").run Tryz.prog w = .ok (170, .agg #[Q1 txn, Q1 prev, Q1 nt, .slice ta tn tc, .slice da dn dc]) w := by kernel_rfl
set_option maxRecDepth 100000 in
theorem jdG (txn prev nt : Int) (ta : Option Addr) (tn tc : Nat) (da : Option Addr) (dn dc : Nat) (w : World) : Calls Tryz.prog 78 #[.agg #[Q1 txn, Q1 prev, Q1 nt, .slice ta tn tc, .slice da dn dc]] w fun e w' => e = .returned (Q1 7) ∧ Same w w' := by
 go_enter Tryz.func78, Tryz.ntmps78
 go_wp2;go_ret;exact ⟨rfl, kZ0.alloc _⟩
@[go_sem] theorem jgc (n : Nat) (txn prev page : Int) (ga : Option Addr) (gn gc : Nat) (w : World) : (method (n + 1) 115 (.agg #[Q1 txn, Q1 prev, Q1 page, .slice ga gn gc]) "loop.example/s02544/impl.kind").run Tryz.prog w = .ok (79, .agg #[Q1 txn, Q1 prev, Q1 page, .slice ga gn gc]) w := by kernel_rfl
@[go_sem] theorem jgd (n : Nat) (txn prev page : Int) (ga : Option Addr) (gn gc : Nat) (w : World) : (method (n + 1) 115 (.agg #[Q1 txn, Q1 prev, Q1 page, .slice ga gn gc]) "loop.example/s02544/impl.transaction").run Tryz.prog w = .ok (71, .agg #[Q1 txn, Q1 prev]) w := by kernel_rfl
@[go_sem] theorem jge (n : Nat) (txn prev page : Int) (ga : Option Addr) (gn gc : Nat) (w : World) : (method (n + 1) 115 (.agg #[Q1 txn, Q1 prev, Q1 page, .slice ga gn gc]) "loop.example/s02544/impl.ahead").run Tryz.prog w = .ok (72, .agg #[Q1 txn, Q1 prev]) w := by kernel_rfl
@[go_sem] theorem jgf (n : Nat) (txn prev page : Int) (ga : Option Addr) (gn gc : Nat) (w : World) : (method (n + 1) 115 (.agg #[Q1 txn, Q1 prev, Q1 page, .slice ga gn gc]) "loop.example/s02544/impl.appendRest").run Tryz.prog w = .ok (174, .agg #[Q1 txn, Q1 prev, Q1 page, .slice ga gn gc]) w := by kernel_rfl
set_option maxRecDepth 100000 in
theorem jdH (txn prev page : Int) (ga : Option Addr) (gn gc : Nat) (w : World) : Calls Tryz.prog 79 #[.agg #[Q1 txn, Q1 prev, Q1 page, .slice ga gn gc]] w fun e w' => e = .returned (Q1 8) ∧ Same w w' := by
 go_enter Tryz.func79, Tryz.ntmps79
 go_wp2;go_ret;exact ⟨rfl, kZ0.alloc _⟩
end Go.Proofs.YtapdfgkbhaoelaaGreatDoor
