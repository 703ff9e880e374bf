import Derived.Test.YtapdfgkbhaoelaaGreatDoorG12
namespace Go.Proofs.YtapdfgkbhaoelaaGreatDoor
set_option maxRecDepth 100000
set_option maxHeartbeats 4000000
set_option linter.unusedVariables false
set_option linter.unusedSimpArgs false
open Go.RowKit
theorem RZ {k : Int} (h : 1 ≤ k ∧ k ≤ 8) : OW k 1 = [k] := by
 obtain ⟨h1, h2⟩ := h
 rcases (show k = 1 ∨ k = 2 ∨ k = 3 ∨ k = 4 ∨ k = 5 ∨ k = 6 ∨ k = 7 ∨ k = 8 by omega) with rfl | rfl | rfl | rfl | rfl | rfl | rfl | rfl <;> decide
theorem Wo (txn prev page slot : Int) (bu : Bool) (ba : Option Addr) (bc : Nat) (bb : List Int) (au : Bool) (aa : Option Addr) (ac : Nat) (ab : List Int) (w : World) (sB : 0 ≤ txn ∧ txn ≤ 2147483647) (tT : 0 ≤ prev ∧ prev ≤ 1099511627776) (ly : IsI page) (cw : IsI slot) (eC : bb.length ≤ 1000) (vU : ab.length ≤ 1000) (kh : Rd .u8 w (.slice ba bb.length bc) bb) (iG : Rd .u8 w (.slice aa ab.length ac) ab) :
  Calls Tryz.prog 26 #[.iface 104 (.agg #[Q1 txn, Q1 prev, Q1 page, Q1 slot, .bool bu, .slice ba bb.length bc, .bool au, .slice aa ab.length ac])] w fun e w' => ∃ aa nn cc, e = .returned (.slice aa nn cc) ∧ Own 0 5 .u8 w' (.slice aa nn cc) (Pf 1 txn prev ++ (((OW page 2 ++ OW slot 2) ++ Pn bu bb) ++ Pn au ab)) ∧ (∀ b, (Value.slice aa nn cc).ownBlock = some b → w.heap.size ≤ b) ∧ Same w w' := by
 have fN := hid kh;have gR := hid iG;clear kh iG
 go_enter Tryz.func26, Tryz.ntmps26
 go_wp2_with fail
 refine (jdA txn prev page slot bu ba bb.length bc au aa ab.length ac _).mono ?_;rintro e w0 ⟨rfl, aW⟩;have aP : Hid (Same w w0) := aW;clear aW
 go_wp2_with fail
 refine (Qw 1 1 _ (by unfold IsI; omega) (by unfold IsI; omega)).mono ?_;rw [RZ (by omega)];rintro e w1 ⟨a1, c1, rfl, dx, dL, ah⟩;have aN := hid (aP.out.trans ah);have bJ := (show Hid (∀ b, (Value.slice a1 ([1] : List Int).length c1).ownBlock = some b → w.heap.size ≤ b) from fun b hb => Nat.le_trans aP.out.size (dx b hb));have dS : Hid (Own 0 5 .u8 w1 (.slice a1 ([1] : List Int).length c1) [1]) := dL;clear dx dL ah
 go_wp2_with fail
 refine (Po txn prev _).mono ?_;rintro e w2 ⟨rfl, aj⟩;have aO := hid (aN.out.trans aj);have cG := hid (dS.out.same aj);clear aj
 go_wp2_with fail
 refine (O7 _ [1] txn 4 _ (by unfold IsI; omega) (by unfold IsI; omega) (by simp) cG.out).mono ?_;rintro e w3 ⟨a3, n3, c3, rfl, ag, hg⟩;have cI : Hid (Own 0 5 .u8 w3 (.slice a3 n3 c3) ([1] ++ OW txn 4)) := ag;have bo : Hid (Same w w3) := hg.same aO.out bJ.out;have cR := hid (hg.fresh aO.out bJ.out);clear ag hg
 go_wp2_with fail
 refine (Qi txn prev _).mono ?_;rintro e w5 ⟨rfl, bF⟩;have cd := hid (bo.out.trans bF);have dZ := hid (cI.out.same bF);clear bF
 have fu : ([1] ++ OW txn 4).length ≤ 9 := by have := O3 txn 4; simp only [List.length_append, List.length_singleton]; omega
 go_wp2_with fail
 refine (O7 _ ([1] ++ OW txn 4) prev 8 _ (by unfold IsI; omega) (by unfold IsI; omega) (by omega) dZ.out).mono ?_;rintro e w4 ⟨a4, n4, c4, rfl, ag, hg⟩;have dV : Hid (Own 0 5 .u8 w4 (.slice a4 n4 c4) (Pf 1 txn prev)) := ag;have bp : Hid (Same w w4) := hg.same cd.out cR.out;have dK := hid (hg.fresh cd.out cR.out);clear ag hg;have pY := Qq 1 txn prev
 go_wp2_with fail
 refine (ZF _ _ txn prev page slot bu ba bc bb au aa ac ab _ ly cw eC vU (fun wx bi => fN.out.same (bp.out.next bi (fun i hi e => by have := dK.out i e; omega))) (fun wx bi => gR.out.same (bp.out.next bi (fun i hi e => by have := dK.out i e; omega))) (by omega) dV.out).mono ?_;rintro e w6 ⟨a6, n6, c6, rfl, ag, hg⟩;have jz : Hid (Own 0 5 .u8 w6 (.slice a6 n6 c6) (Pf 1 txn prev ++ (((OW page 2 ++ OW slot 2) ++ Pn bu bb) ++ Pn au ab))) := ag;have bR : Hid (Same w w6) := hg.same bp.out dK.out;have j3 := hid (hg.fresh bp.out dK.out);clear ag hg;go_wp2;go_ret;exact ⟨_, _, _, rfl, jz.out, j3.out, bR.out⟩
theorem Wp (txn prev page slot : Int) (au : Bool) (aa : Option Addr) (ac : Nat) (ab : List Int) (un : Int) (w : World) (sB : 0 ≤ txn ∧ txn ≤ 2147483647) (tT : 0 ≤ prev ∧ prev ≤ 1099511627776) (ly : IsI page) (cw : IsI slot) (qc : IsI un) (vU : ab.length ≤ 1000) (iG : Rd .u8 w (.slice aa ab.length ac) ab) :
  Calls Tryz.prog 26 #[.iface 106 (.agg #[Q1 txn, Q1 prev, Q1 page, Q1 slot, .bool au, .slice aa ab.length ac, Q1 un])] w fun e w' => ∃ aa nn cc, e = .returned (.slice aa nn cc) ∧ Own 0 5 .u8 w' (.slice aa nn cc) (Pf 2 txn prev ++ (((OW page 2 ++ OW slot 2) ++ Pn au ab) ++ OW un 8)) ∧ (∀ b, (Value.slice aa nn cc).ownBlock = some b → w.heap.size ≤ b) ∧ Same w w' := by
 have gR := hid iG;clear iG
 go_enter Tryz.func26, Tryz.ntmps26
 go_wp2_with fail
 refine (jdB txn prev page slot au aa ab.length ac un _).mono ?_;rintro e w0 ⟨rfl, aW⟩;have aP : Hid (Same w w0) := aW;clear aW
 go_wp2_with fail
 refine (Qw 2 1 _ (by unfold IsI; omega) (by unfold IsI; omega)).mono ?_;rw [RZ (by omega)];rintro e w1 ⟨a1, c1, rfl, dx, dL, ah⟩;have aN := hid (aP.out.trans ah);have bJ := (show Hid (∀ b, (Value.slice a1 ([2] : List Int).length c1).ownBlock = some b → w.heap.size ≤ b) from fun b hb => Nat.le_trans aP.out.size (dx b hb));have dS : Hid (Own 0 5 .u8 w1 (.slice a1 ([2] : List Int).length c1) [2]) := dL;clear dx dL ah
 go_wp2_with fail
 refine (Po txn prev _).mono ?_;rintro e w2 ⟨rfl, aj⟩;have aO := hid (aN.out.trans aj);have cG := hid (dS.out.same aj);clear aj
 go_wp2_with fail
 refine (O7 _ [2] txn 4 _ (by unfold IsI; omega) (by unfold IsI; omega) (by simp) cG.out).mono ?_;rintro e w3 ⟨a3, n3, c3, rfl, ag, hg⟩;have cI : Hid (Own 0 5 .u8 w3 (.slice a3 n3 c3) ([2] ++ OW txn 4)) := ag;have bo : Hid (Same w w3) := hg.same aO.out bJ.out;have cR := hid (hg.fresh aO.out bJ.out);clear ag hg
 go_wp2_with fail
 refine (Qi txn prev _).mono ?_;rintro e w5 ⟨rfl, bF⟩;have cd := hid (bo.out.trans bF);have dZ := hid (cI.out.same bF);clear bF
 have fu : ([2] ++ OW txn 4).length ≤ 9 := by have := O3 txn 4; simp only [List.length_append, List.length_singleton]; omega
 go_wp2_with fail
 refine (O7 _ ([2] ++ OW txn 4) prev 8 _ (by unfold IsI; omega) (by unfold IsI; omega) (by omega) dZ.out).mono ?_;rintro e w4 ⟨a4, n4, c4, rfl, ag, hg⟩;have dV : Hid (Own 0 5 .u8 w4 (.slice a4 n4 c4) (Pf 2 txn prev)) := ag;have bp : Hid (Same w w4) := hg.same cd.out cR.out;have dK := hid (hg.fresh cd.out cR.out);clear ag hg;have pY := Qq 2 txn prev
 go_wp2_with fail
 refine (YO _ _ txn prev page slot au aa ac ab un _ ly cw qc vU (fun wx bi => gR.out.same (bp.out.next bi (fun i hi e => by have := dK.out i e; omega))) (by omega) dV.out).mono ?_;rintro e w6 ⟨a6, n6, c6, rfl, ag, hg⟩;have jz : Hid (Own 0 5 .u8 w6 (.slice a6 n6 c6) (Pf 2 txn prev ++ (((OW page 2 ++ OW slot 2) ++ Pn au ab) ++ OW un 8))) := ag;have bR : Hid (Same w w6) := hg.same bp.out dK.out;have j3 := hid (hg.fresh bp.out dK.out);clear ag hg;go_wp2;go_ret;exact ⟨_, _, _, rfl, jz.out, j3.out, bR.out⟩
theorem Wq (txn prev : Int) (w : World) (sB : 0 ≤ txn ∧ txn ≤ 2147483647) (tT : 0 ≤ prev ∧ prev ≤ 1099511627776)  :
  Calls Tryz.prog 26 #[.iface 108 (.agg #[Q1 txn, Q1 prev])] w fun e w' => ∃ aa nn cc, e = .returned (.slice aa nn cc) ∧ Own 0 5 .u8 w' (.slice aa nn cc) (Pf 3 txn prev ++ ([])) ∧ (∀ b, (Value.slice aa nn cc).ownBlock = some b → w.heap.size ≤ b) ∧ Same w w' := by
 go_enter Tryz.func26, Tryz.ntmps26
 go_wp2_with fail
 refine (jdC txn prev _).mono ?_;rintro e w0 ⟨rfl, aW⟩;have aP : Hid (Same w w0) := aW;clear aW
 go_wp2_with fail
 refine (Qw 3 1 _ (by unfold IsI; omega) (by unfold IsI; omega)).mono ?_;rw [RZ (by omega)];rintro e w1 ⟨a1, c1, rfl, dx, dL, ah⟩;have aN := hid (aP.out.trans ah);have bJ := (show Hid (∀ b, (Value.slice a1 ([3] : List Int).length c1).ownBlock = some b → w.heap.size ≤ b) from fun b hb => Nat.le_trans aP.out.size (dx b hb));have dS : Hid (Own 0 5 .u8 w1 (.slice a1 ([3] : List Int).length c1) [3]) := dL;clear dx dL ah
 go_wp2_with fail
 refine (Po txn prev _).mono ?_;rintro e w2 ⟨rfl, aj⟩;have aO := hid (aN.out.trans aj);have cG := hid (dS.out.same aj);clear aj
 go_wp2_with fail
 refine (O7 _ [3] txn 4 _ (by unfold IsI; omega) (by unfold IsI; omega) (by simp) cG.out).mono ?_;rintro e w3 ⟨a3, n3, c3, rfl, ag, hg⟩;have cI : Hid (Own 0 5 .u8 w3 (.slice a3 n3 c3) ([3] ++ OW txn 4)) := ag;have bo : Hid (Same w w3) := hg.same aO.out bJ.out;have cR := hid (hg.fresh aO.out bJ.out);clear ag hg
 go_wp2_with fail
 refine (Qi txn prev _).mono ?_;rintro e w5 ⟨rfl, bF⟩;have cd := hid (bo.out.trans bF);have dZ := hid (cI.out.same bF);clear bF
 have fu : ([3] ++ OW txn 4).length ≤ 9 := by have := O3 txn 4; simp only [List.length_append, List.length_singleton]; omega
 go_wp2_with fail
 refine (O7 _ ([3] ++ OW txn 4) prev 8 _ (by unfold IsI; omega) (by unfold IsI; omega) (by omega) dZ.out).mono ?_;rintro e w4 ⟨a4, n4, c4, rfl, ag, hg⟩;have dV : Hid (Own 0 5 .u8 w4 (.slice a4 n4 c4) (Pf 3 txn prev)) := ag;have bp : Hid (Same w w4) := hg.same cd.out cR.out;have dK := hid (hg.fresh cd.out cR.out);clear ag hg;have pY := Qq 3 txn prev
 go_wp2_with fail
 refine (Sd _ _ txn prev _ (by omega) dV.out).mono ?_;rintro e w6 ⟨a6, n6, c6, rfl, ag, hg⟩;have jz : Hid (Own 0 5 .u8 w6 (.slice a6 n6 c6) (Pf 3 txn prev ++ ([]))) := ag;have bR : Hid (Same w w6) := hg.same bp.out dK.out;have j3 := hid (hg.fresh bp.out dK.out);clear ag hg;go_wp2;go_ret;exact ⟨_, _, _, rfl, jz.out, j3.out, bR.out⟩
theorem Ws (txn prev : Int) (w : World) (sB : 0 ≤ txn ∧ txn ≤ 2147483647) (tT : 0 ≤ prev ∧ prev ≤ 1099511627776)  :
  Calls Tryz.prog 26 #[.iface 109 (.agg #[Q1 txn, Q1 prev])] w fun e w' => ∃ aa nn cc, e = .returned (.slice aa nn cc) ∧ Own 0 5 .u8 w' (.slice aa nn cc) (Pf 4 txn prev ++ ([])) ∧ (∀ b, (Value.slice aa nn cc).ownBlock = some b → w.heap.size ≤ b) ∧ Same w w' := by
 go_enter Tryz.func26, Tryz.ntmps26
 go_wp2_with fail
 refine (jdD txn prev _).mono ?_;rintro e w0 ⟨rfl, aW⟩;have aP : Hid (Same w w0) := aW;clear aW
 go_wp2_with fail
 refine (Qw 4 1 _ (by unfold IsI; omega) (by unfold IsI; omega)).mono ?_;rw [RZ (by omega)];rintro e w1 ⟨a1, c1, rfl, dx, dL, ah⟩;have aN := hid (aP.out.trans ah);have bJ := (show Hid (∀ b, (Value.slice a1 ([4] : List Int).length c1).ownBlock = some b → w.heap.size ≤ b) from fun b hb => Nat.le_trans aP.out.size (dx b hb));have dS : Hid (Own 0 5 .u8 w1 (.slice a1 ([4] : List Int).length c1) [4]) := dL;clear dx dL ah
 go_wp2_with fail
 refine (Po txn prev _).mono ?_;rintro e w2 ⟨rfl, aj⟩;have aO := hid (aN.out.trans aj);have cG := hid (dS.out.same aj);clear aj
 go_wp2_with fail
 refine (O7 _ [4] txn 4 _ (by unfold IsI; omega) (by unfold IsI; omega) (by simp) cG.out).mono ?_;rintro e w3 ⟨a3, n3, c3, rfl, ag, hg⟩;have cI : Hid (Own 0 5 .u8 w3 (.slice a3 n3 c3) ([4] ++ OW txn 4)) := ag;have bo : Hid (Same w w3) := hg.same aO.out bJ.out;have cR := hid (hg.fresh aO.out bJ.out);clear ag hg
 go_wp2_with fail
 refine (Qi txn prev _).mono ?_;rintro e w5 ⟨rfl, bF⟩;have cd := hid (bo.out.trans bF);have dZ := hid (cI.out.same bF);clear bF
 have fu : ([4] ++ OW txn 4).length ≤ 9 := by have := O3 txn 4; simp only [List.length_append, List.length_singleton]; omega
 go_wp2_with fail
 refine (O7 _ ([4] ++ OW txn 4) prev 8 _ (by unfold IsI; omega) (by unfold IsI; omega) (by omega) dZ.out).mono ?_;rintro e w4 ⟨a4, n4, c4, rfl, ag, hg⟩;have dV : Hid (Own 0 5 .u8 w4 (.slice a4 n4 c4) (Pf 4 txn prev)) := ag;have bp : Hid (Same w w4) := hg.same cd.out cR.out;have dK := hid (hg.fresh cd.out cR.out);clear ag hg;have pY := Qq 4 txn prev
 go_wp2_with fail
 refine (Sd _ _ txn prev _ (by omega) dV.out).mono ?_;rintro e w6 ⟨a6, n6, c6, rfl, ag, hg⟩;have jz : Hid (Own 0 5 .u8 w6 (.slice a6 n6 c6) (Pf 4 txn prev ++ ([]))) := ag;have bR : Hid (Same w w6) := hg.same bp.out dK.out;have j3 := hid (hg.fresh bp.out dK.out);clear ag hg;go_wp2;go_ret;exact ⟨_, _, _, rfl, jz.out, j3.out, bR.out⟩
theorem Wt (txn prev : Int) (w : World) (sB : 0 ≤ txn ∧ txn ≤ 2147483647) (tT : 0 ≤ prev ∧ prev ≤ 1099511627776)  :
  Calls Tryz.prog 26 #[.iface 110 (.agg #[Q1 txn, Q1 prev])] w fun e w' => ∃ aa nn cc, e = .returned (.slice aa nn cc) ∧ Own 0 5 .u8 w' (.slice aa nn cc) (Pf 5 txn prev ++ ([])) ∧ (∀ b, (Value.slice aa nn cc).ownBlock = some b → w.heap.size ≤ b) ∧ Same w w' := by
 go_enter Tryz.func26, Tryz.ntmps26
 go_wp2_with fail
 refine (jdE txn prev _).mono ?_;rintro e w0 ⟨rfl, aW⟩;have aP : Hid (Same w w0) := aW;clear aW
 go_wp2_with fail
 refine (Qw 5 1 _ (by unfold IsI; omega) (by unfold IsI; omega)).mono ?_;rw [RZ (by omega)];rintro e w1 ⟨a1, c1, rfl, dx, dL, ah⟩;have aN := hid (aP.out.trans ah);have bJ := (show Hid (∀ b, (Value.slice a1 ([5] : List Int).length c1).ownBlock = some b → w.heap.size ≤ b) from fun b hb => Nat.le_trans aP.out.size (dx b hb));have dS : Hid (Own 0 5 .u8 w1 (.slice a1 ([5] : List Int).length c1) [5]) := dL;clear dx dL ah
 go_wp2_with fail
 refine (Po txn prev _).mono ?_;rintro e w2 ⟨rfl, aj⟩;have aO := hid (aN.out.trans aj);have cG := hid (dS.out.same aj);clear aj
 go_wp2_with fail
 refine (O7 _ [5] txn 4 _ (by unfold IsI; omega) (by unfold IsI; omega) (by simp) cG.out).mono ?_;rintro e w3 ⟨a3, n3, c3, rfl, ag, hg⟩;have cI : Hid (Own 0 5 .u8 w3 (.slice a3 n3 c3) ([5] ++ OW txn 4)) := ag;have bo : Hid (Same w w3) := hg.same aO.out bJ.out;have cR := hid (hg.fresh aO.out bJ.out);clear ag hg
 go_wp2_with fail
 refine (Qi txn prev _).mono ?_;rintro e w5 ⟨rfl, bF⟩;have cd := hid (bo.out.trans bF);have dZ := hid (cI.out.same bF);clear bF
 have fu : ([5] ++ OW txn 4).length ≤ 9 := by have := O3 txn 4; simp only [List.length_append, List.length_singleton]; omega
 go_wp2_with fail
 refine (O7 _ ([5] ++ OW txn 4) prev 8 _ (by unfold IsI; omega) (by unfold IsI; omega) (by omega) dZ.out).mono ?_;rintro e w4 ⟨a4, n4, c4, rfl, ag, hg⟩;have dV : Hid (Own 0 5 .u8 w4 (.slice a4 n4 c4) (Pf 5 txn prev)) := ag;have bp : Hid (Same w w4) := hg.same cd.out cR.out;have dK := hid (hg.fresh cd.out cR.out);clear ag hg;have pY := Qq 5 txn prev
 go_wp2_with fail
 refine (Sd _ _ txn prev _ (by omega) dV.out).mono ?_;rintro e w6 ⟨a6, n6, c6, rfl, ag, hg⟩;have jz : Hid (Own 0 5 .u8 w6 (.slice a6 n6 c6) (Pf 5 txn prev ++ ([]))) := ag;have bR : Hid (Same w w6) := hg.same bp.out dK.out;have j3 := hid (hg.fresh bp.out dK.out);clear ag hg;go_wp2;go_ret;exact ⟨_, _, _, rfl, jz.out, j3.out, bR.out⟩
theorem Wu (txn prev : Int) (w : World) (sB : 0 ≤ txn ∧ txn ≤ 2147483647) (tT : 0 ≤ prev ∧ prev ≤ 1099511627776)  :
  Calls Tryz.prog 26 #[.iface 111 (.agg #[Q1 txn, Q1 prev])] w fun e w' => ∃ aa nn cc, e = .returned (.slice aa nn cc) ∧ Own 0 5 .u8 w' (.slice aa nn cc) (Pf 6 txn prev ++ ([])) ∧ (∀ b, (Value.slice aa nn cc).ownBlock = some b → w.heap.size ≤ b) ∧ Same w w' := by
 go_enter Tryz.func26, Tryz.ntmps26
 go_wp2_with fail
 refine (jdF txn prev _).mono ?_;rintro e w0 ⟨rfl, aW⟩;have aP : Hid (Same w w0) := aW;clear aW
 go_wp2_with fail
 refine (Qw 6 1 _ (by unfold IsI; omega) (by unfold IsI; omega)).mono ?_;rw [RZ (by omega)];rintro e w1 ⟨a1, c1, rfl, dx, dL, ah⟩;have aN := hid (aP.out.trans ah);have bJ := (show Hid (∀ b, (Value.slice a1 ([6] : List Int).length c1).ownBlock = some b → w.heap.size ≤ b) from fun b hb => Nat.le_trans aP.out.size (dx b hb));have dS : Hid (Own 0 5 .u8 w1 (.slice a1 ([6] : List Int).length c1) [6]) := dL;clear dx dL ah
 go_wp2_with fail
 refine (Po txn prev _).mono ?_;rintro e w2 ⟨rfl, aj⟩;have aO := hid (aN.out.trans aj);have cG := hid (dS.out.same aj);clear aj
 go_wp2_with fail
 refine (O7 _ [6] txn 4 _ (by unfold IsI; omega) (by unfold IsI; omega) (by simp) cG.out).mono ?_;rintro e w3 ⟨a3, n3, c3, rfl, ag, hg⟩;have cI : Hid (Own 0 5 .u8 w3 (.slice a3 n3 c3) ([6] ++ OW txn 4)) := ag;have bo : Hid (Same w w3) := hg.same aO.out bJ.out;have cR := hid (hg.fresh aO.out bJ.out);clear ag hg
 go_wp2_with fail
 refine (Qi txn prev _).mono ?_;rintro e w5 ⟨rfl, bF⟩;have cd := hid (bo.out.trans bF);have dZ := hid (cI.out.same bF);clear bF
 have fu : ([6] ++ OW txn 4).length ≤ 9 := by have := O3 txn 4; simp only [List.length_append, List.length_singleton]; omega
 go_wp2_with fail
 refine (O7 _ ([6] ++ OW txn 4) prev 8 _ (by unfold IsI; omega) (by unfold IsI; omega) (by omega) dZ.out).mono ?_;rintro e w4 ⟨a4, n4, c4, rfl, ag, hg⟩;have dV : Hid (Own 0 5 .u8 w4 (.slice a4 n4 c4) (Pf 6 txn prev)) := ag;have bp : Hid (Same w w4) := hg.same cd.out cR.out;have dK := hid (hg.fresh cd.out cR.out);clear ag hg;have pY := Qq 6 txn prev
 go_wp2_with fail
 refine (Sd _ _ txn prev _ (by omega) dV.out).mono ?_;rintro e w6 ⟨a6, n6, c6, rfl, ag, hg⟩;have jz : Hid (Own 0 5 .u8 w6 (.slice a6 n6 c6) (Pf 6 txn prev ++ ([]))) := ag;have bR : Hid (Same w w6) := hg.same bp.out dK.out;have j3 := hid (hg.fresh bp.out dK.out);clear ag hg;go_wp2;go_ret;exact ⟨_, _, _, rfl, jz.out, j3.out, bR.out⟩
theorem Wv (txn prev nt : Int) (te : TypeId) (ta : Option Addr) (tn tc : Nat) (tb : List Int) (de : TypeId) (da : Option Addr) (dn dc : Nat) (db : List Int) (w : World) (sB : 0 ≤ txn ∧ txn ≤ 2147483647) (tT : 0 ≤ prev ∧ prev ≤ 1099511627776) (vB : 1 ≤ nt ∧ nt ≤ 2147483648) (kz : tn ≤ 8) (gm : dn ≤ 16) (lw : ∀ i, i < tn → (1 ≤ tb.getD (i * 4) 0 ∧ tb.getD (i * 4) 0 ≤ 2147483647) ∧ (1 ≤ tb.getD (i * 4 + 1) 0 ∧ tb.getD (i * 4 + 1) 0 ≤ 3) ∧ (1 ≤ tb.getD (i * 4 + 2) 0 ∧ tb.getD (i * 4 + 2) 0 ≤ 1099511627776) ∧ (0 ≤ tb.getD (i * 4 + 3) 0 ∧ tb.getD (i * 4 + 3) 0 ≤ tb.getD (i * 4 + 2) 0)) (ll : ∀ i, i < dn → (0 ≤ db.getD (i * 2) 0 ∧ db.getD (i * 2) 0 < 16) ∧ (1 ≤ db.getD (i * 2 + 1) 0 ∧ db.getD (i * 2 + 1) 0 ≤ 1099511627776)) (wU : RdF 4 w ⟨te, ta, tn, tc, tb⟩) (b9 : RdF 2 w ⟨de, da, dn, dc, db⟩) :
  Calls Tryz.prog 26 #[.iface 113 (.agg #[Q1 txn, Q1 prev, Q1 nt, .slice ta tn tc, .slice da dn dc])] w fun e w' => ∃ aa nn cc, e = .returned (.slice aa nn cc) ∧ Own 0 5 .u8 w' (.slice aa nn cc) (Pf 7 txn prev ++ ((((OW nt 4 ++ OW (tn : Nat) 1) ++ PI tb tn) ++ OW (dn : Nat) 1) ++ QK db dn)) ∧ (∀ b, (Value.slice aa nn cc).ownBlock = some b → w.heap.size ≤ b) ∧ Same w w' := by
 have lO := hid wU;have jg := hid b9;have su := hid lw;have tD := hid ll;clear wU b9 lw ll
 go_enter Tryz.func26, Tryz.ntmps26
 go_wp2_with fail
 refine (jdG txn prev nt ta tn tc da dn dc _).mono ?_;rintro e w0 ⟨rfl, aW⟩;have aP : Hid (Same w w0) := aW;clear aW
 go_wp2_with fail
 refine (Qw 7 1 _ (by unfold IsI; omega) (by unfold IsI; omega)).mono ?_;rw [RZ (by omega)];rintro e w1 ⟨a1, c1, rfl, dx, dL, ah⟩;have aN := hid (aP.out.trans ah);have bJ := (show Hid (∀ b, (Value.slice a1 ([7] : List Int).length c1).ownBlock = some b → w.heap.size ≤ b) from fun b hb => Nat.le_trans aP.out.size (dx b hb));have dS : Hid (Own 0 5 .u8 w1 (.slice a1 ([7] : List Int).length c1) [7]) := dL;clear dx dL ah
 go_wp2_with fail
 refine (Po txn prev _).mono ?_;rintro e w2 ⟨rfl, aj⟩;have aO := hid (aN.out.trans aj);have cG := hid (dS.out.same aj);clear aj
 go_wp2_with fail
 refine (O7 _ [7] txn 4 _ (by unfold IsI; omega) (by unfold IsI; omega) (by simp) cG.out).mono ?_;rintro e w3 ⟨a3, n3, c3, rfl, ag, hg⟩;have cI : Hid (Own 0 5 .u8 w3 (.slice a3 n3 c3) ([7] ++ OW txn 4)) := ag;have bo : Hid (Same w w3) := hg.same aO.out bJ.out;have cR := hid (hg.fresh aO.out bJ.out);clear ag hg
 go_wp2_with fail
 refine (Qi txn prev _).mono ?_;rintro e w5 ⟨rfl, bF⟩;have cd := hid (bo.out.trans bF);have dZ := hid (cI.out.same bF);clear bF
 have fu : ([7] ++ OW txn 4).length ≤ 9 := by have := O3 txn 4; simp only [List.length_append, List.length_singleton]; omega
 go_wp2_with fail
 refine (O7 _ ([7] ++ OW txn 4) prev 8 _ (by unfold IsI; omega) (by unfold IsI; omega) (by omega) dZ.out).mono ?_;rintro e w4 ⟨a4, n4, c4, rfl, ag, hg⟩;have dV : Hid (Own 0 5 .u8 w4 (.slice a4 n4 c4) (Pf 7 txn prev)) := ag;have bp : Hid (Same w w4) := hg.same cd.out cR.out;have dK := hid (hg.fresh cd.out cR.out);clear ag hg;have pY := Qq 7 txn prev
 go_wp2_with fail
 refine (ZH _ _ txn prev nt te ta tn tc tb de da dn dc db _ vB kz gm su.out tD.out (fun wx bi => lO.out.same (bp.out.next bi (fun i hi e => by have := dK.out i e; omega))) (fun wx bi => jg.out.same (bp.out.next bi (fun i hi e => by have := dK.out i e; omega))) (by omega) dV.out).mono ?_;rintro e w6 ⟨a6, n6, c6, rfl, ag, hg⟩;have jz : Hid (Own 0 5 .u8 w6 (.slice a6 n6 c6) (Pf 7 txn prev ++ ((((OW nt 4 ++ OW (tn : Nat) 1) ++ PI tb tn) ++ OW (dn : Nat) 1) ++ QK db dn))) := ag;have bR : Hid (Same w w6) := hg.same bp.out dK.out;have j3 := hid (hg.fresh bp.out dK.out);clear ag hg;go_wp2;go_ret;exact ⟨_, _, _, rfl, jz.out, j3.out, bR.out⟩
theorem Ww (txn prev page : Int) (ga : Option Addr) (gc : Nat) (gb : List Int) (w : World) (sB : 0 ≤ txn ∧ txn ≤ 2147483647) (tT : 0 ≤ prev ∧ prev ≤ 1099511627776) (ly : IsI page) (C7 : gb.length ≤ 4096) (vx : Rd .u8 w (.slice ga gb.length gc) gb) :
  Calls Tryz.prog 26 #[.iface 115 (.agg #[Q1 txn, Q1 prev, Q1 page, .slice ga gb.length gc])] w fun e w' => ∃ aa nn cc, e = .returned (.slice aa nn cc) ∧ Own 0 5 .u8 w' (.slice aa nn cc) (Pf 8 txn prev ++ (OW page 2 ++ gb)) ∧ (∀ b, (Value.slice aa nn cc).ownBlock = some b → w.heap.size ≤ b) ∧ Same w w' := by
 have iS := hid vx;clear vx
 go_enter Tryz.func26, Tryz.ntmps26
 go_wp2_with fail
 refine (jdH txn prev page ga gb.length gc _).mono ?_;rintro e w0 ⟨rfl, aW⟩;have aP : Hid (Same w w0) := aW;clear aW
 go_wp2_with fail
 refine (Qw 8 1 _ (by unfold IsI; omega) (by unfold IsI; omega)).mono ?_;rw [RZ (by omega)];rintro e w1 ⟨a1, c1, rfl, dx, dL, ah⟩;have aN := hid (aP.out.trans ah);have bJ := (show Hid (∀ b, (Value.slice a1 ([8] : List Int).length c1).ownBlock = some b → w.heap.size ≤ b) from fun b hb => Nat.le_trans aP.out.size (dx b hb));have dS : Hid (Own 0 5 .u8 w1 (.slice a1 ([8] : List Int).length c1) [8]) := dL;clear dx dL ah
 go_wp2_with fail
 refine (Po txn prev _).mono ?_;rintro e w2 ⟨rfl, aj⟩;have aO := hid (aN.out.trans aj);have cG := hid (dS.out.same aj);clear aj
 go_wp2_with fail
 refine (O7 _ [8] txn 4 _ (by unfold IsI; omega) (by unfold IsI; omega) (by simp) cG.out).mono ?_;rintro e w3 ⟨a3, n3, c3, rfl, ag, hg⟩;have cI : Hid (Own 0 5 .u8 w3 (.slice a3 n3 c3) ([8] ++ OW txn 4)) := ag;have bo : Hid (Same w w3) := hg.same aO.out bJ.out;have cR := hid (hg.fresh aO.out bJ.out);clear ag hg
 go_wp2_with fail
 refine (Qi txn prev _).mono ?_;rintro e w5 ⟨rfl, bF⟩;have cd := hid (bo.out.trans bF);have dZ := hid (cI.out.same bF);clear bF
 have fu : ([8] ++ OW txn 4).length ≤ 9 := by have := O3 txn 4; simp only [List.length_append, List.length_singleton]; omega
 go_wp2_with fail
 refine (O7 _ ([8] ++ OW txn 4) prev 8 _ (by unfold IsI; omega) (by unfold IsI; omega) (by omega) dZ.out).mono ?_;rintro e w4 ⟨a4, n4, c4, rfl, ag, hg⟩;have dV : Hid (Own 0 5 .u8 w4 (.slice a4 n4 c4) (Pf 8 txn prev)) := ag;have bp : Hid (Same w w4) := hg.same cd.out cR.out;have dK := hid (hg.fresh cd.out cR.out);clear ag hg;have pY := Qq 8 txn prev
 go_wp2_with fail
 refine (ZG _ _ txn prev page ga gc gb _ ly C7 (fun wx bi => iS.out.same (bp.out.next bi (fun i hi e => by have := dK.out i e; omega))) (by omega) dV.out).mono ?_;rintro e w6 ⟨a6, n6, c6, rfl, ag, hg⟩;have jz : Hid (Own 0 5 .u8 w6 (.slice a6 n6 c6) (Pf 8 txn prev ++ (OW page 2 ++ gb))) := ag;have bR : Hid (Same w w6) := hg.same bp.out dK.out;have j3 := hid (hg.fresh bp.out dK.out);clear ag hg;go_wp2;go_ret;exact ⟨_, _, _, rfl, jz.out, j3.out, bR.out⟩
end Go.Proofs.YtapdfgkbhaoelaaGreatDoor
