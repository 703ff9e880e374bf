import Derived.Test.YtaojjcnmififoaaGreatG20
namespace Go.Proofs.YtaojjcnmififoaaGreat
set_option maxRecDepth 100000
set_option maxHeartbeats 4000000
set_option linter.unusedVariables false
set_option linter.unusedSimpArgs false
open Go.RowKit
theorem Uk {k : Int} (h : 1 ≤ k ∧ k ≤ 8) : Q6 k 1 = [k] := by
 obtain ⟨h1, h2⟩ := h
 rcases (show k = 1 ∨ k = 2 ∨ k = 3 ∨ k = 4 ∨ k = 5 ∨ k = 6 ∨ k = 7 ∨ k = 8 by omega) with rfl | rfl | rfl | rfl | rfl | rfl | rfl | rfl <;> decide
theorem jbs (txn prev page slot : Int) (bu : Bool) (ba : Option Addr) (bc : Nat) (bb : List Int) (au : Bool) (aa : Option Addr) (ac : Nat) (ab : List Int) (w : World) (vq : 0 ≤ txn ∧ txn ≤ 2147483647) (uI : 0 ≤ prev ∧ prev ≤ 1099511627776) (nc : IsI page) (iO : IsI slot) (wR : bb.length ≤ 1000) (Ab : ab.length ≤ 1000) (fI : Rd .u8 w (.slice ba bb.length bc) bb) (fx : Rd .u8 w (.slice aa ab.length ac) ab) :
  Calls Tryz.prog 70 #[.iface 144 (.agg #[.int .i64 txn, .int .i64 prev, .int .i64 page, .int .i64 slot, .bool bu, .slice ba bb.length bc, .bool au, .slice aa ab.length ac])] w fun e w' => ∃ aa nn cc, e = .returned (.slice aa nn cc) ∧ Own 0 5 .u8 w' (.slice aa nn cc) (Rv 1 txn prev ++ (((Q6 page 2 ++ Q6 slot 2) ++ Ry bu bb) ++ Ry au ab)) ∧ (∀ b, (Value.slice aa nn cc).ownBlock = some b → w.heap.size ≤ b) ∧ Same w w' := by
 have pL := hid fI
 have np := hid fx
 clear fI fx
 go_enter Tryz.func70, Tryz.ntmps70
 go_wp2_with fail
 refine (jeB txn prev page slot bu ba bb.length bc au aa ab.length ac _).mono ?_
 rintro e w0 ⟨rfl, du⟩
 have aJ := (show Hid (Same w w0) from du)
 clear du
 go_wp2_with fail
 refine (SB 1 1 _ (by unfold IsI; omega) (by unfold IsI; omega)).mono ?_
 rw [Uk (by omega)]
 rintro e w1 ⟨a1, c1, rfl, gK, gk, aH⟩
 have aM := hid (aJ.out.trans aH)
 have gy := (show Hid (∀ b, (Value.slice a1 ([1] : List Int).length c1).ownBlock = some b → w.heap.size ≤ b) from fun b hb => Nat.le_trans aJ.out.size (gK b hb))
 have gP := (show Hid (Own 0 5 .u8 w1 (.slice a1 ([1] : List Int).length c1) [1]) from gk)
 clear gK gk aH
 go_wp2_with fail
 refine (Rq txn prev _).mono ?_
 rintro e w2 ⟨rfl, aN⟩
 have aY := hid (aM.out.trans aN)
 have eF := hid (gP.out.same aN)
 clear aN
 go_wp2_with fail
 refine (Rc _ [1] txn 4 _ (by unfold IsI; omega) (by unfold IsI; omega) (by simp) eF.out).mono ?_
 rintro e w3 ⟨a3, n3, c3, rfl, aw, hg⟩
 have fy := (show Hid (Own 0 5 .u8 w3 (.slice a3 n3 c3) ([1] ++ Q6 txn 4)) from aw)
 have dt := (show Hid (Same w w3) from hg.same aY.out gy.out)
 have gR := hid (hg.fresh aY.out gy.out)
 clear aw hg
 go_wp2_with fail
 refine (Sc txn prev _).mono ?_
 rintro e w5 ⟨rfl, eA⟩
 have dp := hid (dt.out.trans eA)
 have jN := hid (fy.out.same eA)
 clear eA
 have gW : ([1] ++ Q6 txn 4).length ≤ 9 := by have := Ra txn 4; simp only [List.length_append, List.length_singleton]; omega
 go_wp2_with fail
 refine (Rc _ ([1] ++ Q6 txn 4) prev 8 _ (by unfold IsI; omega) (by unfold IsI; omega) (by omega) jN.out).mono ?_
 rintro e w4 ⟨a4, n4, c4, rfl, aw, hg⟩
 have il := (show Hid (Own 0 5 .u8 w4 (.slice a4 n4 c4) (Rv 1 txn prev)) from aw)
 have cu := (show Hid (Same w w4) from hg.same dp.out gR.out)
 have gm := hid (hg.fresh dp.out gR.out)
 clear aw hg
 have qd := SQ 1 txn prev
 go_wp2_with fail
 refine (jaZ _ _ txn prev page slot bu ba bc bb au aa ac ab _ nc iO wR Ab (fun wx dG => pL.out.same (cu.out.next dG (fun i hi e => by have := gm.out i e; omega))) (fun wx dG => np.out.same (cu.out.next dG (fun i hi e => by have := gm.out i e; omega))) (by omega) il.out).mono ?_
 rintro e w6 ⟨a6, n6, c6, rfl, aw, hg⟩
 have iK := (show Hid (Own 0 5 .u8 w6 (.slice a6 n6 c6) (Rv 1 txn prev ++ (((Q6 page 2 ++ Q6 slot 2) ++ Ry bu bb) ++ Ry au ab))) from aw)
 have eh := (show Hid (Same w w6) from hg.same cu.out gm.out)
 have l8 := hid (hg.fresh cu.out gm.out)
 clear aw hg
 go_wp2
 go_ret
 exact ⟨_, _, _, rfl, iK.out, l8.out, eh.out⟩
theorem jbt (txn prev page slot : Int) (au : Bool) (aa : Option Addr) (ac : Nat) (ab : List Int) (un : Int) (w : World) (vq : 0 ≤ txn ∧ txn ≤ 2147483647) (uI : 0 ≤ prev ∧ prev ≤ 1099511627776) (nc : IsI page) (iO : IsI slot) (kt : IsI un) (Ab : ab.length ≤ 1000) (fx : Rd .u8 w (.slice aa ab.length ac) ab) :
  Calls Tryz.prog 70 #[.iface 146 (.agg #[.int .i64 txn, .int .i64 prev, .int .i64 page, .int .i64 slot, .bool au, .slice aa ab.length ac, .int .i64 un])] w fun e w' => ∃ aa nn cc, e = .returned (.slice aa nn cc) ∧ Own 0 5 .u8 w' (.slice aa nn cc) (Rv 2 txn prev ++ (((Q6 page 2 ++ Q6 slot 2) ++ Ry au ab) ++ Q6 un 8)) ∧ (∀ b, (Value.slice aa nn cc).ownBlock = some b → w.heap.size ≤ b) ∧ Same w w' := by
 have np := hid fx
 clear fx
 go_enter Tryz.func70, Tryz.ntmps70
 go_wp2_with fail
 refine (jeC txn prev page slot au aa ab.length ac un _).mono ?_
 rintro e w0 ⟨rfl, du⟩
 have aJ := (show Hid (Same w w0) from du)
 clear du
 go_wp2_with fail
 refine (SB 2 1 _ (by unfold IsI; omega) (by unfold IsI; omega)).mono ?_
 rw [Uk (by omega)]
 rintro e w1 ⟨a1, c1, rfl, gK, gk, aH⟩
 have aM := hid (aJ.out.trans aH)
 have gy := (show Hid (∀ b, (Value.slice a1 ([2] : List Int).length c1).ownBlock = some b → w.heap.size ≤ b) from fun b hb => Nat.le_trans aJ.out.size (gK b hb))
 have gP := (show Hid (Own 0 5 .u8 w1 (.slice a1 ([2] : List Int).length c1) [2]) from gk)
 clear gK gk aH
 go_wp2_with fail
 refine (Rq txn prev _).mono ?_
 rintro e w2 ⟨rfl, aN⟩
 have aY := hid (aM.out.trans aN)
 have eF := hid (gP.out.same aN)
 clear aN
 go_wp2_with fail
 refine (Rc _ [2] txn 4 _ (by unfold IsI; omega) (by unfold IsI; omega) (by simp) eF.out).mono ?_
 rintro e w3 ⟨a3, n3, c3, rfl, aw, hg⟩
 have fy := (show Hid (Own 0 5 .u8 w3 (.slice a3 n3 c3) ([2] ++ Q6 txn 4)) from aw)
 have dt := (show Hid (Same w w3) from hg.same aY.out gy.out)
 have gR := hid (hg.fresh aY.out gy.out)
 clear aw hg
 go_wp2_with fail
 refine (Sc txn prev _).mono ?_
 rintro e w5 ⟨rfl, eA⟩
 have dp := hid (dt.out.trans eA)
 have jN := hid (fy.out.same eA)
 clear eA
 have gW : ([2] ++ Q6 txn 4).length ≤ 9 := by have := Ra txn 4; simp only [List.length_append, List.length_singleton]; omega
 go_wp2_with fail
 refine (Rc _ ([2] ++ Q6 txn 4) prev 8 _ (by unfold IsI; omega) (by unfold IsI; omega) (by omega) jN.out).mono ?_
 rintro e w4 ⟨a4, n4, c4, rfl, aw, hg⟩
 have il := (show Hid (Own 0 5 .u8 w4 (.slice a4 n4 c4) (Rv 2 txn prev)) from aw)
 have cu := (show Hid (Same w w4) from hg.same dp.out gR.out)
 have gm := hid (hg.fresh dp.out gR.out)
 clear aw hg
 have qd := SQ 2 txn prev
 go_wp2_with fail
 refine (jai _ _ txn prev page slot au aa ac ab un _ nc iO kt Ab (fun wx dG => np.out.same (cu.out.next dG (fun i hi e => by have := gm.out i e; omega))) (by omega) il.out).mono ?_
 rintro e w6 ⟨a6, n6, c6, rfl, aw, hg⟩
 have iK := (show Hid (Own 0 5 .u8 w6 (.slice a6 n6 c6) (Rv 2 txn prev ++ (((Q6 page 2 ++ Q6 slot 2) ++ Ry au ab) ++ Q6 un 8))) from aw)
 have eh := (show Hid (Same w w6) from hg.same cu.out gm.out)
 have l8 := hid (hg.fresh cu.out gm.out)
 clear aw hg
 go_wp2
 go_ret
 exact ⟨_, _, _, rfl, iK.out, l8.out, eh.out⟩
theorem jbu (txn prev : Int) (w : World) (vq : 0 ≤ txn ∧ txn ≤ 2147483647) (uI : 0 ≤ prev ∧ prev ≤ 1099511627776)  :
  Calls Tryz.prog 70 #[.iface 148 (.agg #[.int .i64 txn, .int .i64 prev])] w fun e w' => ∃ aa nn cc, e = .returned (.slice aa nn cc) ∧ Own 0 5 .u8 w' (.slice aa nn cc) (Rv 3 txn prev ++ ([])) ∧ (∀ b, (Value.slice aa nn cc).ownBlock = some b → w.heap.size ≤ b) ∧ Same w w' := by
 go_enter Tryz.func70, Tryz.ntmps70
 go_wp2_with fail
 refine (jeD txn prev _).mono ?_
 rintro e w0 ⟨rfl, du⟩
 have aJ := (show Hid (Same w w0) from du)
 clear du
 go_wp2_with fail
 refine (SB 3 1 _ (by unfold IsI; omega) (by unfold IsI; omega)).mono ?_
 rw [Uk (by omega)]
 rintro e w1 ⟨a1, c1, rfl, gK, gk, aH⟩
 have aM := hid (aJ.out.trans aH)
 have gy := (show Hid (∀ b, (Value.slice a1 ([3] : List Int).length c1).ownBlock = some b → w.heap.size ≤ b) from fun b hb => Nat.le_trans aJ.out.size (gK b hb))
 have gP := (show Hid (Own 0 5 .u8 w1 (.slice a1 ([3] : List Int).length c1) [3]) from gk)
 clear gK gk aH
 go_wp2_with fail
 refine (Rq txn prev _).mono ?_
 rintro e w2 ⟨rfl, aN⟩
 have aY := hid (aM.out.trans aN)
 have eF := hid (gP.out.same aN)
 clear aN
 go_wp2_with fail
 refine (Rc _ [3] txn 4 _ (by unfold IsI; omega) (by unfold IsI; omega) (by simp) eF.out).mono ?_
 rintro e w3 ⟨a3, n3, c3, rfl, aw, hg⟩
 have fy := (show Hid (Own 0 5 .u8 w3 (.slice a3 n3 c3) ([3] ++ Q6 txn 4)) from aw)
 have dt := (show Hid (Same w w3) from hg.same aY.out gy.out)
 have gR := hid (hg.fresh aY.out gy.out)
 clear aw hg
 go_wp2_with fail
 refine (Sc txn prev _).mono ?_
 rintro e w5 ⟨rfl, eA⟩
 have dp := hid (dt.out.trans eA)
 have jN := hid (fy.out.same eA)
 clear eA
 have gW : ([3] ++ Q6 txn 4).length ≤ 9 := by have := Ra txn 4; simp only [List.length_append, List.length_singleton]; omega
 go_wp2_with fail
 refine (Rc _ ([3] ++ Q6 txn 4) prev 8 _ (by unfold IsI; omega) (by unfold IsI; omega) (by omega) jN.out).mono ?_
 rintro e w4 ⟨a4, n4, c4, rfl, aw, hg⟩
 have il := (show Hid (Own 0 5 .u8 w4 (.slice a4 n4 c4) (Rv 3 txn prev)) from aw)
 have cu := (show Hid (Same w w4) from hg.same dp.out gR.out)
 have gm := hid (hg.fresh dp.out gR.out)
 clear aw hg
 have qd := SQ 3 txn prev
 go_wp2_with fail
 refine (Uy _ _ txn prev _ (by omega) il.out).mono ?_
 rintro e w6 ⟨a6, n6, c6, rfl, aw, hg⟩
 have iK := (show Hid (Own 0 5 .u8 w6 (.slice a6 n6 c6) (Rv 3 txn prev ++ ([]))) from aw)
 have eh := (show Hid (Same w w6) from hg.same cu.out gm.out)
 have l8 := hid (hg.fresh cu.out gm.out)
 clear aw hg
 go_wp2
 go_ret
 exact ⟨_, _, _, rfl, iK.out, l8.out, eh.out⟩
theorem jbv (txn prev : Int) (w : World) (vq : 0 ≤ txn ∧ txn ≤ 2147483647) (uI : 0 ≤ prev ∧ prev ≤ 1099511627776)  :
  Calls Tryz.prog 70 #[.iface 149 (.agg #[.int .i64 txn, .int .i64 prev])] w fun e w' => ∃ aa nn cc, e = .returned (.slice aa nn cc) ∧ Own 0 5 .u8 w' (.slice aa nn cc) (Rv 4 txn prev ++ ([])) ∧ (∀ b, (Value.slice aa nn cc).ownBlock = some b → w.heap.size ≤ b) ∧ Same w w' := by
 go_enter Tryz.func70, Tryz.ntmps70
 go_wp2_with fail
 refine (jeE txn prev _).mono ?_
 rintro e w0 ⟨rfl, du⟩
 have aJ := (show Hid (Same w w0) from du)
 clear du
 go_wp2_with fail
 refine (SB 4 1 _ (by unfold IsI; omega) (by unfold IsI; omega)).mono ?_
 rw [Uk (by omega)]
 rintro e w1 ⟨a1, c1, rfl, gK, gk, aH⟩
 have aM := hid (aJ.out.trans aH)
 have gy := (show Hid (∀ b, (Value.slice a1 ([4] : List Int).length c1).ownBlock = some b → w.heap.size ≤ b) from fun b hb => Nat.le_trans aJ.out.size (gK b hb))
 have gP := (show Hid (Own 0 5 .u8 w1 (.slice a1 ([4] : List Int).length c1) [4]) from gk)
 clear gK gk aH
 go_wp2_with fail
 refine (Rq txn prev _).mono ?_
 rintro e w2 ⟨rfl, aN⟩
 have aY := hid (aM.out.trans aN)
 have eF := hid (gP.out.same aN)
 clear aN
 go_wp2_with fail
 refine (Rc _ [4] txn 4 _ (by unfold IsI; omega) (by unfold IsI; omega) (by simp) eF.out).mono ?_
 rintro e w3 ⟨a3, n3, c3, rfl, aw, hg⟩
 have fy := (show Hid (Own 0 5 .u8 w3 (.slice a3 n3 c3) ([4] ++ Q6 txn 4)) from aw)
 have dt := (show Hid (Same w w3) from hg.same aY.out gy.out)
 have gR := hid (hg.fresh aY.out gy.out)
 clear aw hg
 go_wp2_with fail
 refine (Sc txn prev _).mono ?_
 rintro e w5 ⟨rfl, eA⟩
 have dp := hid (dt.out.trans eA)
 have jN := hid (fy.out.same eA)
 clear eA
 have gW : ([4] ++ Q6 txn 4).length ≤ 9 := by have := Ra txn 4; simp only [List.length_append, List.length_singleton]; omega
 go_wp2_with fail
 refine (Rc _ ([4] ++ Q6 txn 4) prev 8 _ (by unfold IsI; omega) (by unfold IsI; omega) (by omega) jN.out).mono ?_
 rintro e w4 ⟨a4, n4, c4, rfl, aw, hg⟩
 have il := (show Hid (Own 0 5 .u8 w4 (.slice a4 n4 c4) (Rv 4 txn prev)) from aw)
 have cu := (show Hid (Same w w4) from hg.same dp.out gR.out)
 have gm := hid (hg.fresh dp.out gR.out)
 clear aw hg
 have qd := SQ 4 txn prev
 go_wp2_with fail
 refine (Uy _ _ txn prev _ (by omega) il.out).mono ?_
 rintro e w6 ⟨a6, n6, c6, rfl, aw, hg⟩
 have iK := (show Hid (Own 0 5 .u8 w6 (.slice a6 n6 c6) (Rv 4 txn prev ++ ([]))) from aw)
 have eh := (show Hid (Same w w6) from hg.same cu.out gm.out)
 have l8 := hid (hg.fresh cu.out gm.out)
 clear aw hg
 go_wp2
 go_ret
 exact ⟨_, _, _, rfl, iK.out, l8.out, eh.out⟩
theorem jbw (txn prev : Int) (w : World) (vq : 0 ≤ txn ∧ txn ≤ 2147483647) (uI : 0 ≤ prev ∧ prev ≤ 1099511627776)  :
  Calls Tryz.prog 70 #[.iface 150 (.agg #[.int .i64 txn, .int .i64 prev])] w fun e w' => ∃ aa nn cc, e = .returned (.slice aa nn cc) ∧ Own 0 5 .u8 w' (.slice aa nn cc) (Rv 5 txn prev ++ ([])) ∧ (∀ b, (Value.slice aa nn cc).ownBlock = some b → w.heap.size ≤ b) ∧ Same w w' := by
 go_enter Tryz.func70, Tryz.ntmps70
 go_wp2_with fail
 refine (jeF txn prev _).mono ?_
 rintro e w0 ⟨rfl, du⟩
 have aJ := (show Hid (Same w w0) from du)
 clear du
 go_wp2_with fail
 refine (SB 5 1 _ (by unfold IsI; omega) (by unfold IsI; omega)).mono ?_
 rw [Uk (by omega)]
 rintro e w1 ⟨a1, c1, rfl, gK, gk, aH⟩
 have aM := hid (aJ.out.trans aH)
 have gy := (show Hid (∀ b, (Value.slice a1 ([5] : List Int).length c1).ownBlock = some b → w.heap.size ≤ b) from fun b hb => Nat.le_trans aJ.out.size (gK b hb))
 have gP := (show Hid (Own 0 5 .u8 w1 (.slice a1 ([5] : List Int).length c1) [5]) from gk)
 clear gK gk aH
 go_wp2_with fail
 refine (Rq txn prev _).mono ?_
 rintro e w2 ⟨rfl, aN⟩
 have aY := hid (aM.out.trans aN)
 have eF := hid (gP.out.same aN)
 clear aN
 go_wp2_with fail
 refine (Rc _ [5] txn 4 _ (by unfold IsI; omega) (by unfold IsI; omega) (by simp) eF.out).mono ?_
 rintro e w3 ⟨a3, n3, c3, rfl, aw, hg⟩
 have fy := (show Hid (Own 0 5 .u8 w3 (.slice a3 n3 c3) ([5] ++ Q6 txn 4)) from aw)
 have dt := (show Hid (Same w w3) from hg.same aY.out gy.out)
 have gR := hid (hg.fresh aY.out gy.out)
 clear aw hg
 go_wp2_with fail
 refine (Sc txn prev _).mono ?_
 rintro e w5 ⟨rfl, eA⟩
 have dp := hid (dt.out.trans eA)
 have jN := hid (fy.out.same eA)
 clear eA
 have gW : ([5] ++ Q6 txn 4).length ≤ 9 := by have := Ra txn 4; simp only [List.length_append, List.length_singleton]; omega
 go_wp2_with fail
 refine (Rc _ ([5] ++ Q6 txn 4) prev 8 _ (by unfold IsI; omega) (by unfold IsI; omega) (by omega) jN.out).mono ?_
 rintro e w4 ⟨a4, n4, c4, rfl, aw, hg⟩
 have il := (show Hid (Own 0 5 .u8 w4 (.slice a4 n4 c4) (Rv 5 txn prev)) from aw)
 have cu := (show Hid (Same w w4) from hg.same dp.out gR.out)
 have gm := hid (hg.fresh dp.out gR.out)
 clear aw hg
 have qd := SQ 5 txn prev
 go_wp2_with fail
 refine (Uy _ _ txn prev _ (by omega) il.out).mono ?_
 rintro e w6 ⟨a6, n6, c6, rfl, aw, hg⟩
 have iK := (show Hid (Own 0 5 .u8 w6 (.slice a6 n6 c6) (Rv 5 txn prev ++ ([]))) from aw)
 have eh := (show Hid (Same w w6) from hg.same cu.out gm.out)
 have l8 := hid (hg.fresh cu.out gm.out)
 clear aw hg
 go_wp2
 go_ret
 exact ⟨_, _, _, rfl, iK.out, l8.out, eh.out⟩
theorem jbx (txn prev : Int) (w : World) (vq : 0 ≤ txn ∧ txn ≤ 2147483647) (uI : 0 ≤ prev ∧ prev ≤ 1099511627776)  :
  Calls Tryz.prog 70 #[.iface 151 (.agg #[.int .i64 txn, .int .i64 prev])] w fun e w' => ∃ aa nn cc, e = .returned (.slice aa nn cc) ∧ Own 0 5 .u8 w' (.slice aa nn cc) (Rv 6 txn prev ++ ([])) ∧ (∀ b, (Value.slice aa nn cc).ownBlock = some b → w.heap.size ≤ b) ∧ Same w w' := by
 go_enter Tryz.func70, Tryz.ntmps70
 go_wp2_with fail
 refine (jeG txn prev _).mono ?_
 rintro e w0 ⟨rfl, du⟩
 have aJ := (show Hid (Same w w0) from du)
 clear du
 go_wp2_with fail
 refine (SB 6 1 _ (by unfold IsI; omega) (by unfold IsI; omega)).mono ?_
 rw [Uk (by omega)]
 rintro e w1 ⟨a1, c1, rfl, gK, gk, aH⟩
 have aM := hid (aJ.out.trans aH)
 have gy := (show Hid (∀ b, (Value.slice a1 ([6] : List Int).length c1).ownBlock = some b → w.heap.size ≤ b) from fun b hb => Nat.le_trans aJ.out.size (gK b hb))
 have gP := (show Hid (Own 0 5 .u8 w1 (.slice a1 ([6] : List Int).length c1) [6]) from gk)
 clear gK gk aH
 go_wp2_with fail
 refine (Rq txn prev _).mono ?_
 rintro e w2 ⟨rfl, aN⟩
 have aY := hid (aM.out.trans aN)
 have eF := hid (gP.out.same aN)
 clear aN
 go_wp2_with fail
 refine (Rc _ [6] txn 4 _ (by unfold IsI; omega) (by unfold IsI; omega) (by simp) eF.out).mono ?_
 rintro e w3 ⟨a3, n3, c3, rfl, aw, hg⟩
 have fy := (show Hid (Own 0 5 .u8 w3 (.slice a3 n3 c3) ([6] ++ Q6 txn 4)) from aw)
 have dt := (show Hid (Same w w3) from hg.same aY.out gy.out)
 have gR := hid (hg.fresh aY.out gy.out)
 clear aw hg
 go_wp2_with fail
 refine (Sc txn prev _).mono ?_
 rintro e w5 ⟨rfl, eA⟩
 have dp := hid (dt.out.trans eA)
 have jN := hid (fy.out.same eA)
 clear eA
 have gW : ([6] ++ Q6 txn 4).length ≤ 9 := by have := Ra txn 4; simp only [List.length_append, List.length_singleton]; omega
 go_wp2_with fail
 refine (Rc _ ([6] ++ Q6 txn 4) prev 8 _ (by unfold IsI; omega) (by unfold IsI; omega) (by omega) jN.out).mono ?_
 rintro e w4 ⟨a4, n4, c4, rfl, aw, hg⟩
 have il := (show Hid (Own 0 5 .u8 w4 (.slice a4 n4 c4) (Rv 6 txn prev)) from aw)
 have cu := (show Hid (Same w w4) from hg.same dp.out gR.out)
 have gm := hid (hg.fresh dp.out gR.out)
 clear aw hg
 have qd := SQ 6 txn prev
 go_wp2_with fail
 refine (Uy _ _ txn prev _ (by omega) il.out).mono ?_
 rintro e w6 ⟨a6, n6, c6, rfl, aw, hg⟩
 have iK := (show Hid (Own 0 5 .u8 w6 (.slice a6 n6 c6) (Rv 6 txn prev ++ ([]))) from aw)
 have eh := (show Hid (Same w w6) from hg.same cu.out gm.out)
 have l8 := hid (hg.fresh cu.out gm.out)
 clear aw hg
 go_wp2
 go_ret
 exact ⟨_, _, _, rfl, iK.out, l8.out, eh.out⟩
theorem jby (txn prev nt : Int) (te : TypeId) (ta : Option Addr) (tn tc : Nat) (tb : List Int) (de : TypeId) (da : Option Addr) (dn dc : Nat) (db : List Int) (w : World) (vq : 0 ≤ txn ∧ txn ≤ 2147483647) (uI : 0 ≤ prev ∧ prev ≤ 1099511627776) (jE : 1 ≤ nt ∧ nt ≤ 2147483648) (ql : tn ≤ 8) (ky : dn ≤ 16) (pK : ∀ i, i < tn → (1 ≤ tb.getD (i * 4) 0 ∧ tb.getD (i * 4) 0 ≤ 2147483647) ∧ (1 ≤ tb.getD (i * 4 + 1) 0 ∧ tb.getD (i * 4 + 1) 0 ≤ 3) ∧ (1 ≤ tb.getD (i * 4 + 2) 0 ∧ tb.getD (i * 4 + 2) 0 ≤ 1099511627776) ∧ (0 ≤ tb.getD (i * 4 + 3) 0 ∧ tb.getD (i * 4 + 3) 0 ≤ tb.getD (i * 4 + 2) 0)) (pP : ∀ i, i < dn → (0 ≤ db.getD (i * 2) 0 ∧ db.getD (i * 2) 0 < 16) ∧ (1 ≤ db.getD (i * 2 + 1) 0 ∧ db.getD (i * 2 + 1) 0 ≤ 1099511627776)) (jR : RdF 4 w ⟨te, ta, tn, tc, tb⟩) (fw : RdF 2 w ⟨de, da, dn, dc, db⟩) :
  Calls Tryz.prog 70 #[.iface 155 (.agg #[.int .i64 txn, .int .i64 prev, .int .i64 nt, .slice ta tn tc, .slice da dn dc])] w fun e w' => ∃ aa nn cc, e = .returned (.slice aa nn cc) ∧ Own 0 5 .u8 w' (.slice aa nn cc) (Rv 7 txn prev ++ ((((Q6 nt 4 ++ Q6 (tn : Nat) 1) ++ RG tb tn) ++ Q6 (dn : Nat) 1) ++ Tg db dn)) ∧ (∀ b, (Value.slice aa nn cc).ownBlock = some b → w.heap.size ≤ b) ∧ Same w w' := by
 have E7 := hid jR
 have vQ := hid fw
 have An := hid pK
 have uE := hid pP
 clear jR fw pK pP
 go_enter Tryz.func70, Tryz.ntmps70
 go_wp2_with fail
 refine (jeH txn prev nt ta tn tc da dn dc _).mono ?_
 rintro e w0 ⟨rfl, du⟩
 have aJ := (show Hid (Same w w0) from du)
 clear du
 go_wp2_with fail
 refine (SB 7 1 _ (by unfold IsI; omega) (by unfold IsI; omega)).mono ?_
 rw [Uk (by omega)]
 rintro e w1 ⟨a1, c1, rfl, gK, gk, aH⟩
 have aM := hid (aJ.out.trans aH)
 have gy := (show Hid (∀ b, (Value.slice a1 ([7] : List Int).length c1).ownBlock = some b → w.heap.size ≤ b) from fun b hb => Nat.le_trans aJ.out.size (gK b hb))
 have gP := (show Hid (Own 0 5 .u8 w1 (.slice a1 ([7] : List Int).length c1) [7]) from gk)
 clear gK gk aH
 go_wp2_with fail
 refine (Rq txn prev _).mono ?_
 rintro e w2 ⟨rfl, aN⟩
 have aY := hid (aM.out.trans aN)
 have eF := hid (gP.out.same aN)
 clear aN
 go_wp2_with fail
 refine (Rc _ [7] txn 4 _ (by unfold IsI; omega) (by unfold IsI; omega) (by simp) eF.out).mono ?_
 rintro e w3 ⟨a3, n3, c3, rfl, aw, hg⟩
 have fy := (show Hid (Own 0 5 .u8 w3 (.slice a3 n3 c3) ([7] ++ Q6 txn 4)) from aw)
 have dt := (show Hid (Same w w3) from hg.same aY.out gy.out)
 have gR := hid (hg.fresh aY.out gy.out)
 clear aw hg
 go_wp2_with fail
 refine (Sc txn prev _).mono ?_
 rintro e w5 ⟨rfl, eA⟩
 have dp := hid (dt.out.trans eA)
 have jN := hid (fy.out.same eA)
 clear eA
 have gW : ([7] ++ Q6 txn 4).length ≤ 9 := by have := Ra txn 4; simp only [List.length_append, List.length_singleton]; omega
 go_wp2_with fail
 refine (Rc _ ([7] ++ Q6 txn 4) prev 8 _ (by unfold IsI; omega) (by unfold IsI; omega) (by omega) jN.out).mono ?_
 rintro e w4 ⟨a4, n4, c4, rfl, aw, hg⟩
 have il := (show Hid (Own 0 5 .u8 w4 (.slice a4 n4 c4) (Rv 7 txn prev)) from aw)
 have cu := (show Hid (Same w w4) from hg.same dp.out gR.out)
 have gm := hid (hg.fresh dp.out gR.out)
 clear aw hg
 have qd := SQ 7 txn prev
 go_wp2_with fail
 refine (ja1 _ _ txn prev nt te ta tn tc tb de da dn dc db _ jE ql ky An.out uE.out (fun wx dG => E7.out.same (cu.out.next dG (fun i hi e => by have := gm.out i e; omega))) (fun wx dG => vQ.out.same (cu.out.next dG (fun i hi e => by have := gm.out i e; omega))) (by omega) il.out).mono ?_
 rintro e w6 ⟨a6, n6, c6, rfl, aw, hg⟩
 have iK := (show Hid (Own 0 5 .u8 w6 (.slice a6 n6 c6) (Rv 7 txn prev ++ ((((Q6 nt 4 ++ Q6 (tn : Nat) 1) ++ RG tb tn) ++ Q6 (dn : Nat) 1) ++ Tg db dn))) from aw)
 have eh := (show Hid (Same w w6) from hg.same cu.out gm.out)
 have l8 := hid (hg.fresh cu.out gm.out)
 clear aw hg
 go_wp2
 go_ret
 exact ⟨_, _, _, rfl, iK.out, l8.out, eh.out⟩
theorem jbz (txn prev page : Int) (ga : Option Addr) (gc : Nat) (gb : List Int) (w : World) (vq : 0 ≤ txn ∧ txn ≤ 2147483647) (uI : 0 ≤ prev ∧ prev ≤ 1099511627776) (nc : IsI page) (FN : gb.length ≤ 4096) (jL : Rd .u8 w (.slice ga gb.length gc) gb) :
  Calls Tryz.prog 70 #[.iface 158 (.agg #[.int .i64 txn, .int .i64 prev, .int .i64 page, .slice ga gb.length gc])] w fun e w' => ∃ aa nn cc, e = .returned (.slice aa nn cc) ∧ Own 0 5 .u8 w' (.slice aa nn cc) (Rv 8 txn prev ++ (Q6 page 2 ++ gb)) ∧ (∀ b, (Value.slice aa nn cc).ownBlock = some b → w.heap.size ≤ b) ∧ Same w w' := by
 have pX := hid jL
 clear jL
 go_enter Tryz.func70, Tryz.ntmps70
 go_wp2_with fail
 refine (jeI txn prev page ga gb.length gc _).mono ?_
 rintro e w0 ⟨rfl, du⟩
 have aJ := (show Hid (Same w w0) from du)
 clear du
 go_wp2_with fail
 refine (SB 8 1 _ (by unfold IsI; omega) (by unfold IsI; omega)).mono ?_
 rw [Uk (by omega)]
 rintro e w1 ⟨a1, c1, rfl, gK, gk, aH⟩
 have aM := hid (aJ.out.trans aH)
 have gy := (show Hid (∀ b, (Value.slice a1 ([8] : List Int).length c1).ownBlock = some b → w.heap.size ≤ b) from fun b hb => Nat.le_trans aJ.out.size (gK b hb))
 have gP := (show Hid (Own 0 5 .u8 w1 (.slice a1 ([8] : List Int).length c1) [8]) from gk)
 clear gK gk aH
 go_wp2_with fail
 refine (Rq txn prev _).mono ?_
 rintro e w2 ⟨rfl, aN⟩
 have aY := hid (aM.out.trans aN)
 have eF := hid (gP.out.same aN)
 clear aN
 go_wp2_with fail
 refine (Rc _ [8] txn 4 _ (by unfold IsI; omega) (by unfold IsI; omega) (by simp) eF.out).mono ?_
 rintro e w3 ⟨a3, n3, c3, rfl, aw, hg⟩
 have fy := (show Hid (Own 0 5 .u8 w3 (.slice a3 n3 c3) ([8] ++ Q6 txn 4)) from aw)
 have dt := (show Hid (Same w w3) from hg.same aY.out gy.out)
 have gR := hid (hg.fresh aY.out gy.out)
 clear aw hg
 go_wp2_with fail
 refine (Sc txn prev _).mono ?_
 rintro e w5 ⟨rfl, eA⟩
 have dp := hid (dt.out.trans eA)
 have jN := hid (fy.out.same eA)
 clear eA
 have gW : ([8] ++ Q6 txn 4).length ≤ 9 := by have := Ra txn 4; simp only [List.length_append, List.length_singleton]; omega
 go_wp2_with fail
 refine (Rc _ ([8] ++ Q6 txn 4) prev 8 _ (by unfold IsI; omega) (by unfold IsI; omega) (by omega) jN.out).mono ?_
 rintro e w4 ⟨a4, n4, c4, rfl, aw, hg⟩
 have il := (show Hid (Own 0 5 .u8 w4 (.slice a4 n4 c4) (Rv 8 txn prev)) from aw)
 have cu := (show Hid (Same w w4) from hg.same dp.out gR.out)
 have gm := hid (hg.fresh dp.out gR.out)
 clear aw hg
 have qd := SQ 8 txn prev
 go_wp2_with fail
 refine (ja0 _ _ txn prev page ga gc gb _ nc FN (fun wx dG => pX.out.same (cu.out.next dG (fun i hi e => by have := gm.out i e; omega))) (by omega) il.out).mono ?_
 rintro e w6 ⟨a6, n6, c6, rfl, aw, hg⟩
 have iK := (show Hid (Own 0 5 .u8 w6 (.slice a6 n6 c6) (Rv 8 txn prev ++ (Q6 page 2 ++ gb))) from aw)
 have eh := (show Hid (Same w w6) from hg.same cu.out gm.out)
 have l8 := hid (hg.fresh cu.out gm.out)
 clear aw hg
 go_wp2
 go_ret
 exact ⟨_, _, _, rfl, iK.out, l8.out, eh.out⟩
end Go.Proofs.YtaojjcnmififoaaGreat
