import Derived.Test.YtdgmecmkkddpeaaGreatG20
namespace Go.Proofs.YtdgmecmkkddpeaaGreat
set_option maxRecDepth 100000
set_option maxHeartbeats 4000000
set_option linter.unusedVariables false
set_option linter.unusedSimpArgs false
open Go.RowKit
theorem num_one {k : Int} (h : 1 ≤ k ∧ k ≤ 8) : numB k 1 = [k] := by
 obtain ⟨h1, h2⟩ := h
 rcases (show k = 1 ∨ k = 2 ∨ k = 3 ∨ k = 4 ∨ k = 5 ∨ k = 6 ∨ k = 7 ∨ k = 8 by omega) with rfl | rfl | rfl | rfl | rfl | rfl | rfl | rfl <;> decide
theorem encTyped_1 (txn prev page slot : Int) (bu : Bool) (ba : Option Addr) (bc : Nat) (bb : List Int) (au : Bool) (aa : Option Addr) (ac : Nat) (ab : List Int) (w : World) (htx : 0 ≤ txn ∧ txn ≤ 2147483647) (hpv : 0 ≤ prev ∧ prev ≤ 1099511627776) (hpg : IsI page) (hsl : IsI slot) (hbl : bb.length ≤ 1000) (hal : ab.length ≤ 1000) (hrb : Rd .u8 w (.slice ba bb.length bc) bb) (hra : Rd .u8 w (.slice aa ab.length ac) ab) :
  Calls Tryz.prog 46 #[.iface 96 (.agg #[.int .i64 txn, .int .i64 prev, .int .i64 page, .int .i64 slot, .bool bu, .slice ba bb.length bc, .bool au, .slice aa ab.length ac])] w fun e w' => ∃ aa nn cc, e = .returned (.slice aa nn cc) ∧ Own 0 5 .u8 w' (.slice aa nn cc) (headR 1 txn prev ++ (((numB page 2 ++ numB slot 2) ++ partB bu bb) ++ partB au ab)) ∧ (∀ b, (Value.slice aa nn cc).ownBlock = some b → w.heap.size ≤ b) ∧ Same w w' := by
 have HRB := hid hrb
 have HRA := hid hra
 clear hrb hra
 go_enter Tryz.func46, Tryz.ntmps46
 go_wp2_with fail
 refine (kindI_1 txn prev page slot bu ba bb.length bc au aa ab.length ac _).mono ?_
 rintro e w0 ⟨rfl, hk0⟩
 have HK0 := (show Hid (Same w w0) from hk0)
 clear hk0
 go_wp2_with fail
 refine (implPut_any 1 1 _ (by unfold IsI; omega) (by unfold IsI; omega)).mono ?_
 rw [num_one (by omega)]
 rintro e w1 ⟨a1, c1, rfl, hf1, ho1, hk1⟩
 have HK1 := hid (HK0.out.trans hk1)
 have HF1 := (show Hid (∀ b, (Value.slice a1 ([1] : List Int).length c1).ownBlock = some b → w.heap.size ≤ b) from fun b hb => Nat.le_trans HK0.out.size (hf1 b hb))
 have HO1 := (show Hid (Own 0 5 .u8 w1 (.slice a1 ([1] : List Int).length c1) [1]) from ho1)
 clear hf1 ho1 hk1
 go_wp2_with fail
 refine (head_transaction txn prev _).mono ?_
 rintro e w2 ⟨rfl, hk2⟩
 have HK2 := hid (HK1.out.trans hk2)
 have HO2 := hid (HO1.out.same hk2)
 clear hk2
 go_wp2_with fail
 refine (appendNumber_own _ [1] txn 4 _ (by unfold IsI; omega) (by unfold IsI; omega) (by simp) HO2.out).mono ?_
 rintro e w3 ⟨a3, n3, c3, rfl, hown, hg⟩
 have HO3 := (show Hid (Own 0 5 .u8 w3 (.slice a3 n3 c3) ([1] ++ numB txn 4)) from hown)
 have HK3 := (show Hid (Same w w3) from hg.same HK2.out HF1.out)
 have HF3 := hid (hg.fresh HK2.out HF1.out)
 clear hown hg
 go_wp2_with fail
 refine (head_ahead txn prev _).mono ?_
 rintro e w5 ⟨rfl, hk5⟩
 have HK5 := hid (HK3.out.trans hk5)
 have HO5 := hid (HO3.out.same hk5)
 clear hk5
 have hl3 : ([1] ++ numB txn 4).length ≤ 9 := by have := numB_length txn 4; simp only [List.length_append, List.length_singleton]; omega
 go_wp2_with fail
 refine (appendNumber_own _ ([1] ++ numB txn 4) prev 8 _ (by unfold IsI; omega) (by unfold IsI; omega) (by omega) HO5.out).mono ?_
 rintro e w4 ⟨a4, n4, c4, rfl, hown, hg⟩
 have HO4 := (show Hid (Own 0 5 .u8 w4 (.slice a4 n4 c4) (headR 1 txn prev)) from hown)
 have HK4 := (show Hid (Same w w4) from hg.same HK5.out HF3.out)
 have HF4 := hid (hg.fresh HK5.out HF3.out)
 clear hown hg
 have hl4 := headR_length 1 txn prev
 go_wp2_with fail
 refine (updRest_own _ _ txn prev page slot bu ba bc bb au aa ac ab _ hpg hsl hbl hal (fun wx hkx => HRB.out.same (HK4.out.next hkx (fun i hi e => by have := HF4.out i e; omega))) (fun wx hkx => HRA.out.same (HK4.out.next hkx (fun i hi e => by have := HF4.out i e; omega))) (by omega) HO4.out).mono ?_
 rintro e w6 ⟨a6, n6, c6, rfl, hown, hg⟩
 have HO6 := (show Hid (Own 0 5 .u8 w6 (.slice a6 n6 c6) (headR 1 txn prev ++ (((numB page 2 ++ numB slot 2) ++ partB bu bb) ++ partB au ab))) from hown)
 have HK6 := (show Hid (Same w w6) from hg.same HK4.out HF4.out)
 have HF6 := hid (hg.fresh HK4.out HF4.out)
 clear hown hg
 go_wp2
 go_ret
 exact ⟨_, _, _, rfl, HO6.out, HF6.out, HK6.out⟩
theorem encTyped_2 (txn prev page slot : Int) (au : Bool) (aa : Option Addr) (ac : Nat) (ab : List Int) (un : Int) (w : World) (htx : 0 ≤ txn ∧ txn ≤ 2147483647) (hpv : 0 ≤ prev ∧ prev ≤ 1099511627776) (hpg : IsI page) (hsl : IsI slot) (hun : IsI un) (hal : ab.length ≤ 1000) (hra : Rd .u8 w (.slice aa ab.length ac) ab) :
  Calls Tryz.prog 46 #[.iface 98 (.agg #[.int .i64 txn, .int .i64 prev, .int .i64 page, .int .i64 slot, .bool au, .slice aa ab.length ac, .int .i64 un])] w fun e w' => ∃ aa nn cc, e = .returned (.slice aa nn cc) ∧ Own 0 5 .u8 w' (.slice aa nn cc) (headR 2 txn prev ++ (((numB page 2 ++ numB slot 2) ++ partB au ab) ++ numB un 8)) ∧ (∀ b, (Value.slice aa nn cc).ownBlock = some b → w.heap.size ≤ b) ∧ Same w w' := by
 have HRA := hid hra
 clear hra
 go_enter Tryz.func46, Tryz.ntmps46
 go_wp2_with fail
 refine (kindI_2 txn prev page slot au aa ab.length ac un _).mono ?_
 rintro e w0 ⟨rfl, hk0⟩
 have HK0 := (show Hid (Same w w0) from hk0)
 clear hk0
 go_wp2_with fail
 refine (implPut_any 2 1 _ (by unfold IsI; omega) (by unfold IsI; omega)).mono ?_
 rw [num_one (by omega)]
 rintro e w1 ⟨a1, c1, rfl, hf1, ho1, hk1⟩
 have HK1 := hid (HK0.out.trans hk1)
 have HF1 := (show Hid (∀ b, (Value.slice a1 ([2] : List Int).length c1).ownBlock = some b → w.heap.size ≤ b) from fun b hb => Nat.le_trans HK0.out.size (hf1 b hb))
 have HO1 := (show Hid (Own 0 5 .u8 w1 (.slice a1 ([2] : List Int).length c1) [2]) from ho1)
 clear hf1 ho1 hk1
 go_wp2_with fail
 refine (head_transaction txn prev _).mono ?_
 rintro e w2 ⟨rfl, hk2⟩
 have HK2 := hid (HK1.out.trans hk2)
 have HO2 := hid (HO1.out.same hk2)
 clear hk2
 go_wp2_with fail
 refine (appendNumber_own _ [2] txn 4 _ (by unfold IsI; omega) (by unfold IsI; omega) (by simp) HO2.out).mono ?_
 rintro e w3 ⟨a3, n3, c3, rfl, hown, hg⟩
 have HO3 := (show Hid (Own 0 5 .u8 w3 (.slice a3 n3 c3) ([2] ++ numB txn 4)) from hown)
 have HK3 := (show Hid (Same w w3) from hg.same HK2.out HF1.out)
 have HF3 := hid (hg.fresh HK2.out HF1.out)
 clear hown hg
 go_wp2_with fail
 refine (head_ahead txn prev _).mono ?_
 rintro e w5 ⟨rfl, hk5⟩
 have HK5 := hid (HK3.out.trans hk5)
 have HO5 := hid (HO3.out.same hk5)
 clear hk5
 have hl3 : ([2] ++ numB txn 4).length ≤ 9 := by have := numB_length txn 4; simp only [List.length_append, List.length_singleton]; omega
 go_wp2_with fail
 refine (appendNumber_own _ ([2] ++ numB txn 4) prev 8 _ (by unfold IsI; omega) (by unfold IsI; omega) (by omega) HO5.out).mono ?_
 rintro e w4 ⟨a4, n4, c4, rfl, hown, hg⟩
 have HO4 := (show Hid (Own 0 5 .u8 w4 (.slice a4 n4 c4) (headR 2 txn prev)) from hown)
 have HK4 := (show Hid (Same w w4) from hg.same HK5.out HF3.out)
 have HF4 := hid (hg.fresh HK5.out HF3.out)
 clear hown hg
 have hl4 := headR_length 2 txn prev
 go_wp2_with fail
 refine (undoRest_own _ _ txn prev page slot au aa ac ab un _ hpg hsl hun hal (fun wx hkx => HRA.out.same (HK4.out.next hkx (fun i hi e => by have := HF4.out i e; omega))) (by omega) HO4.out).mono ?_
 rintro e w6 ⟨a6, n6, c6, rfl, hown, hg⟩
 have HO6 := (show Hid (Own 0 5 .u8 w6 (.slice a6 n6 c6) (headR 2 txn prev ++ (((numB page 2 ++ numB slot 2) ++ partB au ab) ++ numB un 8))) from hown)
 have HK6 := (show Hid (Same w w6) from hg.same HK4.out HF4.out)
 have HF6 := hid (hg.fresh HK4.out HF4.out)
 clear hown hg
 go_wp2
 go_ret
 exact ⟨_, _, _, rfl, HO6.out, HF6.out, HK6.out⟩
theorem encTyped_3 (txn prev : Int) (w : World) (htx : 0 ≤ txn ∧ txn ≤ 2147483647) (hpv : 0 ≤ prev ∧ prev ≤ 1099511627776)  :
  Calls Tryz.prog 46 #[.iface 100 (.agg #[.int .i64 txn, .int .i64 prev])] w fun e w' => ∃ aa nn cc, e = .returned (.slice aa nn cc) ∧ Own 0 5 .u8 w' (.slice aa nn cc) (headR 3 txn prev ++ ([])) ∧ (∀ b, (Value.slice aa nn cc).ownBlock = some b → w.heap.size ≤ b) ∧ Same w w' := by
 go_enter Tryz.func46, Tryz.ntmps46
 go_wp2_with fail
 refine (kindI_3 txn prev _).mono ?_
 rintro e w0 ⟨rfl, hk0⟩
 have HK0 := (show Hid (Same w w0) from hk0)
 clear hk0
 go_wp2_with fail
 refine (implPut_any 3 1 _ (by unfold IsI; omega) (by unfold IsI; omega)).mono ?_
 rw [num_one (by omega)]
 rintro e w1 ⟨a1, c1, rfl, hf1, ho1, hk1⟩
 have HK1 := hid (HK0.out.trans hk1)
 have HF1 := (show Hid (∀ b, (Value.slice a1 ([3] : List Int).length c1).ownBlock = some b → w.heap.size ≤ b) from fun b hb => Nat.le_trans HK0.out.size (hf1 b hb))
 have HO1 := (show Hid (Own 0 5 .u8 w1 (.slice a1 ([3] : List Int).length c1) [3]) from ho1)
 clear hf1 ho1 hk1
 go_wp2_with fail
 refine (head_transaction txn prev _).mono ?_
 rintro e w2 ⟨rfl, hk2⟩
 have HK2 := hid (HK1.out.trans hk2)
 have HO2 := hid (HO1.out.same hk2)
 clear hk2
 go_wp2_with fail
 refine (appendNumber_own _ [3] txn 4 _ (by unfold IsI; omega) (by unfold IsI; omega) (by simp) HO2.out).mono ?_
 rintro e w3 ⟨a3, n3, c3, rfl, hown, hg⟩
 have HO3 := (show Hid (Own 0 5 .u8 w3 (.slice a3 n3 c3) ([3] ++ numB txn 4)) from hown)
 have HK3 := (show Hid (Same w w3) from hg.same HK2.out HF1.out)
 have HF3 := hid (hg.fresh HK2.out HF1.out)
 clear hown hg
 go_wp2_with fail
 refine (head_ahead txn prev _).mono ?_
 rintro e w5 ⟨rfl, hk5⟩
 have HK5 := hid (HK3.out.trans hk5)
 have HO5 := hid (HO3.out.same hk5)
 clear hk5
 have hl3 : ([3] ++ numB txn 4).length ≤ 9 := by have := numB_length txn 4; simp only [List.length_append, List.length_singleton]; omega
 go_wp2_with fail
 refine (appendNumber_own _ ([3] ++ numB txn 4) prev 8 _ (by unfold IsI; omega) (by unfold IsI; omega) (by omega) HO5.out).mono ?_
 rintro e w4 ⟨a4, n4, c4, rfl, hown, hg⟩
 have HO4 := (show Hid (Own 0 5 .u8 w4 (.slice a4 n4 c4) (headR 3 txn prev)) from hown)
 have HK4 := (show Hid (Same w w4) from hg.same HK5.out HF3.out)
 have HF4 := hid (hg.fresh HK5.out HF3.out)
 clear hown hg
 have hl4 := headR_length 3 txn prev
 go_wp2_with fail
 refine (headRest_own _ _ txn prev _ (by omega) HO4.out).mono ?_
 rintro e w6 ⟨a6, n6, c6, rfl, hown, hg⟩
 have HO6 := (show Hid (Own 0 5 .u8 w6 (.slice a6 n6 c6) (headR 3 txn prev ++ ([]))) from hown)
 have HK6 := (show Hid (Same w w6) from hg.same HK4.out HF4.out)
 have HF6 := hid (hg.fresh HK4.out HF4.out)
 clear hown hg
 go_wp2
 go_ret
 exact ⟨_, _, _, rfl, HO6.out, HF6.out, HK6.out⟩
theorem encTyped_4 (txn prev : Int) (w : World) (htx : 0 ≤ txn ∧ txn ≤ 2147483647) (hpv : 0 ≤ prev ∧ prev ≤ 1099511627776)  :
  Calls Tryz.prog 46 #[.iface 101 (.agg #[.int .i64 txn, .int .i64 prev])] w fun e w' => ∃ aa nn cc, e = .returned (.slice aa nn cc) ∧ Own 0 5 .u8 w' (.slice aa nn cc) (headR 4 txn prev ++ ([])) ∧ (∀ b, (Value.slice aa nn cc).ownBlock = some b → w.heap.size ≤ b) ∧ Same w w' := by
 go_enter Tryz.func46, Tryz.ntmps46
 go_wp2_with fail
 refine (kindI_4 txn prev _).mono ?_
 rintro e w0 ⟨rfl, hk0⟩
 have HK0 := (show Hid (Same w w0) from hk0)
 clear hk0
 go_wp2_with fail
 refine (implPut_any 4 1 _ (by unfold IsI; omega) (by unfold IsI; omega)).mono ?_
 rw [num_one (by omega)]
 rintro e w1 ⟨a1, c1, rfl, hf1, ho1, hk1⟩
 have HK1 := hid (HK0.out.trans hk1)
 have HF1 := (show Hid (∀ b, (Value.slice a1 ([4] : List Int).length c1).ownBlock = some b → w.heap.size ≤ b) from fun b hb => Nat.le_trans HK0.out.size (hf1 b hb))
 have HO1 := (show Hid (Own 0 5 .u8 w1 (.slice a1 ([4] : List Int).length c1) [4]) from ho1)
 clear hf1 ho1 hk1
 go_wp2_with fail
 refine (head_transaction txn prev _).mono ?_
 rintro e w2 ⟨rfl, hk2⟩
 have HK2 := hid (HK1.out.trans hk2)
 have HO2 := hid (HO1.out.same hk2)
 clear hk2
 go_wp2_with fail
 refine (appendNumber_own _ [4] txn 4 _ (by unfold IsI; omega) (by unfold IsI; omega) (by simp) HO2.out).mono ?_
 rintro e w3 ⟨a3, n3, c3, rfl, hown, hg⟩
 have HO3 := (show Hid (Own 0 5 .u8 w3 (.slice a3 n3 c3) ([4] ++ numB txn 4)) from hown)
 have HK3 := (show Hid (Same w w3) from hg.same HK2.out HF1.out)
 have HF3 := hid (hg.fresh HK2.out HF1.out)
 clear hown hg
 go_wp2_with fail
 refine (head_ahead txn prev _).mono ?_
 rintro e w5 ⟨rfl, hk5⟩
 have HK5 := hid (HK3.out.trans hk5)
 have HO5 := hid (HO3.out.same hk5)
 clear hk5
 have hl3 : ([4] ++ numB txn 4).length ≤ 9 := by have := numB_length txn 4; simp only [List.length_append, List.length_singleton]; omega
 go_wp2_with fail
 refine (appendNumber_own _ ([4] ++ numB txn 4) prev 8 _ (by unfold IsI; omega) (by unfold IsI; omega) (by omega) HO5.out).mono ?_
 rintro e w4 ⟨a4, n4, c4, rfl, hown, hg⟩
 have HO4 := (show Hid (Own 0 5 .u8 w4 (.slice a4 n4 c4) (headR 4 txn prev)) from hown)
 have HK4 := (show Hid (Same w w4) from hg.same HK5.out HF3.out)
 have HF4 := hid (hg.fresh HK5.out HF3.out)
 clear hown hg
 have hl4 := headR_length 4 txn prev
 go_wp2_with fail
 refine (headRest_own _ _ txn prev _ (by omega) HO4.out).mono ?_
 rintro e w6 ⟨a6, n6, c6, rfl, hown, hg⟩
 have HO6 := (show Hid (Own 0 5 .u8 w6 (.slice a6 n6 c6) (headR 4 txn prev ++ ([]))) from hown)
 have HK6 := (show Hid (Same w w6) from hg.same HK4.out HF4.out)
 have HF6 := hid (hg.fresh HK4.out HF4.out)
 clear hown hg
 go_wp2
 go_ret
 exact ⟨_, _, _, rfl, HO6.out, HF6.out, HK6.out⟩
theorem encTyped_5 (txn prev : Int) (w : World) (htx : 0 ≤ txn ∧ txn ≤ 2147483647) (hpv : 0 ≤ prev ∧ prev ≤ 1099511627776)  :
  Calls Tryz.prog 46 #[.iface 102 (.agg #[.int .i64 txn, .int .i64 prev])] w fun e w' => ∃ aa nn cc, e = .returned (.slice aa nn cc) ∧ Own 0 5 .u8 w' (.slice aa nn cc) (headR 5 txn prev ++ ([])) ∧ (∀ b, (Value.slice aa nn cc).ownBlock = some b → w.heap.size ≤ b) ∧ Same w w' := by
 go_enter Tryz.func46, Tryz.ntmps46
 go_wp2_with fail
 refine (kindI_5 txn prev _).mono ?_
 rintro e w0 ⟨rfl, hk0⟩
 have HK0 := (show Hid (Same w w0) from hk0)
 clear hk0
 go_wp2_with fail
 refine (implPut_any 5 1 _ (by unfold IsI; omega) (by unfold IsI; omega)).mono ?_
 rw [num_one (by omega)]
 rintro e w1 ⟨a1, c1, rfl, hf1, ho1, hk1⟩
 have HK1 := hid (HK0.out.trans hk1)
 have HF1 := (show Hid (∀ b, (Value.slice a1 ([5] : List Int).length c1).ownBlock = some b → w.heap.size ≤ b) from fun b hb => Nat.le_trans HK0.out.size (hf1 b hb))
 have HO1 := (show Hid (Own 0 5 .u8 w1 (.slice a1 ([5] : List Int).length c1) [5]) from ho1)
 clear hf1 ho1 hk1
 go_wp2_with fail
 refine (head_transaction txn prev _).mono ?_
 rintro e w2 ⟨rfl, hk2⟩
 have HK2 := hid (HK1.out.trans hk2)
 have HO2 := hid (HO1.out.same hk2)
 clear hk2
 go_wp2_with fail
 refine (appendNumber_own _ [5] txn 4 _ (by unfold IsI; omega) (by unfold IsI; omega) (by simp) HO2.out).mono ?_
 rintro e w3 ⟨a3, n3, c3, rfl, hown, hg⟩
 have HO3 := (show Hid (Own 0 5 .u8 w3 (.slice a3 n3 c3) ([5] ++ numB txn 4)) from hown)
 have HK3 := (show Hid (Same w w3) from hg.same HK2.out HF1.out)
 have HF3 := hid (hg.fresh HK2.out HF1.out)
 clear hown hg
 go_wp2_with fail
 refine (head_ahead txn prev _).mono ?_
 rintro e w5 ⟨rfl, hk5⟩
 have HK5 := hid (HK3.out.trans hk5)
 have HO5 := hid (HO3.out.same hk5)
 clear hk5
 have hl3 : ([5] ++ numB txn 4).length ≤ 9 := by have := numB_length txn 4; simp only [List.length_append, List.length_singleton]; omega
 go_wp2_with fail
 refine (appendNumber_own _ ([5] ++ numB txn 4) prev 8 _ (by unfold IsI; omega) (by unfold IsI; omega) (by omega) HO5.out).mono ?_
 rintro e w4 ⟨a4, n4, c4, rfl, hown, hg⟩
 have HO4 := (show Hid (Own 0 5 .u8 w4 (.slice a4 n4 c4) (headR 5 txn prev)) from hown)
 have HK4 := (show Hid (Same w w4) from hg.same HK5.out HF3.out)
 have HF4 := hid (hg.fresh HK5.out HF3.out)
 clear hown hg
 have hl4 := headR_length 5 txn prev
 go_wp2_with fail
 refine (headRest_own _ _ txn prev _ (by omega) HO4.out).mono ?_
 rintro e w6 ⟨a6, n6, c6, rfl, hown, hg⟩
 have HO6 := (show Hid (Own 0 5 .u8 w6 (.slice a6 n6 c6) (headR 5 txn prev ++ ([]))) from hown)
 have HK6 := (show Hid (Same w w6) from hg.same HK4.out HF4.out)
 have HF6 := hid (hg.fresh HK4.out HF4.out)
 clear hown hg
 go_wp2
 go_ret
 exact ⟨_, _, _, rfl, HO6.out, HF6.out, HK6.out⟩
theorem encTyped_6 (txn prev : Int) (w : World) (htx : 0 ≤ txn ∧ txn ≤ 2147483647) (hpv : 0 ≤ prev ∧ prev ≤ 1099511627776)  :
  Calls Tryz.prog 46 #[.iface 103 (.agg #[.int .i64 txn, .int .i64 prev])] w fun e w' => ∃ aa nn cc, e = .returned (.slice aa nn cc) ∧ Own 0 5 .u8 w' (.slice aa nn cc) (headR 6 txn prev ++ ([])) ∧ (∀ b, (Value.slice aa nn cc).ownBlock = some b → w.heap.size ≤ b) ∧ Same w w' := by
 go_enter Tryz.func46, Tryz.ntmps46
 go_wp2_with fail
 refine (kindI_6 txn prev _).mono ?_
 rintro e w0 ⟨rfl, hk0⟩
 have HK0 := (show Hid (Same w w0) from hk0)
 clear hk0
 go_wp2_with fail
 refine (implPut_any 6 1 _ (by unfold IsI; omega) (by unfold IsI; omega)).mono ?_
 rw [num_one (by omega)]
 rintro e w1 ⟨a1, c1, rfl, hf1, ho1, hk1⟩
 have HK1 := hid (HK0.out.trans hk1)
 have HF1 := (show Hid (∀ b, (Value.slice a1 ([6] : List Int).length c1).ownBlock = some b → w.heap.size ≤ b) from fun b hb => Nat.le_trans HK0.out.size (hf1 b hb))
 have HO1 := (show Hid (Own 0 5 .u8 w1 (.slice a1 ([6] : List Int).length c1) [6]) from ho1)
 clear hf1 ho1 hk1
 go_wp2_with fail
 refine (head_transaction txn prev _).mono ?_
 rintro e w2 ⟨rfl, hk2⟩
 have HK2 := hid (HK1.out.trans hk2)
 have HO2 := hid (HO1.out.same hk2)
 clear hk2
 go_wp2_with fail
 refine (appendNumber_own _ [6] txn 4 _ (by unfold IsI; omega) (by unfold IsI; omega) (by simp) HO2.out).mono ?_
 rintro e w3 ⟨a3, n3, c3, rfl, hown, hg⟩
 have HO3 := (show Hid (Own 0 5 .u8 w3 (.slice a3 n3 c3) ([6] ++ numB txn 4)) from hown)
 have HK3 := (show Hid (Same w w3) from hg.same HK2.out HF1.out)
 have HF3 := hid (hg.fresh HK2.out HF1.out)
 clear hown hg
 go_wp2_with fail
 refine (head_ahead txn prev _).mono ?_
 rintro e w5 ⟨rfl, hk5⟩
 have HK5 := hid (HK3.out.trans hk5)
 have HO5 := hid (HO3.out.same hk5)
 clear hk5
 have hl3 : ([6] ++ numB txn 4).length ≤ 9 := by have := numB_length txn 4; simp only [List.length_append, List.length_singleton]; omega
 go_wp2_with fail
 refine (appendNumber_own _ ([6] ++ numB txn 4) prev 8 _ (by unfold IsI; omega) (by unfold IsI; omega) (by omega) HO5.out).mono ?_
 rintro e w4 ⟨a4, n4, c4, rfl, hown, hg⟩
 have HO4 := (show Hid (Own 0 5 .u8 w4 (.slice a4 n4 c4) (headR 6 txn prev)) from hown)
 have HK4 := (show Hid (Same w w4) from hg.same HK5.out HF3.out)
 have HF4 := hid (hg.fresh HK5.out HF3.out)
 clear hown hg
 have hl4 := headR_length 6 txn prev
 go_wp2_with fail
 refine (headRest_own _ _ txn prev _ (by omega) HO4.out).mono ?_
 rintro e w6 ⟨a6, n6, c6, rfl, hown, hg⟩
 have HO6 := (show Hid (Own 0 5 .u8 w6 (.slice a6 n6 c6) (headR 6 txn prev ++ ([]))) from hown)
 have HK6 := (show Hid (Same w w6) from hg.same HK4.out HF4.out)
 have HF6 := hid (hg.fresh HK4.out HF4.out)
 clear hown hg
 go_wp2
 go_ret
 exact ⟨_, _, _, rfl, HO6.out, HF6.out, HK6.out⟩
theorem encTyped_7 (txn prev nt : Int) (te : TypeId) (ta : Option Addr) (tn tc : Nat) (tb : List Int) (de : TypeId) (da : Option Addr) (dn dc : Nat) (db : List Int) (w : World) (htx : 0 ≤ txn ∧ txn ≤ 2147483647) (hpv : 0 ≤ prev ∧ prev ≤ 1099511627776) (hnt : 1 ≤ nt ∧ nt ≤ 2147483648) (hn8 : tn ≤ 8) (hn16 : dn ≤ 16) (htg : ∀ i, i < tn → (1 ≤ tb.getD (i * 4) 0 ∧ tb.getD (i * 4) 0 ≤ 2147483647) ∧ (1 ≤ tb.getD (i * 4 + 1) 0 ∧ tb.getD (i * 4 + 1) 0 ≤ 3) ∧ (1 ≤ tb.getD (i * 4 + 2) 0 ∧ tb.getD (i * 4 + 2) 0 ≤ 1099511627776) ∧ (0 ≤ tb.getD (i * 4 + 3) 0 ∧ tb.getD (i * 4 + 3) 0 ≤ tb.getD (i * 4 + 2) 0)) (hdg : ∀ i, i < dn → (0 ≤ db.getD (i * 2) 0 ∧ db.getD (i * 2) 0 < 16) ∧ (1 ≤ db.getD (i * 2 + 1) 0 ∧ db.getD (i * 2 + 1) 0 ≤ 1099511627776)) (hrt : RdF 4 w ⟨te, ta, tn, tc, tb⟩) (hrd : RdF 2 w ⟨de, da, dn, dc, db⟩) :
  Calls Tryz.prog 46 #[.iface 105 (.agg #[.int .i64 txn, .int .i64 prev, .int .i64 nt, .slice ta tn tc, .slice da dn dc])] w fun e w' => ∃ aa nn cc, e = .returned (.slice aa nn cc) ∧ Own 0 5 .u8 w' (.slice aa nn cc) (headR 7 txn prev ++ ((((numB nt 4 ++ numB (tn : Nat) 1) ++ txsB tb tn) ++ numB (dn : Nat) 1) ++ dysB db dn)) ∧ (∀ b, (Value.slice aa nn cc).ownBlock = some b → w.heap.size ≤ b) ∧ Same w w' := by
 have HRT := hid hrt
 have HRD := hid hrd
 have HTG := hid htg
 have HDG := hid hdg
 clear hrt hrd htg hdg
 go_enter Tryz.func46, Tryz.ntmps46
 go_wp2_with fail
 refine (kindI_7 txn prev nt ta tn tc da dn dc _).mono ?_
 rintro e w0 ⟨rfl, hk0⟩
 have HK0 := (show Hid (Same w w0) from hk0)
 clear hk0
 go_wp2_with fail
 refine (implPut_any 7 1 _ (by unfold IsI; omega) (by unfold IsI; omega)).mono ?_
 rw [num_one (by omega)]
 rintro e w1 ⟨a1, c1, rfl, hf1, ho1, hk1⟩
 have HK1 := hid (HK0.out.trans hk1)
 have HF1 := (show Hid (∀ b, (Value.slice a1 ([7] : List Int).length c1).ownBlock = some b → w.heap.size ≤ b) from fun b hb => Nat.le_trans HK0.out.size (hf1 b hb))
 have HO1 := (show Hid (Own 0 5 .u8 w1 (.slice a1 ([7] : List Int).length c1) [7]) from ho1)
 clear hf1 ho1 hk1
 go_wp2_with fail
 refine (head_transaction txn prev _).mono ?_
 rintro e w2 ⟨rfl, hk2⟩
 have HK2 := hid (HK1.out.trans hk2)
 have HO2 := hid (HO1.out.same hk2)
 clear hk2
 go_wp2_with fail
 refine (appendNumber_own _ [7] txn 4 _ (by unfold IsI; omega) (by unfold IsI; omega) (by simp) HO2.out).mono ?_
 rintro e w3 ⟨a3, n3, c3, rfl, hown, hg⟩
 have HO3 := (show Hid (Own 0 5 .u8 w3 (.slice a3 n3 c3) ([7] ++ numB txn 4)) from hown)
 have HK3 := (show Hid (Same w w3) from hg.same HK2.out HF1.out)
 have HF3 := hid (hg.fresh HK2.out HF1.out)
 clear hown hg
 go_wp2_with fail
 refine (head_ahead txn prev _).mono ?_
 rintro e w5 ⟨rfl, hk5⟩
 have HK5 := hid (HK3.out.trans hk5)
 have HO5 := hid (HO3.out.same hk5)
 clear hk5
 have hl3 : ([7] ++ numB txn 4).length ≤ 9 := by have := numB_length txn 4; simp only [List.length_append, List.length_singleton]; omega
 go_wp2_with fail
 refine (appendNumber_own _ ([7] ++ numB txn 4) prev 8 _ (by unfold IsI; omega) (by unfold IsI; omega) (by omega) HO5.out).mono ?_
 rintro e w4 ⟨a4, n4, c4, rfl, hown, hg⟩
 have HO4 := (show Hid (Own 0 5 .u8 w4 (.slice a4 n4 c4) (headR 7 txn prev)) from hown)
 have HK4 := (show Hid (Same w w4) from hg.same HK5.out HF3.out)
 have HF4 := hid (hg.fresh HK5.out HF3.out)
 clear hown hg
 have hl4 := headR_length 7 txn prev
 go_wp2_with fail
 refine (tabRest_own _ _ txn prev nt te ta tn tc tb de da dn dc db _ hnt hn8 hn16 HTG.out HDG.out (fun wx hkx => HRT.out.same (HK4.out.next hkx (fun i hi e => by have := HF4.out i e; omega))) (fun wx hkx => HRD.out.same (HK4.out.next hkx (fun i hi e => by have := HF4.out i e; omega))) (by omega) HO4.out).mono ?_
 rintro e w6 ⟨a6, n6, c6, rfl, hown, hg⟩
 have HO6 := (show Hid (Own 0 5 .u8 w6 (.slice a6 n6 c6) (headR 7 txn prev ++ ((((numB nt 4 ++ numB (tn : Nat) 1) ++ txsB tb tn) ++ numB (dn : Nat) 1) ++ dysB db dn))) from hown)
 have HK6 := (show Hid (Same w w6) from hg.same HK4.out HF4.out)
 have HF6 := hid (hg.fresh HK4.out HF4.out)
 clear hown hg
 go_wp2
 go_ret
 exact ⟨_, _, _, rfl, HO6.out, HF6.out, HK6.out⟩
theorem encTyped_8 (txn prev page : Int) (ga : Option Addr) (gc : Nat) (gb : List Int) (w : World) (htx : 0 ≤ txn ∧ txn ≤ 2147483647) (hpv : 0 ≤ prev ∧ prev ≤ 1099511627776) (hpg : IsI page) (hil : gb.length ≤ 4096) (hri : Rd .u8 w (.slice ga gb.length gc) gb) :
  Calls Tryz.prog 46 #[.iface 107 (.agg #[.int .i64 txn, .int .i64 prev, .int .i64 page, .slice ga gb.length gc])] w fun e w' => ∃ aa nn cc, e = .returned (.slice aa nn cc) ∧ Own 0 5 .u8 w' (.slice aa nn cc) (headR 8 txn prev ++ (numB page 2 ++ gb)) ∧ (∀ b, (Value.slice aa nn cc).ownBlock = some b → w.heap.size ≤ b) ∧ Same w w' := by
 have HRI := hid hri
 clear hri
 go_enter Tryz.func46, Tryz.ntmps46
 go_wp2_with fail
 refine (kindI_8 txn prev page ga gb.length gc _).mono ?_
 rintro e w0 ⟨rfl, hk0⟩
 have HK0 := (show Hid (Same w w0) from hk0)
 clear hk0
 go_wp2_with fail
 refine (implPut_any 8 1 _ (by unfold IsI; omega) (by unfold IsI; omega)).mono ?_
 rw [num_one (by omega)]
 rintro e w1 ⟨a1, c1, rfl, hf1, ho1, hk1⟩
 have HK1 := hid (HK0.out.trans hk1)
 have HF1 := (show Hid (∀ b, (Value.slice a1 ([8] : List Int).length c1).ownBlock = some b → w.heap.size ≤ b) from fun b hb => Nat.le_trans HK0.out.size (hf1 b hb))
 have HO1 := (show Hid (Own 0 5 .u8 w1 (.slice a1 ([8] : List Int).length c1) [8]) from ho1)
 clear hf1 ho1 hk1
 go_wp2_with fail
 refine (head_transaction txn prev _).mono ?_
 rintro e w2 ⟨rfl, hk2⟩
 have HK2 := hid (HK1.out.trans hk2)
 have HO2 := hid (HO1.out.same hk2)
 clear hk2
 go_wp2_with fail
 refine (appendNumber_own _ [8] txn 4 _ (by unfold IsI; omega) (by unfold IsI; omega) (by simp) HO2.out).mono ?_
 rintro e w3 ⟨a3, n3, c3, rfl, hown, hg⟩
 have HO3 := (show Hid (Own 0 5 .u8 w3 (.slice a3 n3 c3) ([8] ++ numB txn 4)) from hown)
 have HK3 := (show Hid (Same w w3) from hg.same HK2.out HF1.out)
 have HF3 := hid (hg.fresh HK2.out HF1.out)
 clear hown hg
 go_wp2_with fail
 refine (head_ahead txn prev _).mono ?_
 rintro e w5 ⟨rfl, hk5⟩
 have HK5 := hid (HK3.out.trans hk5)
 have HO5 := hid (HO3.out.same hk5)
 clear hk5
 have hl3 : ([8] ++ numB txn 4).length ≤ 9 := by have := numB_length txn 4; simp only [List.length_append, List.length_singleton]; omega
 go_wp2_with fail
 refine (appendNumber_own _ ([8] ++ numB txn 4) prev 8 _ (by unfold IsI; omega) (by unfold IsI; omega) (by omega) HO5.out).mono ?_
 rintro e w4 ⟨a4, n4, c4, rfl, hown, hg⟩
 have HO4 := (show Hid (Own 0 5 .u8 w4 (.slice a4 n4 c4) (headR 8 txn prev)) from hown)
 have HK4 := (show Hid (Same w w4) from hg.same HK5.out HF3.out)
 have HF4 := hid (hg.fresh HK5.out HF3.out)
 clear hown hg
 have hl4 := headR_length 8 txn prev
 go_wp2_with fail
 refine (imgRest_own _ _ txn prev page ga gc gb _ hpg hil (fun wx hkx => HRI.out.same (HK4.out.next hkx (fun i hi e => by have := HF4.out i e; omega))) (by omega) HO4.out).mono ?_
 rintro e w6 ⟨a6, n6, c6, rfl, hown, hg⟩
 have HO6 := (show Hid (Own 0 5 .u8 w6 (.slice a6 n6 c6) (headR 8 txn prev ++ (numB page 2 ++ gb))) from hown)
 have HK6 := (show Hid (Same w w6) from hg.same HK4.out HF4.out)
 have HF6 := hid (hg.fresh HK4.out HF4.out)
 clear hown hg
 go_wp2
 go_ret
 exact ⟨_, _, _, rfl, HO6.out, HF6.out, HK6.out⟩
end Go.Proofs.YtdgmecmkkddpeaaGreat
