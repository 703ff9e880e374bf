import Derived.Test.YtbilnlgjpchgiaaDoorG02
import Derived.Test.YtbilnlgjpchgiaaDoorG00
namespace Go.Proofs.YtbilnlgjpchgiaaDoor
set_option maxRecDepth 100000
set_option maxHeartbeats 4000000
set_option linter.unusedVariables false
set_option linter.unusedSimpArgs false
open Go.RowKit
abbrev stepOK (k t i c : Int) (nd nk : Nat) : Prop :=
 ((2 ≤ k ∧ k ≤ 7) ∨ t = 0) ∧ ((3 ≤ k ∧ k ≤ 5) ∨ i = 0) ∧ (k = 2 ∨ k = 3 ∨ nd = 0) ∧ (k = 10 ∨ nk = 0) ∧ (k = 11 ∨ c = 0)
def stepF (k t i c : Int) (nd nk : Nat) : Int :=
 if k < 1 ∨ 11 < k then 1 else if ¬ stepOK k t i c nd nk then 2 else if c < -1 ∨ 1000000 < c then 3 else if 8192 < nk then 4 else 0
theorem specStep_1 (t i c : Int) (da : Option Addr) (nd dc : Nat) (ka : Option Addr) (nk kc : Nat) (w : World) (hn : nd ≤ maxLen) (hm : nk ≤ maxLen) : Calls Tryd.prog 18 #[.agg #[.int .i64 1, .int .i64 t, .int .i64 i, .int .i64 c, .slice da nd dc, .slice ka nk kc]] w fun e w' => e = .returned (.int .i64 (stepF 1 t i c nd nk)) ∧ Same w w' := by
 unfold maxLen at hn hm
 by_cases ht : t = 0
 case neg =>
  rw [show stepF 1 t i c nd nk = 2 from by unfold stepF stepOK; rw [if_neg (by omega), if_pos (by omega)]]
  have HK0 := hid (sameA w [.int .i64 1, .int .i64 t, .int .i64 i, .int .i64 c, .slice da nd dc, .slice ka nk kc] 61)
  have b0 := hid (Blk.newL w [.int .i64 1, .int .i64 t, .int .i64 i, .int .i64 c, .slice da nd dc, .slice ka nk kc] 61)
  go_enter Tryd.func18, Tryd.ntmps18
  go_wp2_with fail
  refine (l4In_any _ _ _ _).mono ?_
  rintro e w1 ⟨rfl, hk1⟩
  have HK1 := hid (HK0.out.trans hk1)
  have b1 := hid (b0.out.same hk1)
  have c0 := b1.out.cell 0
  have c1 := b1.out.cell 1
  have c2 := b1.out.cell 2
  have c3 := b1.out.cell 3
  have c4 := b1.out.cell 4
  have c5 := b1.out.cell 5
  clear hk1
  rw [show inB 1 1 11 = true from by decide]
  go_wp2
  go_ret
  exact ⟨rfl, HK1.out⟩
 subst ht
 by_cases hi : i = 0
 case neg =>
  rw [show stepF 1 0 i c nd nk = 2 from by unfold stepF stepOK; rw [if_neg (by omega), if_pos (by omega)]]
  have HK0 := hid (sameA w [.int .i64 1, .int .i64 0, .int .i64 i, .int .i64 c, .slice da nd dc, .slice ka nk kc] 61)
  have b0 := hid (Blk.newL w [.int .i64 1, .int .i64 0, .int .i64 i, .int .i64 c, .slice da nd dc, .slice ka nk kc] 61)
  go_enter Tryd.func18, Tryd.ntmps18
  go_wp2_with fail
  refine (l4In_any _ _ _ _).mono ?_
  rintro e w1 ⟨rfl, hk1⟩
  have HK1 := hid (HK0.out.trans hk1)
  have b1 := hid (b0.out.same hk1)
  have c0 := b1.out.cell 0
  have c1 := b1.out.cell 1
  have c2 := b1.out.cell 2
  have c3 := b1.out.cell 3
  have c4 := b1.out.cell 4
  have c5 := b1.out.cell 5
  clear hk1
  rw [show inB 1 1 11 = true from by decide]
  go_wp2
  go_ret
  exact ⟨rfl, HK1.out⟩
 subst hi
 by_cases hnd : nd = 0
 case neg =>
  have hnd' : 0 < (nd : Int) := by omega
  rw [show stepF 1 0 0 c nd nk = 2 from by unfold stepF stepOK; rw [if_neg (by omega), if_pos (by omega)]]
  have HK0 := hid (sameA w [.int .i64 1, .int .i64 0, .int .i64 0, .int .i64 c, .slice da nd dc, .slice ka nk kc] 61)
  have b0 := hid (Blk.newL w [.int .i64 1, .int .i64 0, .int .i64 0, .int .i64 c, .slice da nd dc, .slice ka nk kc] 61)
  go_enter Tryd.func18, Tryd.ntmps18
  go_wp2_with fail
  refine (l4In_any _ _ _ _).mono ?_
  rintro e w1 ⟨rfl, hk1⟩
  have HK1 := hid (HK0.out.trans hk1)
  have b1 := hid (b0.out.same hk1)
  have c0 := b1.out.cell 0
  have c1 := b1.out.cell 1
  have c2 := b1.out.cell 2
  have c3 := b1.out.cell 3
  have c4 := b1.out.cell 4
  have c5 := b1.out.cell 5
  clear hk1
  rw [show inB 1 1 11 = true from by decide]
  go_wp2
  go_ret
  exact ⟨rfl, HK1.out⟩
 subst hnd
 by_cases hnk : nk = 0
 case neg =>
  have hnk' : 0 < (nk : Int) := by omega
  rw [show stepF 1 0 0 c 0 nk = 2 from by unfold stepF stepOK; rw [if_neg (by omega), if_pos (by omega)]]
  have HK0 := hid (sameA w [.int .i64 1, .int .i64 0, .int .i64 0, .int .i64 c, .slice da 0 dc, .slice ka nk kc] 61)
  have b0 := hid (Blk.newL w [.int .i64 1, .int .i64 0, .int .i64 0, .int .i64 c, .slice da 0 dc, .slice ka nk kc] 61)
  go_enter Tryd.func18, Tryd.ntmps18
  go_wp2_with fail
  refine (l4In_any _ _ _ _).mono ?_
  rintro e w1 ⟨rfl, hk1⟩
  have HK1 := hid (HK0.out.trans hk1)
  have b1 := hid (b0.out.same hk1)
  have c0 := b1.out.cell 0
  have c1 := b1.out.cell 1
  have c2 := b1.out.cell 2
  have c3 := b1.out.cell 3
  have c4 := b1.out.cell 4
  have c5 := b1.out.cell 5
  clear hk1
  rw [show inB 1 1 11 = true from by decide]
  go_wp2
  go_ret
  exact ⟨rfl, HK1.out⟩
 subst hnk
 by_cases hc : c = 0
 case neg =>
  rw [show stepF 1 0 0 c 0 0 = 2 from by unfold stepF stepOK; rw [if_neg (by omega), if_pos (by omega)]]
  have HK0 := hid (sameA w [.int .i64 1, .int .i64 0, .int .i64 0, .int .i64 c, .slice da 0 dc, .slice ka 0 kc] 61)
  have b0 := hid (Blk.newL w [.int .i64 1, .int .i64 0, .int .i64 0, .int .i64 c, .slice da 0 dc, .slice ka 0 kc] 61)
  go_enter Tryd.func18, Tryd.ntmps18
  go_wp2_with fail
  refine (l4In_any _ _ _ _).mono ?_
  rintro e w1 ⟨rfl, hk1⟩
  have HK1 := hid (HK0.out.trans hk1)
  have b1 := hid (b0.out.same hk1)
  have c0 := b1.out.cell 0
  have c1 := b1.out.cell 1
  have c2 := b1.out.cell 2
  have c3 := b1.out.cell 3
  have c4 := b1.out.cell 4
  have c5 := b1.out.cell 5
  clear hk1
  rw [show inB 1 1 11 = true from by decide]
  go_wp2
  go_ret
  exact ⟨rfl, HK1.out⟩
 subst hc
 have HK0 := hid (sameA w [.int .i64 1, .int .i64 0, .int .i64 0, .int .i64 0, .slice da 0 dc, .slice ka 0 kc] 61)
 have b0 := hid (Blk.newL w [.int .i64 1, .int .i64 0, .int .i64 0, .int .i64 0, .slice da 0 dc, .slice ka 0 kc] 61)
 rw [show stepF 1 0 0 0 0 0 = 0 from by unfold stepF stepOK; rw [if_neg (by omega), if_neg (by omega), if_neg (by omega), if_neg (by omega)]]
 go_enter Tryd.func18, Tryd.ntmps18
 go_wp2_with fail
 refine (l4In_any _ _ _ _).mono ?_
 rintro e w1 ⟨rfl, hk1⟩
 have HK1 := hid (HK0.out.trans hk1)
 have b1 := hid (b0.out.same hk1)
 have c0 := b1.out.cell 0
 have c1 := b1.out.cell 1
 have c2 := b1.out.cell 2
 have c3 := b1.out.cell 3
 have c4 := b1.out.cell 4
 have c5 := b1.out.cell 5
 clear hk1
 rw [show inB 1 1 11 = true from by decide]
 go_wp2_with fail
 refine (l4In_any _ _ _ _).mono ?_
 rintro e w2 ⟨rfl, hk2⟩
 have HK2 := hid (HK1.out.trans hk2)
 have b2 := hid (b1.out.same hk2)
 have d0 := b2.out.cell 0
 have d1 := b2.out.cell 1
 have d2 := b2.out.cell 2
 have d3 := b2.out.cell 3
 have d4 := b2.out.cell 4
 have d5 := b2.out.cell 5
 clear hk2
 rw [show inB 0 (-1) 1000000 = true from by decide]
 go_wp2
 go_ret
 exact ⟨rfl, HK2.out⟩
theorem specStep_2 (t i c : Int) (da : Option Addr) (nd dc : Nat) (ka : Option Addr) (nk kc : Nat) (w : World) (hn : nd ≤ maxLen) (hm : nk ≤ maxLen) : Calls Tryd.prog 18 #[.agg #[.int .i64 2, .int .i64 t, .int .i64 i, .int .i64 c, .slice da nd dc, .slice ka nk kc]] w fun e w' => e = .returned (.int .i64 (stepF 2 t i c nd nk)) ∧ Same w w' := by
 unfold maxLen at hn hm
 by_cases hi : i = 0
 case neg =>
  rw [show stepF 2 t i c nd nk = 2 from by unfold stepF stepOK; rw [if_neg (by omega), if_pos (by omega)]]
  have HK0 := hid (sameA w [.int .i64 2, .int .i64 t, .int .i64 i, .int .i64 c, .slice da nd dc, .slice ka nk kc] 61)
  have b0 := hid (Blk.newL w [.int .i64 2, .int .i64 t, .int .i64 i, .int .i64 c, .slice da nd dc, .slice ka nk kc] 61)
  go_enter Tryd.func18, Tryd.ntmps18
  go_wp2_with fail
  refine (l4In_any _ _ _ _).mono ?_
  rintro e w1 ⟨rfl, hk1⟩
  have HK1 := hid (HK0.out.trans hk1)
  have b1 := hid (b0.out.same hk1)
  have c0 := b1.out.cell 0
  have c1 := b1.out.cell 1
  have c2 := b1.out.cell 2
  have c3 := b1.out.cell 3
  have c4 := b1.out.cell 4
  have c5 := b1.out.cell 5
  clear hk1
  rw [show inB 2 1 11 = true from by decide]
  go_wp2
  go_ret
  exact ⟨rfl, HK1.out⟩
 subst hi
 by_cases hnk : nk = 0
 case neg =>
  have hnk' : 0 < (nk : Int) := by omega
  rw [show stepF 2 t 0 c nd nk = 2 from by unfold stepF stepOK; rw [if_neg (by omega), if_pos (by omega)]]
  have HK0 := hid (sameA w [.int .i64 2, .int .i64 t, .int .i64 0, .int .i64 c, .slice da nd dc, .slice ka nk kc] 61)
  have b0 := hid (Blk.newL w [.int .i64 2, .int .i64 t, .int .i64 0, .int .i64 c, .slice da nd dc, .slice ka nk kc] 61)
  go_enter Tryd.func18, Tryd.ntmps18
  go_wp2_with fail
  refine (l4In_any _ _ _ _).mono ?_
  rintro e w1 ⟨rfl, hk1⟩
  have HK1 := hid (HK0.out.trans hk1)
  have b1 := hid (b0.out.same hk1)
  have c0 := b1.out.cell 0
  have c1 := b1.out.cell 1
  have c2 := b1.out.cell 2
  have c3 := b1.out.cell 3
  have c4 := b1.out.cell 4
  have c5 := b1.out.cell 5
  clear hk1
  rw [show inB 2 1 11 = true from by decide]
  go_wp2
  go_ret
  exact ⟨rfl, HK1.out⟩
 subst hnk
 by_cases hc : c = 0
 case neg =>
  rw [show stepF 2 t 0 c nd 0 = 2 from by unfold stepF stepOK; rw [if_neg (by omega), if_pos (by omega)]]
  have HK0 := hid (sameA w [.int .i64 2, .int .i64 t, .int .i64 0, .int .i64 c, .slice da nd dc, .slice ka 0 kc] 61)
  have b0 := hid (Blk.newL w [.int .i64 2, .int .i64 t, .int .i64 0, .int .i64 c, .slice da nd dc, .slice ka 0 kc] 61)
  go_enter Tryd.func18, Tryd.ntmps18
  go_wp2_with fail
  refine (l4In_any _ _ _ _).mono ?_
  rintro e w1 ⟨rfl, hk1⟩
  have HK1 := hid (HK0.out.trans hk1)
  have b1 := hid (b0.out.same hk1)
  have c0 := b1.out.cell 0
  have c1 := b1.out.cell 1
  have c2 := b1.out.cell 2
  have c3 := b1.out.cell 3
  have c4 := b1.out.cell 4
  have c5 := b1.out.cell 5
  clear hk1
  rw [show inB 2 1 11 = true from by decide]
  go_wp2
  go_ret
  exact ⟨rfl, HK1.out⟩
 subst hc
 have HK0 := hid (sameA w [.int .i64 2, .int .i64 t, .int .i64 0, .int .i64 0, .slice da nd dc, .slice ka 0 kc] 61)
 have b0 := hid (Blk.newL w [.int .i64 2, .int .i64 t, .int .i64 0, .int .i64 0, .slice da nd dc, .slice ka 0 kc] 61)
 rw [show stepF 2 t 0 0 nd 0 = 0 from by unfold stepF stepOK; rw [if_neg (by omega), if_neg (by omega), if_neg (by omega), if_neg (by omega)]]
 go_enter Tryd.func18, Tryd.ntmps18
 go_wp2_with fail
 refine (l4In_any _ _ _ _).mono ?_
 rintro e w1 ⟨rfl, hk1⟩
 have HK1 := hid (HK0.out.trans hk1)
 have b1 := hid (b0.out.same hk1)
 have c0 := b1.out.cell 0
 have c1 := b1.out.cell 1
 have c2 := b1.out.cell 2
 have c3 := b1.out.cell 3
 have c4 := b1.out.cell 4
 have c5 := b1.out.cell 5
 clear hk1
 rw [show inB 2 1 11 = true from by decide]
 go_wp2_with fail
 refine (l4In_any _ _ _ _).mono ?_
 rintro e w2 ⟨rfl, hk2⟩
 have HK2 := hid (HK1.out.trans hk2)
 have b2 := hid (b1.out.same hk2)
 have d0 := b2.out.cell 0
 have d1 := b2.out.cell 1
 have d2 := b2.out.cell 2
 have d3 := b2.out.cell 3
 have d4 := b2.out.cell 4
 have d5 := b2.out.cell 5
 clear hk2
 rw [show inB 0 (-1) 1000000 = true from by decide]
 go_wp2
 go_ret
 exact ⟨rfl, HK2.out⟩
theorem specStep_3 (t i c : Int) (da : Option Addr) (nd dc : Nat) (ka : Option Addr) (nk kc : Nat) (w : World) (hn : nd ≤ maxLen) (hm : nk ≤ maxLen) : Calls Tryd.prog 18 #[.agg #[.int .i64 3, .int .i64 t, .int .i64 i, .int .i64 c, .slice da nd dc, .slice ka nk kc]] w fun e w' => e = .returned (.int .i64 (stepF 3 t i c nd nk)) ∧ Same w w' := by
 unfold maxLen at hn hm
 by_cases hnk : nk = 0
 case neg =>
  have hnk' : 0 < (nk : Int) := by omega
  rw [show stepF 3 t i c nd nk = 2 from by unfold stepF stepOK; rw [if_neg (by omega), if_pos (by omega)]]
  have HK0 := hid (sameA w [.int .i64 3, .int .i64 t, .int .i64 i, .int .i64 c, .slice da nd dc, .slice ka nk kc] 61)
  have b0 := hid (Blk.newL w [.int .i64 3, .int .i64 t, .int .i64 i, .int .i64 c, .slice da nd dc, .slice ka nk kc] 61)
  go_enter Tryd.func18, Tryd.ntmps18
  go_wp2_with fail
  refine (l4In_any _ _ _ _).mono ?_
  rintro e w1 ⟨rfl, hk1⟩
  have HK1 := hid (HK0.out.trans hk1)
  have b1 := hid (b0.out.same hk1)
  have c0 := b1.out.cell 0
  have c1 := b1.out.cell 1
  have c2 := b1.out.cell 2
  have c3 := b1.out.cell 3
  have c4 := b1.out.cell 4
  have c5 := b1.out.cell 5
  clear hk1
  rw [show inB 3 1 11 = true from by decide]
  go_wp2
  go_ret
  exact ⟨rfl, HK1.out⟩
 subst hnk
 by_cases hc : c = 0
 case neg =>
  rw [show stepF 3 t i c nd 0 = 2 from by unfold stepF stepOK; rw [if_neg (by omega), if_pos (by omega)]]
  have HK0 := hid (sameA w [.int .i64 3, .int .i64 t, .int .i64 i, .int .i64 c, .slice da nd dc, .slice ka 0 kc] 61)
  have b0 := hid (Blk.newL w [.int .i64 3, .int .i64 t, .int .i64 i, .int .i64 c, .slice da nd dc, .slice ka 0 kc] 61)
  go_enter Tryd.func18, Tryd.ntmps18
  go_wp2_with fail
  refine (l4In_any _ _ _ _).mono ?_
  rintro e w1 ⟨rfl, hk1⟩
  have HK1 := hid (HK0.out.trans hk1)
  have b1 := hid (b0.out.same hk1)
  have c0 := b1.out.cell 0
  have c1 := b1.out.cell 1
  have c2 := b1.out.cell 2
  have c3 := b1.out.cell 3
  have c4 := b1.out.cell 4
  have c5 := b1.out.cell 5
  clear hk1
  rw [show inB 3 1 11 = true from by decide]
  go_wp2
  go_ret
  exact ⟨rfl, HK1.out⟩
 subst hc
 have HK0 := hid (sameA w [.int .i64 3, .int .i64 t, .int .i64 i, .int .i64 0, .slice da nd dc, .slice ka 0 kc] 61)
 have b0 := hid (Blk.newL w [.int .i64 3, .int .i64 t, .int .i64 i, .int .i64 0, .slice da nd dc, .slice ka 0 kc] 61)
 rw [show stepF 3 t i 0 nd 0 = 0 from by unfold stepF stepOK; rw [if_neg (by omega), if_neg (by omega), if_neg (by omega), if_neg (by omega)]]
 go_enter Tryd.func18, Tryd.ntmps18
 go_wp2_with fail
 refine (l4In_any _ _ _ _).mono ?_
 rintro e w1 ⟨rfl, hk1⟩
 have HK1 := hid (HK0.out.trans hk1)
 have b1 := hid (b0.out.same hk1)
 have c0 := b1.out.cell 0
 have c1 := b1.out.cell 1
 have c2 := b1.out.cell 2
 have c3 := b1.out.cell 3
 have c4 := b1.out.cell 4
 have c5 := b1.out.cell 5
 clear hk1
 rw [show inB 3 1 11 = true from by decide]
 go_wp2_with fail
 refine (l4In_any _ _ _ _).mono ?_
 rintro e w2 ⟨rfl, hk2⟩
 have HK2 := hid (HK1.out.trans hk2)
 have b2 := hid (b1.out.same hk2)
 have d0 := b2.out.cell 0
 have d1 := b2.out.cell 1
 have d2 := b2.out.cell 2
 have d3 := b2.out.cell 3
 have d4 := b2.out.cell 4
 have d5 := b2.out.cell 5
 clear hk2
 rw [show inB 0 (-1) 1000000 = true from by decide]
 go_wp2
 go_ret
 exact ⟨rfl, HK2.out⟩
theorem specStep_4 (t i c : Int) (da : Option Addr) (nd dc : Nat) (ka : Option Addr) (nk kc : Nat) (w : World) (hn : nd ≤ maxLen) (hm : nk ≤ maxLen) : Calls Tryd.prog 18 #[.agg #[.int .i64 4, .int .i64 t, .int .i64 i, .int .i64 c, .slice da nd dc, .slice ka nk kc]] w fun e w' => e = .returned (.int .i64 (stepF 4 t i c nd nk)) ∧ Same w w' := by
 unfold maxLen at hn hm
 by_cases hnd : nd = 0
 case neg =>
  have hnd' : 0 < (nd : Int) := by omega
  rw [show stepF 4 t i c nd nk = 2 from by unfold stepF stepOK; rw [if_neg (by omega), if_pos (by omega)]]
  have HK0 := hid (sameA w [.int .i64 4, .int .i64 t, .int .i64 i, .int .i64 c, .slice da nd dc, .slice ka nk kc] 61)
  have b0 := hid (Blk.newL w [.int .i64 4, .int .i64 t, .int .i64 i, .int .i64 c, .slice da nd dc, .slice ka nk kc] 61)
  go_enter Tryd.func18, Tryd.ntmps18
  go_wp2_with fail
  refine (l4In_any _ _ _ _).mono ?_
  rintro e w1 ⟨rfl, hk1⟩
  have HK1 := hid (HK0.out.trans hk1)
  have b1 := hid (b0.out.same hk1)
  have c0 := b1.out.cell 0
  have c1 := b1.out.cell 1
  have c2 := b1.out.cell 2
  have c3 := b1.out.cell 3
  have c4 := b1.out.cell 4
  have c5 := b1.out.cell 5
  clear hk1
  rw [show inB 4 1 11 = true from by decide]
  go_wp2
  go_ret
  exact ⟨rfl, HK1.out⟩
 subst hnd
 by_cases hnk : nk = 0
 case neg =>
  have hnk' : 0 < (nk : Int) := by omega
  rw [show stepF 4 t i c 0 nk = 2 from by unfold stepF stepOK; rw [if_neg (by omega), if_pos (by omega)]]
  have HK0 := hid (sameA w [.int .i64 4, .int .i64 t, .int .i64 i, .int .i64 c, .slice da 0 dc, .slice ka nk kc] 61)
  have b0 := hid (Blk.newL w [.int .i64 4, .int .i64 t, .int .i64 i, .int .i64 c, .slice da 0 dc, .slice ka nk kc] 61)
  go_enter Tryd.func18, Tryd.ntmps18
  go_wp2_with fail
  refine (l4In_any _ _ _ _).mono ?_
  rintro e w1 ⟨rfl, hk1⟩
  have HK1 := hid (HK0.out.trans hk1)
  have b1 := hid (b0.out.same hk1)
  have c0 := b1.out.cell 0
  have c1 := b1.out.cell 1
  have c2 := b1.out.cell 2
  have c3 := b1.out.cell 3
  have c4 := b1.out.cell 4
  have c5 := b1.out.cell 5
  clear hk1
  rw [show inB 4 1 11 = true from by decide]
  go_wp2
  go_ret
  exact ⟨rfl, HK1.out⟩
 subst hnk
 by_cases hc : c = 0
 case neg =>
  rw [show stepF 4 t i c 0 0 = 2 from by unfold stepF stepOK; rw [if_neg (by omega), if_pos (by omega)]]
  have HK0 := hid (sameA w [.int .i64 4, .int .i64 t, .int .i64 i, .int .i64 c, .slice da 0 dc, .slice ka 0 kc] 61)
  have b0 := hid (Blk.newL w [.int .i64 4, .int .i64 t, .int .i64 i, .int .i64 c, .slice da 0 dc, .slice ka 0 kc] 61)
  go_enter Tryd.func18, Tryd.ntmps18
  go_wp2_with fail
  refine (l4In_any _ _ _ _).mono ?_
  rintro e w1 ⟨rfl, hk1⟩
  have HK1 := hid (HK0.out.trans hk1)
  have b1 := hid (b0.out.same hk1)
  have c0 := b1.out.cell 0
  have c1 := b1.out.cell 1
  have c2 := b1.out.cell 2
  have c3 := b1.out.cell 3
  have c4 := b1.out.cell 4
  have c5 := b1.out.cell 5
  clear hk1
  rw [show inB 4 1 11 = true from by decide]
  go_wp2
  go_ret
  exact ⟨rfl, HK1.out⟩
 subst hc
 have HK0 := hid (sameA w [.int .i64 4, .int .i64 t, .int .i64 i, .int .i64 0, .slice da 0 dc, .slice ka 0 kc] 61)
 have b0 := hid (Blk.newL w [.int .i64 4, .int .i64 t, .int .i64 i, .int .i64 0, .slice da 0 dc, .slice ka 0 kc] 61)
 rw [show stepF 4 t i 0 0 0 = 0 from by unfold stepF stepOK; rw [if_neg (by omega), if_neg (by omega), if_neg (by omega), if_neg (by omega)]]
 go_enter Tryd.func18, Tryd.ntmps18
 go_wp2_with fail
 refine (l4In_any _ _ _ _).mono ?_
 rintro e w1 ⟨rfl, hk1⟩
 have HK1 := hid (HK0.out.trans hk1)
 have b1 := hid (b0.out.same hk1)
 have c0 := b1.out.cell 0
 have c1 := b1.out.cell 1
 have c2 := b1.out.cell 2
 have c3 := b1.out.cell 3
 have c4 := b1.out.cell 4
 have c5 := b1.out.cell 5
 clear hk1
 rw [show inB 4 1 11 = true from by decide]
 go_wp2_with fail
 refine (l4In_any _ _ _ _).mono ?_
 rintro e w2 ⟨rfl, hk2⟩
 have HK2 := hid (HK1.out.trans hk2)
 have b2 := hid (b1.out.same hk2)
 have d0 := b2.out.cell 0
 have d1 := b2.out.cell 1
 have d2 := b2.out.cell 2
 have d3 := b2.out.cell 3
 have d4 := b2.out.cell 4
 have d5 := b2.out.cell 5
 clear hk2
 rw [show inB 0 (-1) 1000000 = true from by decide]
 go_wp2
 go_ret
 exact ⟨rfl, HK2.out⟩
theorem specStep_5 (t i c : Int) (da : Option Addr) (nd dc : Nat) (ka : Option Addr) (nk kc : Nat) (w : World) (hn : nd ≤ maxLen) (hm : nk ≤ maxLen) : Calls Tryd.prog 18 #[.agg #[.int .i64 5, .int .i64 t, .int .i64 i, .int .i64 c, .slice da nd dc, .slice ka nk kc]] w fun e w' => e = .returned (.int .i64 (stepF 5 t i c nd nk)) ∧ Same w w' := by
 unfold maxLen at hn hm
 by_cases hnd : nd = 0
 case neg =>
  have hnd' : 0 < (nd : Int) := by omega
  rw [show stepF 5 t i c nd nk = 2 from by unfold stepF stepOK; rw [if_neg (by omega), if_pos (by omega)]]
  have HK0 := hid (sameA w [.int .i64 5, .int .i64 t, .int .i64 i, .int .i64 c, .slice da nd dc, .slice ka nk kc] 61)
  have b0 := hid (Blk.newL w [.int .i64 5, .int .i64 t, .int .i64 i, .int .i64 c, .slice da nd dc, .slice ka nk kc] 61)
  go_enter Tryd.func18, Tryd.ntmps18
  go_wp2_with fail
  refine (l4In_any _ _ _ _).mono ?_
  rintro e w1 ⟨rfl, hk1⟩
  have HK1 := hid (HK0.out.trans hk1)
  have b1 := hid (b0.out.same hk1)
  have c0 := b1.out.cell 0
  have c1 := b1.out.cell 1
  have c2 := b1.out.cell 2
  have c3 := b1.out.cell 3
  have c4 := b1.out.cell 4
  have c5 := b1.out.cell 5
  clear hk1
  rw [show inB 5 1 11 = true from by decide]
  go_wp2
  go_ret
  exact ⟨rfl, HK1.out⟩
 subst hnd
 by_cases hnk : nk = 0
 case neg =>
  have hnk' : 0 < (nk : Int) := by omega
  rw [show stepF 5 t i c 0 nk = 2 from by unfold stepF stepOK; rw [if_neg (by omega), if_pos (by omega)]]
  have HK0 := hid (sameA w [.int .i64 5, .int .i64 t, .int .i64 i, .int .i64 c, .slice da 0 dc, .slice ka nk kc] 61)
  have b0 := hid (Blk.newL w [.int .i64 5, .int .i64 t, .int .i64 i, .int .i64 c, .slice da 0 dc, .slice ka nk kc] 61)
  go_enter Tryd.func18, Tryd.ntmps18
  go_wp2_with fail
  refine (l4In_any _ _ _ _).mono ?_
  rintro e w1 ⟨rfl, hk1⟩
  have HK1 := hid (HK0.out.trans hk1)
  have b1 := hid (b0.out.same hk1)
  have c0 := b1.out.cell 0
  have c1 := b1.out.cell 1
  have c2 := b1.out.cell 2
  have c3 := b1.out.cell 3
  have c4 := b1.out.cell 4
  have c5 := b1.out.cell 5
  clear hk1
  rw [show inB 5 1 11 = true from by decide]
  go_wp2
  go_ret
  exact ⟨rfl, HK1.out⟩
 subst hnk
 by_cases hc : c = 0
 case neg =>
  rw [show stepF 5 t i c 0 0 = 2 from by unfold stepF stepOK; rw [if_neg (by omega), if_pos (by omega)]]
  have HK0 := hid (sameA w [.int .i64 5, .int .i64 t, .int .i64 i, .int .i64 c, .slice da 0 dc, .slice ka 0 kc] 61)
  have b0 := hid (Blk.newL w [.int .i64 5, .int .i64 t, .int .i64 i, .int .i64 c, .slice da 0 dc, .slice ka 0 kc] 61)
  go_enter Tryd.func18, Tryd.ntmps18
  go_wp2_with fail
  refine (l4In_any _ _ _ _).mono ?_
  rintro e w1 ⟨rfl, hk1⟩
  have HK1 := hid (HK0.out.trans hk1)
  have b1 := hid (b0.out.same hk1)
  have c0 := b1.out.cell 0
  have c1 := b1.out.cell 1
  have c2 := b1.out.cell 2
  have c3 := b1.out.cell 3
  have c4 := b1.out.cell 4
  have c5 := b1.out.cell 5
  clear hk1
  rw [show inB 5 1 11 = true from by decide]
  go_wp2
  go_ret
  exact ⟨rfl, HK1.out⟩
 subst hc
 have HK0 := hid (sameA w [.int .i64 5, .int .i64 t, .int .i64 i, .int .i64 0, .slice da 0 dc, .slice ka 0 kc] 61)
 have b0 := hid (Blk.newL w [.int .i64 5, .int .i64 t, .int .i64 i, .int .i64 0, .slice da 0 dc, .slice ka 0 kc] 61)
 rw [show stepF 5 t i 0 0 0 = 0 from by unfold stepF stepOK; rw [if_neg (by omega), if_neg (by omega), if_neg (by omega), if_neg (by omega)]]
 go_enter Tryd.func18, Tryd.ntmps18
 go_wp2_with fail
 refine (l4In_any _ _ _ _).mono ?_
 rintro e w1 ⟨rfl, hk1⟩
 have HK1 := hid (HK0.out.trans hk1)
 have b1 := hid (b0.out.same hk1)
 have c0 := b1.out.cell 0
 have c1 := b1.out.cell 1
 have c2 := b1.out.cell 2
 have c3 := b1.out.cell 3
 have c4 := b1.out.cell 4
 have c5 := b1.out.cell 5
 clear hk1
 rw [show inB 5 1 11 = true from by decide]
 go_wp2_with fail
 refine (l4In_any _ _ _ _).mono ?_
 rintro e w2 ⟨rfl, hk2⟩
 have HK2 := hid (HK1.out.trans hk2)
 have b2 := hid (b1.out.same hk2)
 have d0 := b2.out.cell 0
 have d1 := b2.out.cell 1
 have d2 := b2.out.cell 2
 have d3 := b2.out.cell 3
 have d4 := b2.out.cell 4
 have d5 := b2.out.cell 5
 clear hk2
 rw [show inB 0 (-1) 1000000 = true from by decide]
 go_wp2
 go_ret
 exact ⟨rfl, HK2.out⟩
theorem specStep_6 (t i c : Int) (da : Option Addr) (nd dc : Nat) (ka : Option Addr) (nk kc : Nat) (w : World) (hn : nd ≤ maxLen) (hm : nk ≤ maxLen) : Calls Tryd.prog 18 #[.agg #[.int .i64 6, .int .i64 t, .int .i64 i, .int .i64 c, .slice da nd dc, .slice ka nk kc]] w fun e w' => e = .returned (.int .i64 (stepF 6 t i c nd nk)) ∧ Same w w' := by
 unfold maxLen at hn hm
 by_cases hi : i = 0
 case neg =>
  rw [show stepF 6 t i c nd nk = 2 from by unfold stepF stepOK; rw [if_neg (by omega), if_pos (by omega)]]
  have HK0 := hid (sameA w [.int .i64 6, .int .i64 t, .int .i64 i, .int .i64 c, .slice da nd dc, .slice ka nk kc] 61)
  have b0 := hid (Blk.newL w [.int .i64 6, .int .i64 t, .int .i64 i, .int .i64 c, .slice da nd dc, .slice ka nk kc] 61)
  go_enter Tryd.func18, Tryd.ntmps18
  go_wp2_with fail
  refine (l4In_any _ _ _ _).mono ?_
  rintro e w1 ⟨rfl, hk1⟩
  have HK1 := hid (HK0.out.trans hk1)
  have b1 := hid (b0.out.same hk1)
  have c0 := b1.out.cell 0
  have c1 := b1.out.cell 1
  have c2 := b1.out.cell 2
  have c3 := b1.out.cell 3
  have c4 := b1.out.cell 4
  have c5 := b1.out.cell 5
  clear hk1
  rw [show inB 6 1 11 = true from by decide]
  go_wp2
  go_ret
  exact ⟨rfl, HK1.out⟩
 subst hi
 by_cases hnd : nd = 0
 case neg =>
  have hnd' : 0 < (nd : Int) := by omega
  rw [show stepF 6 t 0 c nd nk = 2 from by unfold stepF stepOK; rw [if_neg (by omega), if_pos (by omega)]]
  have HK0 := hid (sameA w [.int .i64 6, .int .i64 t, .int .i64 0, .int .i64 c, .slice da nd dc, .slice ka nk kc] 61)
  have b0 := hid (Blk.newL w [.int .i64 6, .int .i64 t, .int .i64 0, .int .i64 c, .slice da nd dc, .slice ka nk kc] 61)
  go_enter Tryd.func18, Tryd.ntmps18
  go_wp2_with fail
  refine (l4In_any _ _ _ _).mono ?_
  rintro e w1 ⟨rfl, hk1⟩
  have HK1 := hid (HK0.out.trans hk1)
  have b1 := hid (b0.out.same hk1)
  have c0 := b1.out.cell 0
  have c1 := b1.out.cell 1
  have c2 := b1.out.cell 2
  have c3 := b1.out.cell 3
  have c4 := b1.out.cell 4
  have c5 := b1.out.cell 5
  clear hk1
  rw [show inB 6 1 11 = true from by decide]
  go_wp2
  go_ret
  exact ⟨rfl, HK1.out⟩
 subst hnd
 by_cases hnk : nk = 0
 case neg =>
  have hnk' : 0 < (nk : Int) := by omega
  rw [show stepF 6 t 0 c 0 nk = 2 from by unfold stepF stepOK; rw [if_neg (by omega), if_pos (by omega)]]
  have HK0 := hid (sameA w [.int .i64 6, .int .i64 t, .int .i64 0, .int .i64 c, .slice da 0 dc, .slice ka nk kc] 61)
  have b0 := hid (Blk.newL w [.int .i64 6, .int .i64 t, .int .i64 0, .int .i64 c, .slice da 0 dc, .slice ka nk kc] 61)
  go_enter Tryd.func18, Tryd.ntmps18
  go_wp2_with fail
  refine (l4In_any _ _ _ _).mono ?_
  rintro e w1 ⟨rfl, hk1⟩
  have HK1 := hid (HK0.out.trans hk1)
  have b1 := hid (b0.out.same hk1)
  have c0 := b1.out.cell 0
  have c1 := b1.out.cell 1
  have c2 := b1.out.cell 2
  have c3 := b1.out.cell 3
  have c4 := b1.out.cell 4
  have c5 := b1.out.cell 5
  clear hk1
  rw [show inB 6 1 11 = true from by decide]
  go_wp2
  go_ret
  exact ⟨rfl, HK1.out⟩
 subst hnk
 by_cases hc : c = 0
 case neg =>
  rw [show stepF 6 t 0 c 0 0 = 2 from by unfold stepF stepOK; rw [if_neg (by omega), if_pos (by omega)]]
  have HK0 := hid (sameA w [.int .i64 6, .int .i64 t, .int .i64 0, .int .i64 c, .slice da 0 dc, .slice ka 0 kc] 61)
  have b0 := hid (Blk.newL w [.int .i64 6, .int .i64 t, .int .i64 0, .int .i64 c, .slice da 0 dc, .slice ka 0 kc] 61)
  go_enter Tryd.func18, Tryd.ntmps18
  go_wp2_with fail
  refine (l4In_any _ _ _ _).mono ?_
  rintro e w1 ⟨rfl, hk1⟩
  have HK1 := hid (HK0.out.trans hk1)
  have b1 := hid (b0.out.same hk1)
  have c0 := b1.out.cell 0
  have c1 := b1.out.cell 1
  have c2 := b1.out.cell 2
  have c3 := b1.out.cell 3
  have c4 := b1.out.cell 4
  have c5 := b1.out.cell 5
  clear hk1
  rw [show inB 6 1 11 = true from by decide]
  go_wp2
  go_ret
  exact ⟨rfl, HK1.out⟩
 subst hc
 have HK0 := hid (sameA w [.int .i64 6, .int .i64 t, .int .i64 0, .int .i64 0, .slice da 0 dc, .slice ka 0 kc] 61)
 have b0 := hid (Blk.newL w [.int .i64 6, .int .i64 t, .int .i64 0, .int .i64 0, .slice da 0 dc, .slice ka 0 kc] 61)
 rw [show stepF 6 t 0 0 0 0 = 0 from by unfold stepF stepOK; rw [if_neg (by omega), if_neg (by omega), if_neg (by omega), if_neg (by omega)]]
 go_enter Tryd.func18, Tryd.ntmps18
 go_wp2_with fail
 refine (l4In_any _ _ _ _).mono ?_
 rintro e w1 ⟨rfl, hk1⟩
 have HK1 := hid (HK0.out.trans hk1)
 have b1 := hid (b0.out.same hk1)
 have c0 := b1.out.cell 0
 have c1 := b1.out.cell 1
 have c2 := b1.out.cell 2
 have c3 := b1.out.cell 3
 have c4 := b1.out.cell 4
 have c5 := b1.out.cell 5
 clear hk1
 rw [show inB 6 1 11 = true from by decide]
 go_wp2_with fail
 refine (l4In_any _ _ _ _).mono ?_
 rintro e w2 ⟨rfl, hk2⟩
 have HK2 := hid (HK1.out.trans hk2)
 have b2 := hid (b1.out.same hk2)
 have d0 := b2.out.cell 0
 have d1 := b2.out.cell 1
 have d2 := b2.out.cell 2
 have d3 := b2.out.cell 3
 have d4 := b2.out.cell 4
 have d5 := b2.out.cell 5
 clear hk2
 rw [show inB 0 (-1) 1000000 = true from by decide]
 go_wp2
 go_ret
 exact ⟨rfl, HK2.out⟩
theorem specStep_7 (t i c : Int) (da : Option Addr) (nd dc : Nat) (ka : Option Addr) (nk kc : Nat) (w : World) (hn : nd ≤ maxLen) (hm : nk ≤ maxLen) : Calls Tryd.prog 18 #[.agg #[.int .i64 7, .int .i64 t, .int .i64 i, .int .i64 c, .slice da nd dc, .slice ka nk kc]] w fun e w' => e = .returned (.int .i64 (stepF 7 t i c nd nk)) ∧ Same w w' := by
 unfold maxLen at hn hm
 by_cases hi : i = 0
 case neg =>
  rw [show stepF 7 t i c nd nk = 2 from by unfold stepF stepOK; rw [if_neg (by omega), if_pos (by omega)]]
  have HK0 := hid (sameA w [.int .i64 7, .int .i64 t, .int .i64 i, .int .i64 c, .slice da nd dc, .slice ka nk kc] 61)
  have b0 := hid (Blk.newL w [.int .i64 7, .int .i64 t, .int .i64 i, .int .i64 c, .slice da nd dc, .slice ka nk kc] 61)
  go_enter Tryd.func18, Tryd.ntmps18
  go_wp2_with fail
  refine (l4In_any _ _ _ _).mono ?_
  rintro e w1 ⟨rfl, hk1⟩
  have HK1 := hid (HK0.out.trans hk1)
  have b1 := hid (b0.out.same hk1)
  have c0 := b1.out.cell 0
  have c1 := b1.out.cell 1
  have c2 := b1.out.cell 2
  have c3 := b1.out.cell 3
  have c4 := b1.out.cell 4
  have c5 := b1.out.cell 5
  clear hk1
  rw [show inB 7 1 11 = true from by decide]
  go_wp2
  go_ret
  exact ⟨rfl, HK1.out⟩
 subst hi
 by_cases hnd : nd = 0
 case neg =>
  have hnd' : 0 < (nd : Int) := by omega
  rw [show stepF 7 t 0 c nd nk = 2 from by unfold stepF stepOK; rw [if_neg (by omega), if_pos (by omega)]]
  have HK0 := hid (sameA w [.int .i64 7, .int .i64 t, .int .i64 0, .int .i64 c, .slice da nd dc, .slice ka nk kc] 61)
  have b0 := hid (Blk.newL w [.int .i64 7, .int .i64 t, .int .i64 0, .int .i64 c, .slice da nd dc, .slice ka nk kc] 61)
  go_enter Tryd.func18, Tryd.ntmps18
  go_wp2_with fail
  refine (l4In_any _ _ _ _).mono ?_
  rintro e w1 ⟨rfl, hk1⟩
  have HK1 := hid (HK0.out.trans hk1)
  have b1 := hid (b0.out.same hk1)
  have c0 := b1.out.cell 0
  have c1 := b1.out.cell 1
  have c2 := b1.out.cell 2
  have c3 := b1.out.cell 3
  have c4 := b1.out.cell 4
  have c5 := b1.out.cell 5
  clear hk1
  rw [show inB 7 1 11 = true from by decide]
  go_wp2
  go_ret
  exact ⟨rfl, HK1.out⟩
 subst hnd
 by_cases hnk : nk = 0
 case neg =>
  have hnk' : 0 < (nk : Int) := by omega
  rw [show stepF 7 t 0 c 0 nk = 2 from by unfold stepF stepOK; rw [if_neg (by omega), if_pos (by omega)]]
  have HK0 := hid (sameA w [.int .i64 7, .int .i64 t, .int .i64 0, .int .i64 c, .slice da 0 dc, .slice ka nk kc] 61)
  have b0 := hid (Blk.newL w [.int .i64 7, .int .i64 t, .int .i64 0, .int .i64 c, .slice da 0 dc, .slice ka nk kc] 61)
  go_enter Tryd.func18, Tryd.ntmps18
  go_wp2_with fail
  refine (l4In_any _ _ _ _).mono ?_
  rintro e w1 ⟨rfl, hk1⟩
  have HK1 := hid (HK0.out.trans hk1)
  have b1 := hid (b0.out.same hk1)
  have c0 := b1.out.cell 0
  have c1 := b1.out.cell 1
  have c2 := b1.out.cell 2
  have c3 := b1.out.cell 3
  have c4 := b1.out.cell 4
  have c5 := b1.out.cell 5
  clear hk1
  rw [show inB 7 1 11 = true from by decide]
  go_wp2
  go_ret
  exact ⟨rfl, HK1.out⟩
 subst hnk
 by_cases hc : c = 0
 case neg =>
  rw [show stepF 7 t 0 c 0 0 = 2 from by unfold stepF stepOK; rw [if_neg (by omega), if_pos (by omega)]]
  have HK0 := hid (sameA w [.int .i64 7, .int .i64 t, .int .i64 0, .int .i64 c, .slice da 0 dc, .slice ka 0 kc] 61)
  have b0 := hid (Blk.newL w [.int .i64 7, .int .i64 t, .int .i64 0, .int .i64 c, .slice da 0 dc, .slice ka 0 kc] 61)
  go_enter Tryd.func18, Tryd.ntmps18
  go_wp2_with fail
  refine (l4In_any _ _ _ _).mono ?_
  rintro e w1 ⟨rfl, hk1⟩
  have HK1 := hid (HK0.out.trans hk1)
  have b1 := hid (b0.out.same hk1)
  have c0 := b1.out.cell 0
  have c1 := b1.out.cell 1
  have c2 := b1.out.cell 2
  have c3 := b1.out.cell 3
  have c4 := b1.out.cell 4
  have c5 := b1.out.cell 5
  clear hk1
  rw [show inB 7 1 11 = true from by decide]
  go_wp2
  go_ret
  exact ⟨rfl, HK1.out⟩
 subst hc
 have HK0 := hid (sameA w [.int .i64 7, .int .i64 t, .int .i64 0, .int .i64 0, .slice da 0 dc, .slice ka 0 kc] 61)
 have b0 := hid (Blk.newL w [.int .i64 7, .int .i64 t, .int .i64 0, .int .i64 0, .slice da 0 dc, .slice ka 0 kc] 61)
 rw [show stepF 7 t 0 0 0 0 = 0 from by unfold stepF stepOK; rw [if_neg (by omega), if_neg (by omega), if_neg (by omega), if_neg (by omega)]]
 go_enter Tryd.func18, Tryd.ntmps18
 go_wp2_with fail
 refine (l4In_any _ _ _ _).mono ?_
 rintro e w1 ⟨rfl, hk1⟩
 have HK1 := hid (HK0.out.trans hk1)
 have b1 := hid (b0.out.same hk1)
 have c0 := b1.out.cell 0
 have c1 := b1.out.cell 1
 have c2 := b1.out.cell 2
 have c3 := b1.out.cell 3
 have c4 := b1.out.cell 4
 have c5 := b1.out.cell 5
 clear hk1
 rw [show inB 7 1 11 = true from by decide]
 go_wp2_with fail
 refine (l4In_any _ _ _ _).mono ?_
 rintro e w2 ⟨rfl, hk2⟩
 have HK2 := hid (HK1.out.trans hk2)
 have b2 := hid (b1.out.same hk2)
 have d0 := b2.out.cell 0
 have d1 := b2.out.cell 1
 have d2 := b2.out.cell 2
 have d3 := b2.out.cell 3
 have d4 := b2.out.cell 4
 have d5 := b2.out.cell 5
 clear hk2
 rw [show inB 0 (-1) 1000000 = true from by decide]
 go_wp2
 go_ret
 exact ⟨rfl, HK2.out⟩
theorem specStep_8 (t i c : Int) (da : Option Addr) (nd dc : Nat) (ka : Option Addr) (nk kc : Nat) (w : World) (hn : nd ≤ maxLen) (hm : nk ≤ maxLen) : Calls Tryd.prog 18 #[.agg #[.int .i64 8, .int .i64 t, .int .i64 i, .int .i64 c, .slice da nd dc, .slice ka nk kc]] w fun e w' => e = .returned (.int .i64 (stepF 8 t i c nd nk)) ∧ Same w w' := by
 unfold maxLen at hn hm
 by_cases ht : t = 0
 case neg =>
  rw [show stepF 8 t i c nd nk = 2 from by unfold stepF stepOK; rw [if_neg (by omega), if_pos (by omega)]]
  have HK0 := hid (sameA w [.int .i64 8, .int .i64 t, .int .i64 i, .int .i64 c, .slice da nd dc, .slice ka nk kc] 61)
  have b0 := hid (Blk.newL w [.int .i64 8, .int .i64 t, .int .i64 i, .int .i64 c, .slice da nd dc, .slice ka nk kc] 61)
  go_enter Tryd.func18, Tryd.ntmps18
  go_wp2_with fail
  refine (l4In_any _ _ _ _).mono ?_
  rintro e w1 ⟨rfl, hk1⟩
  have HK1 := hid (HK0.out.trans hk1)
  have b1 := hid (b0.out.same hk1)
  have c0 := b1.out.cell 0
  have c1 := b1.out.cell 1
  have c2 := b1.out.cell 2
  have c3 := b1.out.cell 3
  have c4 := b1.out.cell 4
  have c5 := b1.out.cell 5
  clear hk1
  rw [show inB 8 1 11 = true from by decide]
  go_wp2
  go_ret
  exact ⟨rfl, HK1.out⟩
 subst ht
 by_cases hi : i = 0
 case neg =>
  rw [show stepF 8 0 i c nd nk = 2 from by unfold stepF stepOK; rw [if_neg (by omega), if_pos (by omega)]]
  have HK0 := hid (sameA w [.int .i64 8, .int .i64 0, .int .i64 i, .int .i64 c, .slice da nd dc, .slice ka nk kc] 61)
  have b0 := hid (Blk.newL w [.int .i64 8, .int .i64 0, .int .i64 i, .int .i64 c, .slice da nd dc, .slice ka nk kc] 61)
  go_enter Tryd.func18, Tryd.ntmps18
  go_wp2_with fail
  refine (l4In_any _ _ _ _).mono ?_
  rintro e w1 ⟨rfl, hk1⟩
  have HK1 := hid (HK0.out.trans hk1)
  have b1 := hid (b0.out.same hk1)
  have c0 := b1.out.cell 0
  have c1 := b1.out.cell 1
  have c2 := b1.out.cell 2
  have c3 := b1.out.cell 3
  have c4 := b1.out.cell 4
  have c5 := b1.out.cell 5
  clear hk1
  rw [show inB 8 1 11 = true from by decide]
  go_wp2
  go_ret
  exact ⟨rfl, HK1.out⟩
 subst hi
 by_cases hnd : nd = 0
 case neg =>
  have hnd' : 0 < (nd : Int) := by omega
  rw [show stepF 8 0 0 c nd nk = 2 from by unfold stepF stepOK; rw [if_neg (by omega), if_pos (by omega)]]
  have HK0 := hid (sameA w [.int .i64 8, .int .i64 0, .int .i64 0, .int .i64 c, .slice da nd dc, .slice ka nk kc] 61)
  have b0 := hid (Blk.newL w [.int .i64 8, .int .i64 0, .int .i64 0, .int .i64 c, .slice da nd dc, .slice ka nk kc] 61)
  go_enter Tryd.func18, Tryd.ntmps18
  go_wp2_with fail
  refine (l4In_any _ _ _ _).mono ?_
  rintro e w1 ⟨rfl, hk1⟩
  have HK1 := hid (HK0.out.trans hk1)
  have b1 := hid (b0.out.same hk1)
  have c0 := b1.out.cell 0
  have c1 := b1.out.cell 1
  have c2 := b1.out.cell 2
  have c3 := b1.out.cell 3
  have c4 := b1.out.cell 4
  have c5 := b1.out.cell 5
  clear hk1
  rw [show inB 8 1 11 = true from by decide]
  go_wp2
  go_ret
  exact ⟨rfl, HK1.out⟩
 subst hnd
 by_cases hnk : nk = 0
 case neg =>
  have hnk' : 0 < (nk : Int) := by omega
  rw [show stepF 8 0 0 c 0 nk = 2 from by unfold stepF stepOK; rw [if_neg (by omega), if_pos (by omega)]]
  have HK0 := hid (sameA w [.int .i64 8, .int .i64 0, .int .i64 0, .int .i64 c, .slice da 0 dc, .slice ka nk kc] 61)
  have b0 := hid (Blk.newL w [.int .i64 8, .int .i64 0, .int .i64 0, .int .i64 c, .slice da 0 dc, .slice ka nk kc] 61)
  go_enter Tryd.func18, Tryd.ntmps18
  go_wp2_with fail
  refine (l4In_any _ _ _ _).mono ?_
  rintro e w1 ⟨rfl, hk1⟩
  have HK1 := hid (HK0.out.trans hk1)
  have b1 := hid (b0.out.same hk1)
  have c0 := b1.out.cell 0
  have c1 := b1.out.cell 1
  have c2 := b1.out.cell 2
  have c3 := b1.out.cell 3
  have c4 := b1.out.cell 4
  have c5 := b1.out.cell 5
  clear hk1
  rw [show inB 8 1 11 = true from by decide]
  go_wp2
  go_ret
  exact ⟨rfl, HK1.out⟩
 subst hnk
 by_cases hc : c = 0
 case neg =>
  rw [show stepF 8 0 0 c 0 0 = 2 from by unfold stepF stepOK; rw [if_neg (by omega), if_pos (by omega)]]
  have HK0 := hid (sameA w [.int .i64 8, .int .i64 0, .int .i64 0, .int .i64 c, .slice da 0 dc, .slice ka 0 kc] 61)
  have b0 := hid (Blk.newL w [.int .i64 8, .int .i64 0, .int .i64 0, .int .i64 c, .slice da 0 dc, .slice ka 0 kc] 61)
  go_enter Tryd.func18, Tryd.ntmps18
  go_wp2_with fail
  refine (l4In_any _ _ _ _).mono ?_
  rintro e w1 ⟨rfl, hk1⟩
  have HK1 := hid (HK0.out.trans hk1)
  have b1 := hid (b0.out.same hk1)
  have c0 := b1.out.cell 0
  have c1 := b1.out.cell 1
  have c2 := b1.out.cell 2
  have c3 := b1.out.cell 3
  have c4 := b1.out.cell 4
  have c5 := b1.out.cell 5
  clear hk1
  rw [show inB 8 1 11 = true from by decide]
  go_wp2
  go_ret
  exact ⟨rfl, HK1.out⟩
 subst hc
 have HK0 := hid (sameA w [.int .i64 8, .int .i64 0, .int .i64 0, .int .i64 0, .slice da 0 dc, .slice ka 0 kc] 61)
 have b0 := hid (Blk.newL w [.int .i64 8, .int .i64 0, .int .i64 0, .int .i64 0, .slice da 0 dc, .slice ka 0 kc] 61)
 rw [show stepF 8 0 0 0 0 0 = 0 from by unfold stepF stepOK; rw [if_neg (by omega), if_neg (by omega), if_neg (by omega), if_neg (by omega)]]
 go_enter Tryd.func18, Tryd.ntmps18
 go_wp2_with fail
 refine (l4In_any _ _ _ _).mono ?_
 rintro e w1 ⟨rfl, hk1⟩
 have HK1 := hid (HK0.out.trans hk1)
 have b1 := hid (b0.out.same hk1)
 have c0 := b1.out.cell 0
 have c1 := b1.out.cell 1
 have c2 := b1.out.cell 2
 have c3 := b1.out.cell 3
 have c4 := b1.out.cell 4
 have c5 := b1.out.cell 5
 clear hk1
 rw [show inB 8 1 11 = true from by decide]
 go_wp2_with fail
 refine (l4In_any _ _ _ _).mono ?_
 rintro e w2 ⟨rfl, hk2⟩
 have HK2 := hid (HK1.out.trans hk2)
 have b2 := hid (b1.out.same hk2)
 have d0 := b2.out.cell 0
 have d1 := b2.out.cell 1
 have d2 := b2.out.cell 2
 have d3 := b2.out.cell 3
 have d4 := b2.out.cell 4
 have d5 := b2.out.cell 5
 clear hk2
 rw [show inB 0 (-1) 1000000 = true from by decide]
 go_wp2
 go_ret
 exact ⟨rfl, HK2.out⟩
theorem specStep_9 (t i c : Int) (da : Option Addr) (nd dc : Nat) (ka : Option Addr) (nk kc : Nat) (w : World) (hn : nd ≤ maxLen) (hm : nk ≤ maxLen) : Calls Tryd.prog 18 #[.agg #[.int .i64 9, .int .i64 t, .int .i64 i, .int .i64 c, .slice da nd dc, .slice ka nk kc]] w fun e w' => e = .returned (.int .i64 (stepF 9 t i c nd nk)) ∧ Same w w' := by
 unfold maxLen at hn hm
 by_cases ht : t = 0
 case neg =>
  rw [show stepF 9 t i c nd nk = 2 from by unfold stepF stepOK; rw [if_neg (by omega), if_pos (by omega)]]
  have HK0 := hid (sameA w [.int .i64 9, .int .i64 t, .int .i64 i, .int .i64 c, .slice da nd dc, .slice ka nk kc] 61)
  have b0 := hid (Blk.newL w [.int .i64 9, .int .i64 t, .int .i64 i, .int .i64 c, .slice da nd dc, .slice ka nk kc] 61)
  go_enter Tryd.func18, Tryd.ntmps18
  go_wp2_with fail
  refine (l4In_any _ _ _ _).mono ?_
  rintro e w1 ⟨rfl, hk1⟩
  have HK1 := hid (HK0.out.trans hk1)
  have b1 := hid (b0.out.same hk1)
  have c0 := b1.out.cell 0
  have c1 := b1.out.cell 1
  have c2 := b1.out.cell 2
  have c3 := b1.out.cell 3
  have c4 := b1.out.cell 4
  have c5 := b1.out.cell 5
  clear hk1
  rw [show inB 9 1 11 = true from by decide]
  go_wp2
  go_ret
  exact ⟨rfl, HK1.out⟩
 subst ht
 by_cases hi : i = 0
 case neg =>
  rw [show stepF 9 0 i c nd nk = 2 from by unfold stepF stepOK; rw [if_neg (by omega), if_pos (by omega)]]
  have HK0 := hid (sameA w [.int .i64 9, .int .i64 0, .int .i64 i, .int .i64 c, .slice da nd dc, .slice ka nk kc] 61)
  have b0 := hid (Blk.newL w [.int .i64 9, .int .i64 0, .int .i64 i, .int .i64 c, .slice da nd dc, .slice ka nk kc] 61)
  go_enter Tryd.func18, Tryd.ntmps18
  go_wp2_with fail
  refine (l4In_any _ _ _ _).mono ?_
  rintro e w1 ⟨rfl, hk1⟩
  have HK1 := hid (HK0.out.trans hk1)
  have b1 := hid (b0.out.same hk1)
  have c0 := b1.out.cell 0
  have c1 := b1.out.cell 1
  have c2 := b1.out.cell 2
  have c3 := b1.out.cell 3
  have c4 := b1.out.cell 4
  have c5 := b1.out.cell 5
  clear hk1
  rw [show inB 9 1 11 = true from by decide]
  go_wp2
  go_ret
  exact ⟨rfl, HK1.out⟩
 subst hi
 by_cases hnd : nd = 0
 case neg =>
  have hnd' : 0 < (nd : Int) := by omega
  rw [show stepF 9 0 0 c nd nk = 2 from by unfold stepF stepOK; rw [if_neg (by omega), if_pos (by omega)]]
  have HK0 := hid (sameA w [.int .i64 9, .int .i64 0, .int .i64 0, .int .i64 c, .slice da nd dc, .slice ka nk kc] 61)
  have b0 := hid (Blk.newL w [.int .i64 9, .int .i64 0, .int .i64 0, .int .i64 c, .slice da nd dc, .slice ka nk kc] 61)
  go_enter Tryd.func18, Tryd.ntmps18
  go_wp2_with fail
  refine (l4In_any _ _ _ _).mono ?_
  rintro e w1 ⟨rfl, hk1⟩
  have HK1 := hid (HK0.out.trans hk1)
  have b1 := hid (b0.out.same hk1)
  have c0 := b1.out.cell 0
  have c1 := b1.out.cell 1
  have c2 := b1.out.cell 2
  have c3 := b1.out.cell 3
  have c4 := b1.out.cell 4
  have c5 := b1.out.cell 5
  clear hk1
  rw [show inB 9 1 11 = true from by decide]
  go_wp2
  go_ret
  exact ⟨rfl, HK1.out⟩
 subst hnd
 by_cases hnk : nk = 0
 case neg =>
  have hnk' : 0 < (nk : Int) := by omega
  rw [show stepF 9 0 0 c 0 nk = 2 from by unfold stepF stepOK; rw [if_neg (by omega), if_pos (by omega)]]
  have HK0 := hid (sameA w [.int .i64 9, .int .i64 0, .int .i64 0, .int .i64 c, .slice da 0 dc, .slice ka nk kc] 61)
  have b0 := hid (Blk.newL w [.int .i64 9, .int .i64 0, .int .i64 0, .int .i64 c, .slice da 0 dc, .slice ka nk kc] 61)
  go_enter Tryd.func18, Tryd.ntmps18
  go_wp2_with fail
  refine (l4In_any _ _ _ _).mono ?_
  rintro e w1 ⟨rfl, hk1⟩
  have HK1 := hid (HK0.out.trans hk1)
  have b1 := hid (b0.out.same hk1)
  have c0 := b1.out.cell 0
  have c1 := b1.out.cell 1
  have c2 := b1.out.cell 2
  have c3 := b1.out.cell 3
  have c4 := b1.out.cell 4
  have c5 := b1.out.cell 5
  clear hk1
  rw [show inB 9 1 11 = true from by decide]
  go_wp2
  go_ret
  exact ⟨rfl, HK1.out⟩
 subst hnk
 by_cases hc : c = 0
 case neg =>
  rw [show stepF 9 0 0 c 0 0 = 2 from by unfold stepF stepOK; rw [if_neg (by omega), if_pos (by omega)]]
  have HK0 := hid (sameA w [.int .i64 9, .int .i64 0, .int .i64 0, .int .i64 c, .slice da 0 dc, .slice ka 0 kc] 61)
  have b0 := hid (Blk.newL w [.int .i64 9, .int .i64 0, .int .i64 0, .int .i64 c, .slice da 0 dc, .slice ka 0 kc] 61)
  go_enter Tryd.func18, Tryd.ntmps18
  go_wp2_with fail
  refine (l4In_any _ _ _ _).mono ?_
  rintro e w1 ⟨rfl, hk1⟩
  have HK1 := hid (HK0.out.trans hk1)
  have b1 := hid (b0.out.same hk1)
  have c0 := b1.out.cell 0
  have c1 := b1.out.cell 1
  have c2 := b1.out.cell 2
  have c3 := b1.out.cell 3
  have c4 := b1.out.cell 4
  have c5 := b1.out.cell 5
  clear hk1
  rw [show inB 9 1 11 = true from by decide]
  go_wp2
  go_ret
  exact ⟨rfl, HK1.out⟩
 subst hc
 have HK0 := hid (sameA w [.int .i64 9, .int .i64 0, .int .i64 0, .int .i64 0, .slice da 0 dc, .slice ka 0 kc] 61)
 have b0 := hid (Blk.newL w [.int .i64 9, .int .i64 0, .int .i64 0, .int .i64 0, .slice da 0 dc, .slice ka 0 kc] 61)
 rw [show stepF 9 0 0 0 0 0 = 0 from by unfold stepF stepOK; rw [if_neg (by omega), if_neg (by omega), if_neg (by omega), if_neg (by omega)]]
 go_enter Tryd.func18, Tryd.ntmps18
 go_wp2_with fail
 refine (l4In_any _ _ _ _).mono ?_
 rintro e w1 ⟨rfl, hk1⟩
 have HK1 := hid (HK0.out.trans hk1)
 have b1 := hid (b0.out.same hk1)
 have c0 := b1.out.cell 0
 have c1 := b1.out.cell 1
 have c2 := b1.out.cell 2
 have c3 := b1.out.cell 3
 have c4 := b1.out.cell 4
 have c5 := b1.out.cell 5
 clear hk1
 rw [show inB 9 1 11 = true from by decide]
 go_wp2_with fail
 refine (l4In_any _ _ _ _).mono ?_
 rintro e w2 ⟨rfl, hk2⟩
 have HK2 := hid (HK1.out.trans hk2)
 have b2 := hid (b1.out.same hk2)
 have d0 := b2.out.cell 0
 have d1 := b2.out.cell 1
 have d2 := b2.out.cell 2
 have d3 := b2.out.cell 3
 have d4 := b2.out.cell 4
 have d5 := b2.out.cell 5
 clear hk2
 rw [show inB 0 (-1) 1000000 = true from by decide]
 go_wp2
 go_ret
 exact ⟨rfl, HK2.out⟩
theorem specStep_10 (t i c : Int) (da : Option Addr) (nd dc : Nat) (ka : Option Addr) (nk kc : Nat) (w : World) (hn : nd ≤ maxLen) (hm : nk ≤ maxLen) : Calls Tryd.prog 18 #[.agg #[.int .i64 10, .int .i64 t, .int .i64 i, .int .i64 c, .slice da nd dc, .slice ka nk kc]] w fun e w' => e = .returned (.int .i64 (stepF 10 t i c nd nk)) ∧ Same w w' := by
 unfold maxLen at hn hm
 by_cases ht : t = 0
 case neg =>
  rw [show stepF 10 t i c nd nk = 2 from by unfold stepF stepOK; rw [if_neg (by omega), if_pos (by omega)]]
  have HK0 := hid (sameA w [.int .i64 10, .int .i64 t, .int .i64 i, .int .i64 c, .slice da nd dc, .slice ka nk kc] 61)
  have b0 := hid (Blk.newL w [.int .i64 10, .int .i64 t, .int .i64 i, .int .i64 c, .slice da nd dc, .slice ka nk kc] 61)
  go_enter Tryd.func18, Tryd.ntmps18
  go_wp2_with fail
  refine (l4In_any _ _ _ _).mono ?_
  rintro e w1 ⟨rfl, hk1⟩
  have HK1 := hid (HK0.out.trans hk1)
  have b1 := hid (b0.out.same hk1)
  have c0 := b1.out.cell 0
  have c1 := b1.out.cell 1
  have c2 := b1.out.cell 2
  have c3 := b1.out.cell 3
  have c4 := b1.out.cell 4
  have c5 := b1.out.cell 5
  clear hk1
  rw [show inB 10 1 11 = true from by decide]
  go_wp2
  go_ret
  exact ⟨rfl, HK1.out⟩
 subst ht
 by_cases hi : i = 0
 case neg =>
  rw [show stepF 10 0 i c nd nk = 2 from by unfold stepF stepOK; rw [if_neg (by omega), if_pos (by omega)]]
  have HK0 := hid (sameA w [.int .i64 10, .int .i64 0, .int .i64 i, .int .i64 c, .slice da nd dc, .slice ka nk kc] 61)
  have b0 := hid (Blk.newL w [.int .i64 10, .int .i64 0, .int .i64 i, .int .i64 c, .slice da nd dc, .slice ka nk kc] 61)
  go_enter Tryd.func18, Tryd.ntmps18
  go_wp2_with fail
  refine (l4In_any _ _ _ _).mono ?_
  rintro e w1 ⟨rfl, hk1⟩
  have HK1 := hid (HK0.out.trans hk1)
  have b1 := hid (b0.out.same hk1)
  have c0 := b1.out.cell 0
  have c1 := b1.out.cell 1
  have c2 := b1.out.cell 2
  have c3 := b1.out.cell 3
  have c4 := b1.out.cell 4
  have c5 := b1.out.cell 5
  clear hk1
  rw [show inB 10 1 11 = true from by decide]
  go_wp2
  go_ret
  exact ⟨rfl, HK1.out⟩
 subst hi
 by_cases hnd : nd = 0
 case neg =>
  have hnd' : 0 < (nd : Int) := by omega
  rw [show stepF 10 0 0 c nd nk = 2 from by unfold stepF stepOK; rw [if_neg (by omega), if_pos (by omega)]]
  have HK0 := hid (sameA w [.int .i64 10, .int .i64 0, .int .i64 0, .int .i64 c, .slice da nd dc, .slice ka nk kc] 61)
  have b0 := hid (Blk.newL w [.int .i64 10, .int .i64 0, .int .i64 0, .int .i64 c, .slice da nd dc, .slice ka nk kc] 61)
  go_enter Tryd.func18, Tryd.ntmps18
  go_wp2_with fail
  refine (l4In_any _ _ _ _).mono ?_
  rintro e w1 ⟨rfl, hk1⟩
  have HK1 := hid (HK0.out.trans hk1)
  have b1 := hid (b0.out.same hk1)
  have c0 := b1.out.cell 0
  have c1 := b1.out.cell 1
  have c2 := b1.out.cell 2
  have c3 := b1.out.cell 3
  have c4 := b1.out.cell 4
  have c5 := b1.out.cell 5
  clear hk1
  rw [show inB 10 1 11 = true from by decide]
  go_wp2
  go_ret
  exact ⟨rfl, HK1.out⟩
 subst hnd
 by_cases hc : c = 0
 case neg =>
  rw [show stepF 10 0 0 c 0 nk = 2 from by unfold stepF stepOK; rw [if_neg (by omega), if_pos (by omega)]]
  have HK0 := hid (sameA w [.int .i64 10, .int .i64 0, .int .i64 0, .int .i64 c, .slice da 0 dc, .slice ka nk kc] 61)
  have b0 := hid (Blk.newL w [.int .i64 10, .int .i64 0, .int .i64 0, .int .i64 c, .slice da 0 dc, .slice ka nk kc] 61)
  go_enter Tryd.func18, Tryd.ntmps18
  go_wp2_with fail
  refine (l4In_any _ _ _ _).mono ?_
  rintro e w1 ⟨rfl, hk1⟩
  have HK1 := hid (HK0.out.trans hk1)
  have b1 := hid (b0.out.same hk1)
  have c0 := b1.out.cell 0
  have c1 := b1.out.cell 1
  have c2 := b1.out.cell 2
  have c3 := b1.out.cell 3
  have c4 := b1.out.cell 4
  have c5 := b1.out.cell 5
  clear hk1
  rw [show inB 10 1 11 = true from by decide]
  go_wp2
  go_ret
  exact ⟨rfl, HK1.out⟩
 subst hc
 have HK0 := hid (sameA w [.int .i64 10, .int .i64 0, .int .i64 0, .int .i64 0, .slice da 0 dc, .slice ka nk kc] 61)
 have b0 := hid (Blk.newL w [.int .i64 10, .int .i64 0, .int .i64 0, .int .i64 0, .slice da 0 dc, .slice ka nk kc] 61)
 by_cases h3 : 8192 < nk
 case pos =>
  have h3' : (8192 : Int) < nk := by omega
  rw [show stepF 10 0 0 0 0 nk = 4 from by unfold stepF stepOK; rw [if_neg (by omega), if_neg (by omega), if_neg (by omega), if_pos h3]]
  go_enter Tryd.func18, Tryd.ntmps18
  go_wp2_with fail
  refine (l4In_any _ _ _ _).mono ?_
  rintro e w1 ⟨rfl, hk1⟩
  have HK1 := hid (HK0.out.trans hk1)
  have b1 := hid (b0.out.same hk1)
  have c0 := b1.out.cell 0
  have c1 := b1.out.cell 1
  have c2 := b1.out.cell 2
  have c3 := b1.out.cell 3
  have c4 := b1.out.cell 4
  have c5 := b1.out.cell 5
  clear hk1
  rw [show inB 10 1 11 = true from by decide]
  go_wp2_with fail
  refine (l4In_any _ _ _ _).mono ?_
  rintro e w2 ⟨rfl, hk2⟩
  have HK2 := hid (HK1.out.trans hk2)
  have b2 := hid (b1.out.same hk2)
  have d0 := b2.out.cell 0
  have d1 := b2.out.cell 1
  have d2 := b2.out.cell 2
  have d3 := b2.out.cell 3
  have d4 := b2.out.cell 4
  have d5 := b2.out.cell 5
  clear hk2
  rw [show inB 0 (-1) 1000000 = true from by decide]
  go_wp2
  go_ret
  exact ⟨rfl, HK2.out⟩
 rw [show stepF 10 0 0 0 0 nk = 0 from by unfold stepF stepOK; rw [if_neg (by omega), if_neg (by omega), if_neg (by omega), if_neg h3]]
 have h3' : ¬ (8192 : Int) < nk := by omega
 go_enter Tryd.func18, Tryd.ntmps18
 go_wp2_with fail
 refine (l4In_any _ _ _ _).mono ?_
 rintro e w1 ⟨rfl, hk1⟩
 have HK1 := hid (HK0.out.trans hk1)
 have b1 := hid (b0.out.same hk1)
 have c0 := b1.out.cell 0
 have c1 := b1.out.cell 1
 have c2 := b1.out.cell 2
 have c3 := b1.out.cell 3
 have c4 := b1.out.cell 4
 have c5 := b1.out.cell 5
 clear hk1
 rw [show inB 10 1 11 = true from by decide]
 go_wp2_with fail
 refine (l4In_any _ _ _ _).mono ?_
 rintro e w2 ⟨rfl, hk2⟩
 have HK2 := hid (HK1.out.trans hk2)
 have b2 := hid (b1.out.same hk2)
 have d0 := b2.out.cell 0
 have d1 := b2.out.cell 1
 have d2 := b2.out.cell 2
 have d3 := b2.out.cell 3
 have d4 := b2.out.cell 4
 have d5 := b2.out.cell 5
 clear hk2
 rw [show inB 0 (-1) 1000000 = true from by decide]
 go_wp2
 go_ret
 exact ⟨rfl, HK2.out⟩
theorem specStep_11 (t i c : Int) (da : Option Addr) (nd dc : Nat) (ka : Option Addr) (nk kc : Nat) (w : World) (hn : nd ≤ maxLen) (hm : nk ≤ maxLen) : Calls Tryd.prog 18 #[.agg #[.int .i64 11, .int .i64 t, .int .i64 i, .int .i64 c, .slice da nd dc, .slice ka nk kc]] w fun e w' => e = .returned (.int .i64 (stepF 11 t i c nd nk)) ∧ Same w w' := by
 unfold maxLen at hn hm
 by_cases ht : t = 0
 case neg =>
  rw [show stepF 11 t i c nd nk = 2 from by unfold stepF stepOK; rw [if_neg (by omega), if_pos (by omega)]]
  have HK0 := hid (sameA w [.int .i64 11, .int .i64 t, .int .i64 i, .int .i64 c, .slice da nd dc, .slice ka nk kc] 61)
  have b0 := hid (Blk.newL w [.int .i64 11, .int .i64 t, .int .i64 i, .int .i64 c, .slice da nd dc, .slice ka nk kc] 61)
  go_enter Tryd.func18, Tryd.ntmps18
  go_wp2_with fail
  refine (l4In_any _ _ _ _).mono ?_
  rintro e w1 ⟨rfl, hk1⟩
  have HK1 := hid (HK0.out.trans hk1)
  have b1 := hid (b0.out.same hk1)
  have c0 := b1.out.cell 0
  have c1 := b1.out.cell 1
  have c2 := b1.out.cell 2
  have c3 := b1.out.cell 3
  have c4 := b1.out.cell 4
  have c5 := b1.out.cell 5
  clear hk1
  rw [show inB 11 1 11 = true from by decide]
  go_wp2
  go_ret
  exact ⟨rfl, HK1.out⟩
 subst ht
 by_cases hi : i = 0
 case neg =>
  rw [show stepF 11 0 i c nd nk = 2 from by unfold stepF stepOK; rw [if_neg (by omega), if_pos (by omega)]]
  have HK0 := hid (sameA w [.int .i64 11, .int .i64 0, .int .i64 i, .int .i64 c, .slice da nd dc, .slice ka nk kc] 61)
  have b0 := hid (Blk.newL w [.int .i64 11, .int .i64 0, .int .i64 i, .int .i64 c, .slice da nd dc, .slice ka nk kc] 61)
  go_enter Tryd.func18, Tryd.ntmps18
  go_wp2_with fail
  refine (l4In_any _ _ _ _).mono ?_
  rintro e w1 ⟨rfl, hk1⟩
  have HK1 := hid (HK0.out.trans hk1)
  have b1 := hid (b0.out.same hk1)
  have c0 := b1.out.cell 0
  have c1 := b1.out.cell 1
  have c2 := b1.out.cell 2
  have c3 := b1.out.cell 3
  have c4 := b1.out.cell 4
  have c5 := b1.out.cell 5
  clear hk1
  rw [show inB 11 1 11 = true from by decide]
  go_wp2
  go_ret
  exact ⟨rfl, HK1.out⟩
 subst hi
 by_cases hnd : nd = 0
 case neg =>
  have hnd' : 0 < (nd : Int) := by omega
  rw [show stepF 11 0 0 c nd nk = 2 from by unfold stepF stepOK; rw [if_neg (by omega), if_pos (by omega)]]
  have HK0 := hid (sameA w [.int .i64 11, .int .i64 0, .int .i64 0, .int .i64 c, .slice da nd dc, .slice ka nk kc] 61)
  have b0 := hid (Blk.newL w [.int .i64 11, .int .i64 0, .int .i64 0, .int .i64 c, .slice da nd dc, .slice ka nk kc] 61)
  go_enter Tryd.func18, Tryd.ntmps18
  go_wp2_with fail
  refine (l4In_any _ _ _ _).mono ?_
  rintro e w1 ⟨rfl, hk1⟩
  have HK1 := hid (HK0.out.trans hk1)
  have b1 := hid (b0.out.same hk1)
  have c0 := b1.out.cell 0
  have c1 := b1.out.cell 1
  have c2 := b1.out.cell 2
  have c3 := b1.out.cell 3
  have c4 := b1.out.cell 4
  have c5 := b1.out.cell 5
  clear hk1
  rw [show inB 11 1 11 = true from by decide]
  go_wp2
  go_ret
  exact ⟨rfl, HK1.out⟩
 subst hnd
 by_cases hnk : nk = 0
 case neg =>
  have hnk' : 0 < (nk : Int) := by omega
  rw [show stepF 11 0 0 c 0 nk = 2 from by unfold stepF stepOK; rw [if_neg (by omega), if_pos (by omega)]]
  have HK0 := hid (sameA w [.int .i64 11, .int .i64 0, .int .i64 0, .int .i64 c, .slice da 0 dc, .slice ka nk kc] 61)
  have b0 := hid (Blk.newL w [.int .i64 11, .int .i64 0, .int .i64 0, .int .i64 c, .slice da 0 dc, .slice ka nk kc] 61)
  go_enter Tryd.func18, Tryd.ntmps18
  go_wp2_with fail
  refine (l4In_any _ _ _ _).mono ?_
  rintro e w1 ⟨rfl, hk1⟩
  have HK1 := hid (HK0.out.trans hk1)
  have b1 := hid (b0.out.same hk1)
  have c0 := b1.out.cell 0
  have c1 := b1.out.cell 1
  have c2 := b1.out.cell 2
  have c3 := b1.out.cell 3
  have c4 := b1.out.cell 4
  have c5 := b1.out.cell 5
  clear hk1
  rw [show inB 11 1 11 = true from by decide]
  go_wp2
  go_ret
  exact ⟨rfl, HK1.out⟩
 subst hnk
 have HK0 := hid (sameA w [.int .i64 11, .int .i64 0, .int .i64 0, .int .i64 c, .slice da 0 dc, .slice ka 0 kc] 61)
 have b0 := hid (Blk.newL w [.int .i64 11, .int .i64 0, .int .i64 0, .int .i64 c, .slice da 0 dc, .slice ka 0 kc] 61)
 by_cases h3 : c < -1 ∨ 1000000 < c
 case pos =>
  rw [show stepF 11 0 0 c 0 0 = 3 from by unfold stepF stepOK; rw [if_neg (by omega), if_neg (by omega), if_pos h3]]
  go_enter Tryd.func18, Tryd.ntmps18
  go_wp2_with fail
  refine (l4In_any _ _ _ _).mono ?_
  rintro e w1 ⟨rfl, hk1⟩
  have HK1 := hid (HK0.out.trans hk1)
  have b1 := hid (b0.out.same hk1)
  have c0 := b1.out.cell 0
  have c1 := b1.out.cell 1
  have c2 := b1.out.cell 2
  have c3 := b1.out.cell 3
  have c4 := b1.out.cell 4
  have c5 := b1.out.cell 5
  clear hk1
  rw [show inB 11 1 11 = true from by decide]
  go_wp2_with fail
  refine (l4In_any _ _ _ _).mono ?_
  rintro e w2 ⟨rfl, hk2⟩
  have HK2 := hid (HK1.out.trans hk2)
  have b2 := hid (b1.out.same hk2)
  have d0 := b2.out.cell 0
  have d1 := b2.out.cell 1
  have d2 := b2.out.cell 2
  have d3 := b2.out.cell 3
  have d4 := b2.out.cell 4
  have d5 := b2.out.cell 5
  clear hk2
  rw [show inB c (-1) 1000000 = false from by simp [inB]; omega]
  go_wp2
  go_ret
  exact ⟨rfl, HK2.out⟩
 rw [show stepF 11 0 0 c 0 0 = 0 from by unfold stepF stepOK; rw [if_neg (by omega), if_neg (by omega), if_neg h3, if_neg (by omega)]]
 go_enter Tryd.func18, Tryd.ntmps18
 go_wp2_with fail
 refine (l4In_any _ _ _ _).mono ?_
 rintro e w1 ⟨rfl, hk1⟩
 have HK1 := hid (HK0.out.trans hk1)
 have b1 := hid (b0.out.same hk1)
 have c0 := b1.out.cell 0
 have c1 := b1.out.cell 1
 have c2 := b1.out.cell 2
 have c3 := b1.out.cell 3
 have c4 := b1.out.cell 4
 have c5 := b1.out.cell 5
 clear hk1
 rw [show inB 11 1 11 = true from by decide]
 go_wp2_with fail
 refine (l4In_any _ _ _ _).mono ?_
 rintro e w2 ⟨rfl, hk2⟩
 have HK2 := hid (HK1.out.trans hk2)
 have b2 := hid (b1.out.same hk2)
 have d0 := b2.out.cell 0
 have d1 := b2.out.cell 1
 have d2 := b2.out.cell 2
 have d3 := b2.out.cell 3
 have d4 := b2.out.cell 4
 have d5 := b2.out.cell 5
 clear hk2
 rw [show inB c (-1) 1000000 = true from by simp [inB]; omega]
 go_wp2
 go_ret
 exact ⟨rfl, HK2.out⟩
theorem specStep_any (k t i c : Int) (da : Option Addr) (nd dc : Nat) (ka : Option Addr) (nk kc : Nat) (w : World) (hn : nd ≤ maxLen) (hm : nk ≤ maxLen) : Calls Tryd.prog 18 #[.agg #[.int .i64 k, .int .i64 t, .int .i64 i, .int .i64 c, .slice da nd dc, .slice ka nk kc]] w fun e w' => e = .returned (.int .i64 (stepF k t i c nd nk)) ∧ Same w w' := by
 by_cases h : k < 1 ∨ 11 < k
 ·rw [show stepF k t i c nd nk = 1 from by unfold stepF; rw [if_pos h]]
  have HK0 := hid (sameA w [.int .i64 k, .int .i64 t, .int .i64 i, .int .i64 c, .slice da nd dc, .slice ka nk kc] 61)
  go_enter Tryd.func18, Tryd.ntmps18
  go_wp2_with fail
  refine (l4In_any _ _ _ _).mono ?_
  rintro e w1 ⟨rfl, hk1⟩
  have HK1 := hid (HK0.out.trans hk1)
  rw [show inB k 1 11 = false from by simp [inB]; omega]
  go_wp2
  go_ret
  exact ⟨rfl, HK1.out⟩
 ·obtain rfl | rfl | rfl | rfl | rfl | rfl | rfl | rfl | rfl | rfl | rfl : k = 1 ∨ k = 2 ∨ k = 3 ∨ k = 4 ∨ k = 5 ∨ k = 6 ∨ k = 7 ∨ k = 8 ∨ k = 9 ∨ k = 10 ∨ k = 11 := by omega
  ·exact specStep_1 t i c da nd dc ka nk kc w hn hm
  ·exact specStep_2 t i c da nd dc ka nk kc w hn hm
  ·exact specStep_3 t i c da nd dc ka nk kc w hn hm
  ·exact specStep_4 t i c da nd dc ka nk kc w hn hm
  ·exact specStep_5 t i c da nd dc ka nk kc w hn hm
  ·exact specStep_6 t i c da nd dc ka nk kc w hn hm
  ·exact specStep_7 t i c da nd dc ka nk kc w hn hm
  ·exact specStep_8 t i c da nd dc ka nk kc w hn hm
  ·exact specStep_9 t i c da nd dc ka nk kc w hn hm
  ·exact specStep_10 t i c da nd dc ka nk kc w hn hm
  ·exact specStep_11 t i c da nd dc ka nk kc w hn hm
end Go.Proofs.YtbilnlgjpchgiaaDoor
