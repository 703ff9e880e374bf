import Derived.Test.YtljfcdkhicffcaaGreatG04
namespace Go.Proofs.YtljfcdkhicffcaaGreat
set_option maxRecDepth 100000
set_option maxHeartbeats 4000000
set_option linter.unusedVariables false
set_option linter.unusedSimpArgs false
open Go.RowKit
abbrev Ub (k t i c : Int) (nd nk : Nat) : Prop :=
 ((2 ≤ k ∧ k ≤ 7) ∨ t = 0) ∧ ((3 ≤ k ∧ k ≤ 5) ∨ i = 0) ∧ (k = 2 ∨ k = 3 ∨ nd = 0) ∧ (k = 10 ∨ nk = 0) ∧ (k = 11 ∨ c = 0)
def TY (k t i c : Int) (nd nk : Nat) : Int :=
 if k < 1 ∨ 11 < k then 1 else if ¬ Ub k t i c nd nk then 2 else if c < -1 ∨ 1000000 < c then 3 else if 8192 < nk then 4 else 0
theorem jeq (t i c : Int) (da : Option Addr) (nd dc : Nat) (ka : Option Addr) (nk kc : Nat) (w : World) (hn : nd ≤ maxLen) (hm : nk ≤ maxLen) : Calls Tryz.prog 49 #[.agg #[V 1, V t, V i, V c, .slice da nd dc, .slice ka nk kc]] w fun e w' => e = .returned (V (TY 1 t i c nd nk)) ∧ Same w w' := by
 unfold maxLen at hn hm
 by_cases ht : t = 0
 case neg =>
  rw [show TY 1 t i c nd nk = 2 from by unfold TY Ub; rw [if_neg (by omega), if_pos (by omega)]];have ay := hid (Uj w [V 1, V t, V i, V c, .slice da nd dc, .slice ka nk kc] 71);have b0 := hid (Blk.newL w [V 1, V t, V i, V c, .slice da nd dc, .slice ka nk kc] 71)
  go_enter Tryz.func49, Tryz.ntmps49
  go_wp2_with fail
  refine (TV _ _ _ _).mono ?_;rintro e w1 ⟨rfl, af⟩;have ao := hid (ay.out.trans af);have b1 := hid (b0.out.same af);have c0 := b1.out.cell 0;have c1 := b1.out.cell 1;have c2 := b1.out.cell 2;have c3 := b1.out.cell 3;have c4 := b1.out.cell 4;have c5 := b1.out.cell 5;clear af;rw [show inB 1 1 11 = true from by decide];go_wp2;go_ret;exact ⟨rfl, ao.out⟩
 subst ht
 by_cases hi : i = 0
 case neg =>
  rw [show TY 1 0 i c nd nk = 2 from by unfold TY Ub; rw [if_neg (by omega), if_pos (by omega)]];have ay := hid (Uj w [V 1, V 0, V i, V c, .slice da nd dc, .slice ka nk kc] 71);have b0 := hid (Blk.newL w [V 1, V 0, V i, V c, .slice da nd dc, .slice ka nk kc] 71)
  go_enter Tryz.func49, Tryz.ntmps49
  go_wp2_with fail
  refine (TV _ _ _ _).mono ?_;rintro e w1 ⟨rfl, af⟩;have ao := hid (ay.out.trans af);have b1 := hid (b0.out.same af);have c0 := b1.out.cell 0;have c1 := b1.out.cell 1;have c2 := b1.out.cell 2;have c3 := b1.out.cell 3;have c4 := b1.out.cell 4;have c5 := b1.out.cell 5;clear af;rw [show inB 1 1 11 = true from by decide];go_wp2;go_ret;exact ⟨rfl, ao.out⟩
 subst hi
 by_cases eU : nd = 0
 case neg =>
  have iR : 0 < (nd : Int) := by omega
  rw [show TY 1 0 0 c nd nk = 2 from by unfold TY Ub; rw [if_neg (by omega), if_pos (by omega)]];have ay := hid (Uj w [V 1, V 0, V 0, V c, .slice da nd dc, .slice ka nk kc] 71);have b0 := hid (Blk.newL w [V 1, V 0, V 0, V c, .slice da nd dc, .slice ka nk kc] 71)
  go_enter Tryz.func49, Tryz.ntmps49
  go_wp2_with fail
  refine (TV _ _ _ _).mono ?_;rintro e w1 ⟨rfl, af⟩;have ao := hid (ay.out.trans af);have b1 := hid (b0.out.same af);have c0 := b1.out.cell 0;have c1 := b1.out.cell 1;have c2 := b1.out.cell 2;have c3 := b1.out.cell 3;have c4 := b1.out.cell 4;have c5 := b1.out.cell 5;clear af;rw [show inB 1 1 11 = true from by decide];go_wp2;go_ret;exact ⟨rfl, ao.out⟩
 subst eU
 by_cases hnk : nk = 0
 case neg =>
  have il : 0 < (nk : Int) := by omega
  rw [show TY 1 0 0 c 0 nk = 2 from by unfold TY Ub; rw [if_neg (by omega), if_pos (by omega)]];have ay := hid (Uj w [V 1, V 0, V 0, V c, .slice da 0 dc, .slice ka nk kc] 71);have b0 := hid (Blk.newL w [V 1, V 0, V 0, V c, .slice da 0 dc, .slice ka nk kc] 71)
  go_enter Tryz.func49, Tryz.ntmps49
  go_wp2_with fail
  refine (TV _ _ _ _).mono ?_;rintro e w1 ⟨rfl, af⟩;have ao := hid (ay.out.trans af);have b1 := hid (b0.out.same af);have c0 := b1.out.cell 0;have c1 := b1.out.cell 1;have c2 := b1.out.cell 2;have c3 := b1.out.cell 3;have c4 := b1.out.cell 4;have c5 := b1.out.cell 5;clear af;rw [show inB 1 1 11 = true from by decide];go_wp2;go_ret;exact ⟨rfl, ao.out⟩
 subst hnk
 by_cases hc : c = 0
 case neg =>
  rw [show TY 1 0 0 c 0 0 = 2 from by unfold TY Ub; rw [if_neg (by omega), if_pos (by omega)]];have ay := hid (Uj w [V 1, V 0, V 0, V c, .slice da 0 dc, .slice ka 0 kc] 71);have b0 := hid (Blk.newL w [V 1, V 0, V 0, V c, .slice da 0 dc, .slice ka 0 kc] 71)
  go_enter Tryz.func49, Tryz.ntmps49
  go_wp2_with fail
  refine (TV _ _ _ _).mono ?_;rintro e w1 ⟨rfl, af⟩;have ao := hid (ay.out.trans af);have b1 := hid (b0.out.same af);have c0 := b1.out.cell 0;have c1 := b1.out.cell 1;have c2 := b1.out.cell 2;have c3 := b1.out.cell 3;have c4 := b1.out.cell 4;have c5 := b1.out.cell 5;clear af;rw [show inB 1 1 11 = true from by decide];go_wp2;go_ret;exact ⟨rfl, ao.out⟩
 subst hc;have ay := hid (Uj w [V 1, V 0, V 0, V 0, .slice da 0 dc, .slice ka 0 kc] 71);have b0 := hid (Blk.newL w [V 1, V 0, V 0, V 0, .slice da 0 dc, .slice ka 0 kc] 71);rw [show TY 1 0 0 0 0 0 = 0 from by unfold TY Ub; rw [if_neg (by omega), if_neg (by omega), if_neg (by omega), if_neg (by omega)]]
 go_enter Tryz.func49, Tryz.ntmps49
 go_wp2_with fail
 refine (TV _ _ _ _).mono ?_;rintro e w1 ⟨rfl, af⟩;have ao := hid (ay.out.trans af);have b1 := hid (b0.out.same af);have c0 := b1.out.cell 0;have c1 := b1.out.cell 1;have c2 := b1.out.cell 2;have c3 := b1.out.cell 3;have c4 := b1.out.cell 4;have c5 := b1.out.cell 5;clear af;rw [show inB 1 1 11 = true from by decide]
 go_wp2_with fail
 refine (TV _ _ _ _).mono ?_;rintro e w2 ⟨rfl, ae⟩;have ap := hid (ao.out.trans ae);have b2 := hid (b1.out.same ae);have d0 := b2.out.cell 0;have d1 := b2.out.cell 1;have d2 := b2.out.cell 2;have d3 := b2.out.cell 3;have d4 := b2.out.cell 4;have d5 := b2.out.cell 5;clear ae;rw [show inB 0 (-1) 1000000 = true from by decide];go_wp2;go_ret;exact ⟨rfl, ap.out⟩
theorem jer (t i c : Int) (da : Option Addr) (nd dc : Nat) (ka : Option Addr) (nk kc : Nat) (w : World) (hn : nd ≤ maxLen) (hm : nk ≤ maxLen) : Calls Tryz.prog 49 #[.agg #[V 2, V t, V i, V c, .slice da nd dc, .slice ka nk kc]] w fun e w' => e = .returned (V (TY 2 t i c nd nk)) ∧ Same w w' := by
 unfold maxLen at hn hm
 by_cases hi : i = 0
 case neg =>
  rw [show TY 2 t i c nd nk = 2 from by unfold TY Ub; rw [if_neg (by omega), if_pos (by omega)]];have ay := hid (Uj w [V 2, V t, V i, V c, .slice da nd dc, .slice ka nk kc] 71);have b0 := hid (Blk.newL w [V 2, V t, V i, V c, .slice da nd dc, .slice ka nk kc] 71)
  go_enter Tryz.func49, Tryz.ntmps49
  go_wp2_with fail
  refine (TV _ _ _ _).mono ?_;rintro e w1 ⟨rfl, af⟩;have ao := hid (ay.out.trans af);have b1 := hid (b0.out.same af);have c0 := b1.out.cell 0;have c1 := b1.out.cell 1;have c2 := b1.out.cell 2;have c3 := b1.out.cell 3;have c4 := b1.out.cell 4;have c5 := b1.out.cell 5;clear af;rw [show inB 2 1 11 = true from by decide];go_wp2;go_ret;exact ⟨rfl, ao.out⟩
 subst hi
 by_cases hnk : nk = 0
 case neg =>
  have il : 0 < (nk : Int) := by omega
  rw [show TY 2 t 0 c nd nk = 2 from by unfold TY Ub; rw [if_neg (by omega), if_pos (by omega)]];have ay := hid (Uj w [V 2, V t, V 0, V c, .slice da nd dc, .slice ka nk kc] 71);have b0 := hid (Blk.newL w [V 2, V t, V 0, V c, .slice da nd dc, .slice ka nk kc] 71)
  go_enter Tryz.func49, Tryz.ntmps49
  go_wp2_with fail
  refine (TV _ _ _ _).mono ?_;rintro e w1 ⟨rfl, af⟩;have ao := hid (ay.out.trans af);have b1 := hid (b0.out.same af);have c0 := b1.out.cell 0;have c1 := b1.out.cell 1;have c2 := b1.out.cell 2;have c3 := b1.out.cell 3;have c4 := b1.out.cell 4;have c5 := b1.out.cell 5;clear af;rw [show inB 2 1 11 = true from by decide];go_wp2;go_ret;exact ⟨rfl, ao.out⟩
 subst hnk
 by_cases hc : c = 0
 case neg =>
  rw [show TY 2 t 0 c nd 0 = 2 from by unfold TY Ub; rw [if_neg (by omega), if_pos (by omega)]];have ay := hid (Uj w [V 2, V t, V 0, V c, .slice da nd dc, .slice ka 0 kc] 71);have b0 := hid (Blk.newL w [V 2, V t, V 0, V c, .slice da nd dc, .slice ka 0 kc] 71)
  go_enter Tryz.func49, Tryz.ntmps49
  go_wp2_with fail
  refine (TV _ _ _ _).mono ?_;rintro e w1 ⟨rfl, af⟩;have ao := hid (ay.out.trans af);have b1 := hid (b0.out.same af);have c0 := b1.out.cell 0;have c1 := b1.out.cell 1;have c2 := b1.out.cell 2;have c3 := b1.out.cell 3;have c4 := b1.out.cell 4;have c5 := b1.out.cell 5;clear af;rw [show inB 2 1 11 = true from by decide];go_wp2;go_ret;exact ⟨rfl, ao.out⟩
 subst hc;have ay := hid (Uj w [V 2, V t, V 0, V 0, .slice da nd dc, .slice ka 0 kc] 71);have b0 := hid (Blk.newL w [V 2, V t, V 0, V 0, .slice da nd dc, .slice ka 0 kc] 71);rw [show TY 2 t 0 0 nd 0 = 0 from by unfold TY Ub; rw [if_neg (by omega), if_neg (by omega), if_neg (by omega), if_neg (by omega)]]
 go_enter Tryz.func49, Tryz.ntmps49
 go_wp2_with fail
 refine (TV _ _ _ _).mono ?_;rintro e w1 ⟨rfl, af⟩;have ao := hid (ay.out.trans af);have b1 := hid (b0.out.same af);have c0 := b1.out.cell 0;have c1 := b1.out.cell 1;have c2 := b1.out.cell 2;have c3 := b1.out.cell 3;have c4 := b1.out.cell 4;have c5 := b1.out.cell 5;clear af;rw [show inB 2 1 11 = true from by decide]
 go_wp2_with fail
 refine (TV _ _ _ _).mono ?_;rintro e w2 ⟨rfl, ae⟩;have ap := hid (ao.out.trans ae);have b2 := hid (b1.out.same ae);have d0 := b2.out.cell 0;have d1 := b2.out.cell 1;have d2 := b2.out.cell 2;have d3 := b2.out.cell 3;have d4 := b2.out.cell 4;have d5 := b2.out.cell 5;clear ae;rw [show inB 0 (-1) 1000000 = true from by decide];go_wp2;go_ret;exact ⟨rfl, ap.out⟩
theorem jes (t i c : Int) (da : Option Addr) (nd dc : Nat) (ka : Option Addr) (nk kc : Nat) (w : World) (hn : nd ≤ maxLen) (hm : nk ≤ maxLen) : Calls Tryz.prog 49 #[.agg #[V 3, V t, V i, V c, .slice da nd dc, .slice ka nk kc]] w fun e w' => e = .returned (V (TY 3 t i c nd nk)) ∧ Same w w' := by
 unfold maxLen at hn hm
 by_cases hnk : nk = 0
 case neg =>
  have il : 0 < (nk : Int) := by omega
  rw [show TY 3 t i c nd nk = 2 from by unfold TY Ub; rw [if_neg (by omega), if_pos (by omega)]];have ay := hid (Uj w [V 3, V t, V i, V c, .slice da nd dc, .slice ka nk kc] 71);have b0 := hid (Blk.newL w [V 3, V t, V i, V c, .slice da nd dc, .slice ka nk kc] 71)
  go_enter Tryz.func49, Tryz.ntmps49
  go_wp2_with fail
  refine (TV _ _ _ _).mono ?_;rintro e w1 ⟨rfl, af⟩;have ao := hid (ay.out.trans af);have b1 := hid (b0.out.same af);have c0 := b1.out.cell 0;have c1 := b1.out.cell 1;have c2 := b1.out.cell 2;have c3 := b1.out.cell 3;have c4 := b1.out.cell 4;have c5 := b1.out.cell 5;clear af;rw [show inB 3 1 11 = true from by decide];go_wp2;go_ret;exact ⟨rfl, ao.out⟩
 subst hnk
 by_cases hc : c = 0
 case neg =>
  rw [show TY 3 t i c nd 0 = 2 from by unfold TY Ub; rw [if_neg (by omega), if_pos (by omega)]];have ay := hid (Uj w [V 3, V t, V i, V c, .slice da nd dc, .slice ka 0 kc] 71);have b0 := hid (Blk.newL w [V 3, V t, V i, V c, .slice da nd dc, .slice ka 0 kc] 71)
  go_enter Tryz.func49, Tryz.ntmps49
  go_wp2_with fail
  refine (TV _ _ _ _).mono ?_;rintro e w1 ⟨rfl, af⟩;have ao := hid (ay.out.trans af);have b1 := hid (b0.out.same af);have c0 := b1.out.cell 0;have c1 := b1.out.cell 1;have c2 := b1.out.cell 2;have c3 := b1.out.cell 3;have c4 := b1.out.cell 4;have c5 := b1.out.cell 5;clear af;rw [show inB 3 1 11 = true from by decide];go_wp2;go_ret;exact ⟨rfl, ao.out⟩
 subst hc;have ay := hid (Uj w [V 3, V t, V i, V 0, .slice da nd dc, .slice ka 0 kc] 71);have b0 := hid (Blk.newL w [V 3, V t, V i, V 0, .slice da nd dc, .slice ka 0 kc] 71);rw [show TY 3 t i 0 nd 0 = 0 from by unfold TY Ub; rw [if_neg (by omega), if_neg (by omega), if_neg (by omega), if_neg (by omega)]]
 go_enter Tryz.func49, Tryz.ntmps49
 go_wp2_with fail
 refine (TV _ _ _ _).mono ?_;rintro e w1 ⟨rfl, af⟩;have ao := hid (ay.out.trans af);have b1 := hid (b0.out.same af);have c0 := b1.out.cell 0;have c1 := b1.out.cell 1;have c2 := b1.out.cell 2;have c3 := b1.out.cell 3;have c4 := b1.out.cell 4;have c5 := b1.out.cell 5;clear af;rw [show inB 3 1 11 = true from by decide]
 go_wp2_with fail
 refine (TV _ _ _ _).mono ?_;rintro e w2 ⟨rfl, ae⟩;have ap := hid (ao.out.trans ae);have b2 := hid (b1.out.same ae);have d0 := b2.out.cell 0;have d1 := b2.out.cell 1;have d2 := b2.out.cell 2;have d3 := b2.out.cell 3;have d4 := b2.out.cell 4;have d5 := b2.out.cell 5;clear ae;rw [show inB 0 (-1) 1000000 = true from by decide];go_wp2;go_ret;exact ⟨rfl, ap.out⟩
theorem jet (t i c : Int) (da : Option Addr) (nd dc : Nat) (ka : Option Addr) (nk kc : Nat) (w : World) (hn : nd ≤ maxLen) (hm : nk ≤ maxLen) : Calls Tryz.prog 49 #[.agg #[V 4, V t, V i, V c, .slice da nd dc, .slice ka nk kc]] w fun e w' => e = .returned (V (TY 4 t i c nd nk)) ∧ Same w w' := by
 unfold maxLen at hn hm
 by_cases eU : nd = 0
 case neg =>
  have iR : 0 < (nd : Int) := by omega
  rw [show TY 4 t i c nd nk = 2 from by unfold TY Ub; rw [if_neg (by omega), if_pos (by omega)]];have ay := hid (Uj w [V 4, V t, V i, V c, .slice da nd dc, .slice ka nk kc] 71);have b0 := hid (Blk.newL w [V 4, V t, V i, V c, .slice da nd dc, .slice ka nk kc] 71)
  go_enter Tryz.func49, Tryz.ntmps49
  go_wp2_with fail
  refine (TV _ _ _ _).mono ?_;rintro e w1 ⟨rfl, af⟩;have ao := hid (ay.out.trans af);have b1 := hid (b0.out.same af);have c0 := b1.out.cell 0;have c1 := b1.out.cell 1;have c2 := b1.out.cell 2;have c3 := b1.out.cell 3;have c4 := b1.out.cell 4;have c5 := b1.out.cell 5;clear af;rw [show inB 4 1 11 = true from by decide];go_wp2;go_ret;exact ⟨rfl, ao.out⟩
 subst eU
 by_cases hnk : nk = 0
 case neg =>
  have il : 0 < (nk : Int) := by omega
  rw [show TY 4 t i c 0 nk = 2 from by unfold TY Ub; rw [if_neg (by omega), if_pos (by omega)]];have ay := hid (Uj w [V 4, V t, V i, V c, .slice da 0 dc, .slice ka nk kc] 71);have b0 := hid (Blk.newL w [V 4, V t, V i, V c, .slice da 0 dc, .slice ka nk kc] 71)
  go_enter Tryz.func49, Tryz.ntmps49
  go_wp2_with fail
  refine (TV _ _ _ _).mono ?_;rintro e w1 ⟨rfl, af⟩;have ao := hid (ay.out.trans af);have b1 := hid (b0.out.same af);have c0 := b1.out.cell 0;have c1 := b1.out.cell 1;have c2 := b1.out.cell 2;have c3 := b1.out.cell 3;have c4 := b1.out.cell 4;have c5 := b1.out.cell 5;clear af;rw [show inB 4 1 11 = true from by decide];go_wp2;go_ret;exact ⟨rfl, ao.out⟩
 subst hnk
 by_cases hc : c = 0
 case neg =>
  rw [show TY 4 t i c 0 0 = 2 from by unfold TY Ub; rw [if_neg (by omega), if_pos (by omega)]];have ay := hid (Uj w [V 4, V t, V i, V c, .slice da 0 dc, .slice ka 0 kc] 71);have b0 := hid (Blk.newL w [V 4, V t, V i, V c, .slice da 0 dc, .slice ka 0 kc] 71)
  go_enter Tryz.func49, Tryz.ntmps49
  go_wp2_with fail
  refine (TV _ _ _ _).mono ?_;rintro e w1 ⟨rfl, af⟩;have ao := hid (ay.out.trans af);have b1 := hid (b0.out.same af);have c0 := b1.out.cell 0;have c1 := b1.out.cell 1;have c2 := b1.out.cell 2;have c3 := b1.out.cell 3;have c4 := b1.out.cell 4;have c5 := b1.out.cell 5;clear af;rw [show inB 4 1 11 = true from by decide];go_wp2;go_ret;exact ⟨rfl, ao.out⟩
 subst hc;have ay := hid (Uj w [V 4, V t, V i, V 0, .slice da 0 dc, .slice ka 0 kc] 71);have b0 := hid (Blk.newL w [V 4, V t, V i, V 0, .slice da 0 dc, .slice ka 0 kc] 71);rw [show TY 4 t i 0 0 0 = 0 from by unfold TY Ub; rw [if_neg (by omega), if_neg (by omega), if_neg (by omega), if_neg (by omega)]]
 go_enter Tryz.func49, Tryz.ntmps49
 go_wp2_with fail
 refine (TV _ _ _ _).mono ?_;rintro e w1 ⟨rfl, af⟩;have ao := hid (ay.out.trans af);have b1 := hid (b0.out.same af);have c0 := b1.out.cell 0;have c1 := b1.out.cell 1;have c2 := b1.out.cell 2;have c3 := b1.out.cell 3;have c4 := b1.out.cell 4;have c5 := b1.out.cell 5;clear af;rw [show inB 4 1 11 = true from by decide]
 go_wp2_with fail
 refine (TV _ _ _ _).mono ?_;rintro e w2 ⟨rfl, ae⟩;have ap := hid (ao.out.trans ae);have b2 := hid (b1.out.same ae);have d0 := b2.out.cell 0;have d1 := b2.out.cell 1;have d2 := b2.out.cell 2;have d3 := b2.out.cell 3;have d4 := b2.out.cell 4;have d5 := b2.out.cell 5;clear ae;rw [show inB 0 (-1) 1000000 = true from by decide];go_wp2;go_ret;exact ⟨rfl, ap.out⟩
theorem jeu (t i c : Int) (da : Option Addr) (nd dc : Nat) (ka : Option Addr) (nk kc : Nat) (w : World) (hn : nd ≤ maxLen) (hm : nk ≤ maxLen) : Calls Tryz.prog 49 #[.agg #[V 5, V t, V i, V c, .slice da nd dc, .slice ka nk kc]] w fun e w' => e = .returned (V (TY 5 t i c nd nk)) ∧ Same w w' := by
 unfold maxLen at hn hm
 by_cases eU : nd = 0
 case neg =>
  have iR : 0 < (nd : Int) := by omega
  rw [show TY 5 t i c nd nk = 2 from by unfold TY Ub; rw [if_neg (by omega), if_pos (by omega)]];have ay := hid (Uj w [V 5, V t, V i, V c, .slice da nd dc, .slice ka nk kc] 71);have b0 := hid (Blk.newL w [V 5, V t, V i, V c, .slice da nd dc, .slice ka nk kc] 71)
  go_enter Tryz.func49, Tryz.ntmps49
  go_wp2_with fail
  refine (TV _ _ _ _).mono ?_;rintro e w1 ⟨rfl, af⟩;have ao := hid (ay.out.trans af);have b1 := hid (b0.out.same af);have c0 := b1.out.cell 0;have c1 := b1.out.cell 1;have c2 := b1.out.cell 2;have c3 := b1.out.cell 3;have c4 := b1.out.cell 4;have c5 := b1.out.cell 5;clear af;rw [show inB 5 1 11 = true from by decide];go_wp2;go_ret;exact ⟨rfl, ao.out⟩
 subst eU
 by_cases hnk : nk = 0
 case neg =>
  have il : 0 < (nk : Int) := by omega
  rw [show TY 5 t i c 0 nk = 2 from by unfold TY Ub; rw [if_neg (by omega), if_pos (by omega)]];have ay := hid (Uj w [V 5, V t, V i, V c, .slice da 0 dc, .slice ka nk kc] 71);have b0 := hid (Blk.newL w [V 5, V t, V i, V c, .slice da 0 dc, .slice ka nk kc] 71)
  go_enter Tryz.func49, Tryz.ntmps49
  go_wp2_with fail
  refine (TV _ _ _ _).mono ?_;rintro e w1 ⟨rfl, af⟩;have ao := hid (ay.out.trans af);have b1 := hid (b0.out.same af);have c0 := b1.out.cell 0;have c1 := b1.out.cell 1;have c2 := b1.out.cell 2;have c3 := b1.out.cell 3;have c4 := b1.out.cell 4;have c5 := b1.out.cell 5;clear af;rw [show inB 5 1 11 = true from by decide];go_wp2;go_ret;exact ⟨rfl, ao.out⟩
 subst hnk
 by_cases hc : c = 0
 case neg =>
  rw [show TY 5 t i c 0 0 = 2 from by unfold TY Ub; rw [if_neg (by omega), if_pos (by omega)]];have ay := hid (Uj w [V 5, V t, V i, V c, .slice da 0 dc, .slice ka 0 kc] 71);have b0 := hid (Blk.newL w [V 5, V t, V i, V c, .slice da 0 dc, .slice ka 0 kc] 71)
  go_enter Tryz.func49, Tryz.ntmps49
  go_wp2_with fail
  refine (TV _ _ _ _).mono ?_;rintro e w1 ⟨rfl, af⟩;have ao := hid (ay.out.trans af);have b1 := hid (b0.out.same af);have c0 := b1.out.cell 0;have c1 := b1.out.cell 1;have c2 := b1.out.cell 2;have c3 := b1.out.cell 3;have c4 := b1.out.cell 4;have c5 := b1.out.cell 5;clear af;rw [show inB 5 1 11 = true from by decide];go_wp2;go_ret;exact ⟨rfl, ao.out⟩
 subst hc;have ay := hid (Uj w [V 5, V t, V i, V 0, .slice da 0 dc, .slice ka 0 kc] 71);have b0 := hid (Blk.newL w [V 5, V t, V i, V 0, .slice da 0 dc, .slice ka 0 kc] 71);rw [show TY 5 t i 0 0 0 = 0 from by unfold TY Ub; rw [if_neg (by omega), if_neg (by omega), if_neg (by omega), if_neg (by omega)]]
 go_enter Tryz.func49, Tryz.ntmps49
 go_wp2_with fail
 refine (TV _ _ _ _).mono ?_;rintro e w1 ⟨rfl, af⟩;have ao := hid (ay.out.trans af);have b1 := hid (b0.out.same af);have c0 := b1.out.cell 0;have c1 := b1.out.cell 1;have c2 := b1.out.cell 2;have c3 := b1.out.cell 3;have c4 := b1.out.cell 4;have c5 := b1.out.cell 5;clear af;rw [show inB 5 1 11 = true from by decide]
 go_wp2_with fail
 refine (TV _ _ _ _).mono ?_;rintro e w2 ⟨rfl, ae⟩;have ap := hid (ao.out.trans ae);have b2 := hid (b1.out.same ae);have d0 := b2.out.cell 0;have d1 := b2.out.cell 1;have d2 := b2.out.cell 2;have d3 := b2.out.cell 3;have d4 := b2.out.cell 4;have d5 := b2.out.cell 5;clear ae;rw [show inB 0 (-1) 1000000 = true from by decide];go_wp2;go_ret;exact ⟨rfl, ap.out⟩
theorem jev (t i c : Int) (da : Option Addr) (nd dc : Nat) (ka : Option Addr) (nk kc : Nat) (w : World) (hn : nd ≤ maxLen) (hm : nk ≤ maxLen) : Calls Tryz.prog 49 #[.agg #[V 6, V t, V i, V c, .slice da nd dc, .slice ka nk kc]] w fun e w' => e = .returned (V (TY 6 t i c nd nk)) ∧ Same w w' := by
 unfold maxLen at hn hm
 by_cases hi : i = 0
 case neg =>
  rw [show TY 6 t i c nd nk = 2 from by unfold TY Ub; rw [if_neg (by omega), if_pos (by omega)]];have ay := hid (Uj w [V 6, V t, V i, V c, .slice da nd dc, .slice ka nk kc] 71);have b0 := hid (Blk.newL w [V 6, V t, V i, V c, .slice da nd dc, .slice ka nk kc] 71)
  go_enter Tryz.func49, Tryz.ntmps49
  go_wp2_with fail
  refine (TV _ _ _ _).mono ?_;rintro e w1 ⟨rfl, af⟩;have ao := hid (ay.out.trans af);have b1 := hid (b0.out.same af);have c0 := b1.out.cell 0;have c1 := b1.out.cell 1;have c2 := b1.out.cell 2;have c3 := b1.out.cell 3;have c4 := b1.out.cell 4;have c5 := b1.out.cell 5;clear af;rw [show inB 6 1 11 = true from by decide];go_wp2;go_ret;exact ⟨rfl, ao.out⟩
 subst hi
 by_cases eU : nd = 0
 case neg =>
  have iR : 0 < (nd : Int) := by omega
  rw [show TY 6 t 0 c nd nk = 2 from by unfold TY Ub; rw [if_neg (by omega), if_pos (by omega)]];have ay := hid (Uj w [V 6, V t, V 0, V c, .slice da nd dc, .slice ka nk kc] 71);have b0 := hid (Blk.newL w [V 6, V t, V 0, V c, .slice da nd dc, .slice ka nk kc] 71)
  go_enter Tryz.func49, Tryz.ntmps49
  go_wp2_with fail
  refine (TV _ _ _ _).mono ?_;rintro e w1 ⟨rfl, af⟩;have ao := hid (ay.out.trans af);have b1 := hid (b0.out.same af);have c0 := b1.out.cell 0;have c1 := b1.out.cell 1;have c2 := b1.out.cell 2;have c3 := b1.out.cell 3;have c4 := b1.out.cell 4;have c5 := b1.out.cell 5;clear af;rw [show inB 6 1 11 = true from by decide];go_wp2;go_ret;exact ⟨rfl, ao.out⟩
 subst eU
 by_cases hnk : nk = 0
 case neg =>
  have il : 0 < (nk : Int) := by omega
  rw [show TY 6 t 0 c 0 nk = 2 from by unfold TY Ub; rw [if_neg (by omega), if_pos (by omega)]];have ay := hid (Uj w [V 6, V t, V 0, V c, .slice da 0 dc, .slice ka nk kc] 71);have b0 := hid (Blk.newL w [V 6, V t, V 0, V c, .slice da 0 dc, .slice ka nk kc] 71)
  go_enter Tryz.func49, Tryz.ntmps49
  go_wp2_with fail
  refine (TV _ _ _ _).mono ?_;rintro e w1 ⟨rfl, af⟩;have ao := hid (ay.out.trans af);have b1 := hid (b0.out.same af);have c0 := b1.out.cell 0;have c1 := b1.out.cell 1;have c2 := b1.out.cell 2;have c3 := b1.out.cell 3;have c4 := b1.out.cell 4;have c5 := b1.out.cell 5;clear af;rw [show inB 6 1 11 = true from by decide];go_wp2;go_ret;exact ⟨rfl, ao.out⟩
 subst hnk
 by_cases hc : c = 0
 case neg =>
  rw [show TY 6 t 0 c 0 0 = 2 from by unfold TY Ub; rw [if_neg (by omega), if_pos (by omega)]];have ay := hid (Uj w [V 6, V t, V 0, V c, .slice da 0 dc, .slice ka 0 kc] 71);have b0 := hid (Blk.newL w [V 6, V t, V 0, V c, .slice da 0 dc, .slice ka 0 kc] 71)
  go_enter Tryz.func49, Tryz.ntmps49
  go_wp2_with fail
  refine (TV _ _ _ _).mono ?_;rintro e w1 ⟨rfl, af⟩;have ao := hid (ay.out.trans af);have b1 := hid (b0.out.same af);have c0 := b1.out.cell 0;have c1 := b1.out.cell 1;have c2 := b1.out.cell 2;have c3 := b1.out.cell 3;have c4 := b1.out.cell 4;have c5 := b1.out.cell 5;clear af;rw [show inB 6 1 11 = true from by decide];go_wp2;go_ret;exact ⟨rfl, ao.out⟩
 subst hc;have ay := hid (Uj w [V 6, V t, V 0, V 0, .slice da 0 dc, .slice ka 0 kc] 71);have b0 := hid (Blk.newL w [V 6, V t, V 0, V 0, .slice da 0 dc, .slice ka 0 kc] 71);rw [show TY 6 t 0 0 0 0 = 0 from by unfold TY Ub; rw [if_neg (by omega), if_neg (by omega), if_neg (by omega), if_neg (by omega)]]
 go_enter Tryz.func49, Tryz.ntmps49
 go_wp2_with fail
 refine (TV _ _ _ _).mono ?_;rintro e w1 ⟨rfl, af⟩;have ao := hid (ay.out.trans af);have b1 := hid (b0.out.same af);have c0 := b1.out.cell 0;have c1 := b1.out.cell 1;have c2 := b1.out.cell 2;have c3 := b1.out.cell 3;have c4 := b1.out.cell 4;have c5 := b1.out.cell 5;clear af;rw [show inB 6 1 11 = true from by decide]
 go_wp2_with fail
 refine (TV _ _ _ _).mono ?_;rintro e w2 ⟨rfl, ae⟩;have ap := hid (ao.out.trans ae);have b2 := hid (b1.out.same ae);have d0 := b2.out.cell 0;have d1 := b2.out.cell 1;have d2 := b2.out.cell 2;have d3 := b2.out.cell 3;have d4 := b2.out.cell 4;have d5 := b2.out.cell 5;clear ae;rw [show inB 0 (-1) 1000000 = true from by decide];go_wp2;go_ret;exact ⟨rfl, ap.out⟩
theorem jew (t i c : Int) (da : Option Addr) (nd dc : Nat) (ka : Option Addr) (nk kc : Nat) (w : World) (hn : nd ≤ maxLen) (hm : nk ≤ maxLen) : Calls Tryz.prog 49 #[.agg #[V 7, V t, V i, V c, .slice da nd dc, .slice ka nk kc]] w fun e w' => e = .returned (V (TY 7 t i c nd nk)) ∧ Same w w' := by
 unfold maxLen at hn hm
 by_cases hi : i = 0
 case neg =>
  rw [show TY 7 t i c nd nk = 2 from by unfold TY Ub; rw [if_neg (by omega), if_pos (by omega)]];have ay := hid (Uj w [V 7, V t, V i, V c, .slice da nd dc, .slice ka nk kc] 71);have b0 := hid (Blk.newL w [V 7, V t, V i, V c, .slice da nd dc, .slice ka nk kc] 71)
  go_enter Tryz.func49, Tryz.ntmps49
  go_wp2_with fail
  refine (TV _ _ _ _).mono ?_;rintro e w1 ⟨rfl, af⟩;have ao := hid (ay.out.trans af);have b1 := hid (b0.out.same af);have c0 := b1.out.cell 0;have c1 := b1.out.cell 1;have c2 := b1.out.cell 2;have c3 := b1.out.cell 3;have c4 := b1.out.cell 4;have c5 := b1.out.cell 5;clear af;rw [show inB 7 1 11 = true from by decide];go_wp2;go_ret;exact ⟨rfl, ao.out⟩
 subst hi
 by_cases eU : nd = 0
 case neg =>
  have iR : 0 < (nd : Int) := by omega
  rw [show TY 7 t 0 c nd nk = 2 from by unfold TY Ub; rw [if_neg (by omega), if_pos (by omega)]];have ay := hid (Uj w [V 7, V t, V 0, V c, .slice da nd dc, .slice ka nk kc] 71);have b0 := hid (Blk.newL w [V 7, V t, V 0, V c, .slice da nd dc, .slice ka nk kc] 71)
  go_enter Tryz.func49, Tryz.ntmps49
  go_wp2_with fail
  refine (TV _ _ _ _).mono ?_;rintro e w1 ⟨rfl, af⟩;have ao := hid (ay.out.trans af);have b1 := hid (b0.out.same af);have c0 := b1.out.cell 0;have c1 := b1.out.cell 1;have c2 := b1.out.cell 2;have c3 := b1.out.cell 3;have c4 := b1.out.cell 4;have c5 := b1.out.cell 5;clear af;rw [show inB 7 1 11 = true from by decide];go_wp2;go_ret;exact ⟨rfl, ao.out⟩
 subst eU
 by_cases hnk : nk = 0
 case neg =>
  have il : 0 < (nk : Int) := by omega
  rw [show TY 7 t 0 c 0 nk = 2 from by unfold TY Ub; rw [if_neg (by omega), if_pos (by omega)]];have ay := hid (Uj w [V 7, V t, V 0, V c, .slice da 0 dc, .slice ka nk kc] 71);have b0 := hid (Blk.newL w [V 7, V t, V 0, V c, .slice da 0 dc, .slice ka nk kc] 71)
  go_enter Tryz.func49, Tryz.ntmps49
  go_wp2_with fail
  refine (TV _ _ _ _).mono ?_;rintro e w1 ⟨rfl, af⟩;have ao := hid (ay.out.trans af);have b1 := hid (b0.out.same af);have c0 := b1.out.cell 0;have c1 := b1.out.cell 1;have c2 := b1.out.cell 2;have c3 := b1.out.cell 3;have c4 := b1.out.cell 4;have c5 := b1.out.cell 5;clear af;rw [show inB 7 1 11 = true from by decide];go_wp2;go_ret;exact ⟨rfl, ao.out⟩
 subst hnk
 by_cases hc : c = 0
 case neg =>
  rw [show TY 7 t 0 c 0 0 = 2 from by unfold TY Ub; rw [if_neg (by omega), if_pos (by omega)]];have ay := hid (Uj w [V 7, V t, V 0, V c, .slice da 0 dc, .slice ka 0 kc] 71);have b0 := hid (Blk.newL w [V 7, V t, V 0, V c, .slice da 0 dc, .slice ka 0 kc] 71)
  go_enter Tryz.func49, Tryz.ntmps49
  go_wp2_with fail
  refine (TV _ _ _ _).mono ?_;rintro e w1 ⟨rfl, af⟩;have ao := hid (ay.out.trans af);have b1 := hid (b0.out.same af);have c0 := b1.out.cell 0;have c1 := b1.out.cell 1;have c2 := b1.out.cell 2;have c3 := b1.out.cell 3;have c4 := b1.out.cell 4;have c5 := b1.out.cell 5;clear af;rw [show inB 7 1 11 = true from by decide];go_wp2;go_ret;exact ⟨rfl, ao.out⟩
 subst hc;have ay := hid (Uj w [V 7, V t, V 0, V 0, .slice da 0 dc, .slice ka 0 kc] 71);have b0 := hid (Blk.newL w [V 7, V t, V 0, V 0, .slice da 0 dc, .slice ka 0 kc] 71);rw [show TY 7 t 0 0 0 0 = 0 from by unfold TY Ub; rw [if_neg (by omega), if_neg (by omega), if_neg (by omega), if_neg (by omega)]]
 go_enter Tryz.func49, Tryz.ntmps49
 go_wp2_with fail
 refine (TV _ _ _ _).mono ?_;rintro e w1 ⟨rfl, af⟩;have ao := hid (ay.out.trans af);have b1 := hid (b0.out.same af);have c0 := b1.out.cell 0;have c1 := b1.out.cell 1;have c2 := b1.out.cell 2;have c3 := b1.out.cell 3;have c4 := b1.out.cell 4;have c5 := b1.out.cell 5;clear af;rw [show inB 7 1 11 = true from by decide]
 go_wp2_with fail
 refine (TV _ _ _ _).mono ?_;rintro e w2 ⟨rfl, ae⟩;have ap := hid (ao.out.trans ae);have b2 := hid (b1.out.same ae);have d0 := b2.out.cell 0;have d1 := b2.out.cell 1;have d2 := b2.out.cell 2;have d3 := b2.out.cell 3;have d4 := b2.out.cell 4;have d5 := b2.out.cell 5;clear ae;rw [show inB 0 (-1) 1000000 = true from by decide];go_wp2;go_ret;exact ⟨rfl, ap.out⟩
theorem jex (t i c : Int) (da : Option Addr) (nd dc : Nat) (ka : Option Addr) (nk kc : Nat) (w : World) (hn : nd ≤ maxLen) (hm : nk ≤ maxLen) : Calls Tryz.prog 49 #[.agg #[V 8, V t, V i, V c, .slice da nd dc, .slice ka nk kc]] w fun e w' => e = .returned (V (TY 8 t i c nd nk)) ∧ Same w w' := by
 unfold maxLen at hn hm
 by_cases ht : t = 0
 case neg =>
  rw [show TY 8 t i c nd nk = 2 from by unfold TY Ub; rw [if_neg (by omega), if_pos (by omega)]];have ay := hid (Uj w [V 8, V t, V i, V c, .slice da nd dc, .slice ka nk kc] 71);have b0 := hid (Blk.newL w [V 8, V t, V i, V c, .slice da nd dc, .slice ka nk kc] 71)
  go_enter Tryz.func49, Tryz.ntmps49
  go_wp2_with fail
  refine (TV _ _ _ _).mono ?_;rintro e w1 ⟨rfl, af⟩;have ao := hid (ay.out.trans af);have b1 := hid (b0.out.same af);have c0 := b1.out.cell 0;have c1 := b1.out.cell 1;have c2 := b1.out.cell 2;have c3 := b1.out.cell 3;have c4 := b1.out.cell 4;have c5 := b1.out.cell 5;clear af;rw [show inB 8 1 11 = true from by decide];go_wp2;go_ret;exact ⟨rfl, ao.out⟩
 subst ht
 by_cases hi : i = 0
 case neg =>
  rw [show TY 8 0 i c nd nk = 2 from by unfold TY Ub; rw [if_neg (by omega), if_pos (by omega)]];have ay := hid (Uj w [V 8, V 0, V i, V c, .slice da nd dc, .slice ka nk kc] 71);have b0 := hid (Blk.newL w [V 8, V 0, V i, V c, .slice da nd dc, .slice ka nk kc] 71)
  go_enter Tryz.func49, Tryz.ntmps49
  go_wp2_with fail
  refine (TV _ _ _ _).mono ?_;rintro e w1 ⟨rfl, af⟩;have ao := hid (ay.out.trans af);have b1 := hid (b0.out.same af);have c0 := b1.out.cell 0;have c1 := b1.out.cell 1;have c2 := b1.out.cell 2;have c3 := b1.out.cell 3;have c4 := b1.out.cell 4;have c5 := b1.out.cell 5;clear af;rw [show inB 8 1 11 = true from by decide];go_wp2;go_ret;exact ⟨rfl, ao.out⟩
 subst hi
 by_cases eU : nd = 0
 case neg =>
  have iR : 0 < (nd : Int) := by omega
  rw [show TY 8 0 0 c nd nk = 2 from by unfold TY Ub; rw [if_neg (by omega), if_pos (by omega)]];have ay := hid (Uj w [V 8, V 0, V 0, V c, .slice da nd dc, .slice ka nk kc] 71);have b0 := hid (Blk.newL w [V 8, V 0, V 0, V c, .slice da nd dc, .slice ka nk kc] 71)
  go_enter Tryz.func49, Tryz.ntmps49
  go_wp2_with fail
  refine (TV _ _ _ _).mono ?_;rintro e w1 ⟨rfl, af⟩;have ao := hid (ay.out.trans af);have b1 := hid (b0.out.same af);have c0 := b1.out.cell 0;have c1 := b1.out.cell 1;have c2 := b1.out.cell 2;have c3 := b1.out.cell 3;have c4 := b1.out.cell 4;have c5 := b1.out.cell 5;clear af;rw [show inB 8 1 11 = true from by decide];go_wp2;go_ret;exact ⟨rfl, ao.out⟩
 subst eU
 by_cases hnk : nk = 0
 case neg =>
  have il : 0 < (nk : Int) := by omega
  rw [show TY 8 0 0 c 0 nk = 2 from by unfold TY Ub; rw [if_neg (by omega), if_pos (by omega)]];have ay := hid (Uj w [V 8, V 0, V 0, V c, .slice da 0 dc, .slice ka nk kc] 71);have b0 := hid (Blk.newL w [V 8, V 0, V 0, V c, .slice da 0 dc, .slice ka nk kc] 71)
  go_enter Tryz.func49, Tryz.ntmps49
  go_wp2_with fail
  refine (TV _ _ _ _).mono ?_;rintro e w1 ⟨rfl, af⟩;have ao := hid (ay.out.trans af);have b1 := hid (b0.out.same af);have c0 := b1.out.cell 0;have c1 := b1.out.cell 1;have c2 := b1.out.cell 2;have c3 := b1.out.cell 3;have c4 := b1.out.cell 4;have c5 := b1.out.cell 5;clear af;rw [show inB 8 1 11 = true from by decide];go_wp2;go_ret;exact ⟨rfl, ao.out⟩
 subst hnk
 by_cases hc : c = 0
 case neg =>
  rw [show TY 8 0 0 c 0 0 = 2 from by unfold TY Ub; rw [if_neg (by omega), if_pos (by omega)]];have ay := hid (Uj w [V 8, V 0, V 0, V c, .slice da 0 dc, .slice ka 0 kc] 71);have b0 := hid (Blk.newL w [V 8, V 0, V 0, V c, .slice da 0 dc, .slice ka 0 kc] 71)
  go_enter Tryz.func49, Tryz.ntmps49
  go_wp2_with fail
  refine (TV _ _ _ _).mono ?_;rintro e w1 ⟨rfl, af⟩;have ao := hid (ay.out.trans af);have b1 := hid (b0.out.same af);have c0 := b1.out.cell 0;have c1 := b1.out.cell 1;have c2 := b1.out.cell 2;have c3 := b1.out.cell 3;have c4 := b1.out.cell 4;have c5 := b1.out.cell 5;clear af;rw [show inB 8 1 11 = true from by decide];go_wp2;go_ret;exact ⟨rfl, ao.out⟩
 subst hc;have ay := hid (Uj w [V 8, V 0, V 0, V 0, .slice da 0 dc, .slice ka 0 kc] 71);have b0 := hid (Blk.newL w [V 8, V 0, V 0, V 0, .slice da 0 dc, .slice ka 0 kc] 71);rw [show TY 8 0 0 0 0 0 = 0 from by unfold TY Ub; rw [if_neg (by omega), if_neg (by omega), if_neg (by omega), if_neg (by omega)]]
 go_enter Tryz.func49, Tryz.ntmps49
 go_wp2_with fail
 refine (TV _ _ _ _).mono ?_;rintro e w1 ⟨rfl, af⟩;have ao := hid (ay.out.trans af);have b1 := hid (b0.out.same af);have c0 := b1.out.cell 0;have c1 := b1.out.cell 1;have c2 := b1.out.cell 2;have c3 := b1.out.cell 3;have c4 := b1.out.cell 4;have c5 := b1.out.cell 5;clear af;rw [show inB 8 1 11 = true from by decide]
 go_wp2_with fail
 refine (TV _ _ _ _).mono ?_;rintro e w2 ⟨rfl, ae⟩;have ap := hid (ao.out.trans ae);have b2 := hid (b1.out.same ae);have d0 := b2.out.cell 0;have d1 := b2.out.cell 1;have d2 := b2.out.cell 2;have d3 := b2.out.cell 3;have d4 := b2.out.cell 4;have d5 := b2.out.cell 5;clear ae;rw [show inB 0 (-1) 1000000 = true from by decide];go_wp2;go_ret;exact ⟨rfl, ap.out⟩
theorem jey (t i c : Int) (da : Option Addr) (nd dc : Nat) (ka : Option Addr) (nk kc : Nat) (w : World) (hn : nd ≤ maxLen) (hm : nk ≤ maxLen) : Calls Tryz.prog 49 #[.agg #[V 9, V t, V i, V c, .slice da nd dc, .slice ka nk kc]] w fun e w' => e = .returned (V (TY 9 t i c nd nk)) ∧ Same w w' := by
 unfold maxLen at hn hm
 by_cases ht : t = 0
 case neg =>
  rw [show TY 9 t i c nd nk = 2 from by unfold TY Ub; rw [if_neg (by omega), if_pos (by omega)]];have ay := hid (Uj w [V 9, V t, V i, V c, .slice da nd dc, .slice ka nk kc] 71);have b0 := hid (Blk.newL w [V 9, V t, V i, V c, .slice da nd dc, .slice ka nk kc] 71)
  go_enter Tryz.func49, Tryz.ntmps49
  go_wp2_with fail
  refine (TV _ _ _ _).mono ?_;rintro e w1 ⟨rfl, af⟩;have ao := hid (ay.out.trans af);have b1 := hid (b0.out.same af);have c0 := b1.out.cell 0;have c1 := b1.out.cell 1;have c2 := b1.out.cell 2;have c3 := b1.out.cell 3;have c4 := b1.out.cell 4;have c5 := b1.out.cell 5;clear af;rw [show inB 9 1 11 = true from by decide];go_wp2;go_ret;exact ⟨rfl, ao.out⟩
 subst ht
 by_cases hi : i = 0
 case neg =>
  rw [show TY 9 0 i c nd nk = 2 from by unfold TY Ub; rw [if_neg (by omega), if_pos (by omega)]];have ay := hid (Uj w [V 9, V 0, V i, V c, .slice da nd dc, .slice ka nk kc] 71);have b0 := hid (Blk.newL w [V 9, V 0, V i, V c, .slice da nd dc, .slice ka nk kc] 71)
  go_enter Tryz.func49, Tryz.ntmps49
  go_wp2_with fail
  refine (TV _ _ _ _).mono ?_;rintro e w1 ⟨rfl, af⟩;have ao := hid (ay.out.trans af);have b1 := hid (b0.out.same af);have c0 := b1.out.cell 0;have c1 := b1.out.cell 1;have c2 := b1.out.cell 2;have c3 := b1.out.cell 3;have c4 := b1.out.cell 4;have c5 := b1.out.cell 5;clear af;rw [show inB 9 1 11 = true from by decide];go_wp2;go_ret;exact ⟨rfl, ao.out⟩
 subst hi
 by_cases eU : nd = 0
 case neg =>
  have iR : 0 < (nd : Int) := by omega
  rw [show TY 9 0 0 c nd nk = 2 from by unfold TY Ub; rw [if_neg (by omega), if_pos (by omega)]];have ay := hid (Uj w [V 9, V 0, V 0, V c, .slice da nd dc, .slice ka nk kc] 71);have b0 := hid (Blk.newL w [V 9, V 0, V 0, V c, .slice da nd dc, .slice ka nk kc] 71)
  go_enter Tryz.func49, Tryz.ntmps49
  go_wp2_with fail
  refine (TV _ _ _ _).mono ?_;rintro e w1 ⟨rfl, af⟩;have ao := hid (ay.out.trans af);have b1 := hid (b0.out.same af);have c0 := b1.out.cell 0;have c1 := b1.out.cell 1;have c2 := b1.out.cell 2;have c3 := b1.out.cell 3;have c4 := b1.out.cell 4;have c5 := b1.out.cell 5;clear af;rw [show inB 9 1 11 = true from by decide];go_wp2;go_ret;exact ⟨rfl, ao.out⟩
 subst eU
 by_cases hnk : nk = 0
 case neg =>
  have il : 0 < (nk : Int) := by omega
  rw [show TY 9 0 0 c 0 nk = 2 from by unfold TY Ub; rw [if_neg (by omega), if_pos (by omega)]];have ay := hid (Uj w [V 9, V 0, V 0, V c, .slice da 0 dc, .slice ka nk kc] 71);have b0 := hid (Blk.newL w [V 9, V 0, V 0, V c, .slice da 0 dc, .slice ka nk kc] 71)
  go_enter Tryz.func49, Tryz.ntmps49
  go_wp2_with fail
  refine (TV _ _ _ _).mono ?_;rintro e w1 ⟨rfl, af⟩;have ao := hid (ay.out.trans af);have b1 := hid (b0.out.same af);have c0 := b1.out.cell 0;have c1 := b1.out.cell 1;have c2 := b1.out.cell 2;have c3 := b1.out.cell 3;have c4 := b1.out.cell 4;have c5 := b1.out.cell 5;clear af;rw [show inB 9 1 11 = true from by decide];go_wp2;go_ret;exact ⟨rfl, ao.out⟩
 subst hnk
 by_cases hc : c = 0
 case neg =>
  rw [show TY 9 0 0 c 0 0 = 2 from by unfold TY Ub; rw [if_neg (by omega), if_pos (by omega)]];have ay := hid (Uj w [V 9, V 0, V 0, V c, .slice da 0 dc, .slice ka 0 kc] 71);have b0 := hid (Blk.newL w [V 9, V 0, V 0, V c, .slice da 0 dc, .slice ka 0 kc] 71)
  go_enter Tryz.func49, Tryz.ntmps49
  go_wp2_with fail
  refine (TV _ _ _ _).mono ?_;rintro e w1 ⟨rfl, af⟩;have ao := hid (ay.out.trans af);have b1 := hid (b0.out.same af);have c0 := b1.out.cell 0;have c1 := b1.out.cell 1;have c2 := b1.out.cell 2;have c3 := b1.out.cell 3;have c4 := b1.out.cell 4;have c5 := b1.out.cell 5;clear af;rw [show inB 9 1 11 = true from by decide];go_wp2;go_ret;exact ⟨rfl, ao.out⟩
 subst hc;have ay := hid (Uj w [V 9, V 0, V 0, V 0, .slice da 0 dc, .slice ka 0 kc] 71);have b0 := hid (Blk.newL w [V 9, V 0, V 0, V 0, .slice da 0 dc, .slice ka 0 kc] 71);rw [show TY 9 0 0 0 0 0 = 0 from by unfold TY Ub; rw [if_neg (by omega), if_neg (by omega), if_neg (by omega), if_neg (by omega)]]
 go_enter Tryz.func49, Tryz.ntmps49
 go_wp2_with fail
 refine (TV _ _ _ _).mono ?_;rintro e w1 ⟨rfl, af⟩;have ao := hid (ay.out.trans af);have b1 := hid (b0.out.same af);have c0 := b1.out.cell 0;have c1 := b1.out.cell 1;have c2 := b1.out.cell 2;have c3 := b1.out.cell 3;have c4 := b1.out.cell 4;have c5 := b1.out.cell 5;clear af;rw [show inB 9 1 11 = true from by decide]
 go_wp2_with fail
 refine (TV _ _ _ _).mono ?_;rintro e w2 ⟨rfl, ae⟩;have ap := hid (ao.out.trans ae);have b2 := hid (b1.out.same ae);have d0 := b2.out.cell 0;have d1 := b2.out.cell 1;have d2 := b2.out.cell 2;have d3 := b2.out.cell 3;have d4 := b2.out.cell 4;have d5 := b2.out.cell 5;clear ae;rw [show inB 0 (-1) 1000000 = true from by decide];go_wp2;go_ret;exact ⟨rfl, ap.out⟩
theorem jdw (t i c : Int) (da : Option Addr) (nd dc : Nat) (ka : Option Addr) (nk kc : Nat) (w : World) (hn : nd ≤ maxLen) (hm : nk ≤ maxLen) : Calls Tryz.prog 49 #[.agg #[V 10, V t, V i, V c, .slice da nd dc, .slice ka nk kc]] w fun e w' => e = .returned (V (TY 10 t i c nd nk)) ∧ Same w w' := by
 unfold maxLen at hn hm
 by_cases ht : t = 0
 case neg =>
  rw [show TY 10 t i c nd nk = 2 from by unfold TY Ub; rw [if_neg (by omega), if_pos (by omega)]];have ay := hid (Uj w [V 10, V t, V i, V c, .slice da nd dc, .slice ka nk kc] 71);have b0 := hid (Blk.newL w [V 10, V t, V i, V c, .slice da nd dc, .slice ka nk kc] 71)
  go_enter Tryz.func49, Tryz.ntmps49
  go_wp2_with fail
  refine (TV _ _ _ _).mono ?_;rintro e w1 ⟨rfl, af⟩;have ao := hid (ay.out.trans af);have b1 := hid (b0.out.same af);have c0 := b1.out.cell 0;have c1 := b1.out.cell 1;have c2 := b1.out.cell 2;have c3 := b1.out.cell 3;have c4 := b1.out.cell 4;have c5 := b1.out.cell 5;clear af;rw [show inB 10 1 11 = true from by decide];go_wp2;go_ret;exact ⟨rfl, ao.out⟩
 subst ht
 by_cases hi : i = 0
 case neg =>
  rw [show TY 10 0 i c nd nk = 2 from by unfold TY Ub; rw [if_neg (by omega), if_pos (by omega)]];have ay := hid (Uj w [V 10, V 0, V i, V c, .slice da nd dc, .slice ka nk kc] 71);have b0 := hid (Blk.newL w [V 10, V 0, V i, V c, .slice da nd dc, .slice ka nk kc] 71)
  go_enter Tryz.func49, Tryz.ntmps49
  go_wp2_with fail
  refine (TV _ _ _ _).mono ?_;rintro e w1 ⟨rfl, af⟩;have ao := hid (ay.out.trans af);have b1 := hid (b0.out.same af);have c0 := b1.out.cell 0;have c1 := b1.out.cell 1;have c2 := b1.out.cell 2;have c3 := b1.out.cell 3;have c4 := b1.out.cell 4;have c5 := b1.out.cell 5;clear af;rw [show inB 10 1 11 = true from by decide];go_wp2;go_ret;exact ⟨rfl, ao.out⟩
 subst hi
 by_cases eU : nd = 0
 case neg =>
  have iR : 0 < (nd : Int) := by omega
  rw [show TY 10 0 0 c nd nk = 2 from by unfold TY Ub; rw [if_neg (by omega), if_pos (by omega)]];have ay := hid (Uj w [V 10, V 0, V 0, V c, .slice da nd dc, .slice ka nk kc] 71);have b0 := hid (Blk.newL w [V 10, V 0, V 0, V c, .slice da nd dc, .slice ka nk kc] 71)
  go_enter Tryz.func49, Tryz.ntmps49
  go_wp2_with fail
  refine (TV _ _ _ _).mono ?_;rintro e w1 ⟨rfl, af⟩;have ao := hid (ay.out.trans af);have b1 := hid (b0.out.same af);have c0 := b1.out.cell 0;have c1 := b1.out.cell 1;have c2 := b1.out.cell 2;have c3 := b1.out.cell 3;have c4 := b1.out.cell 4;have c5 := b1.out.cell 5;clear af;rw [show inB 10 1 11 = true from by decide];go_wp2;go_ret;exact ⟨rfl, ao.out⟩
 subst eU
 by_cases hc : c = 0
 case neg =>
  rw [show TY 10 0 0 c 0 nk = 2 from by unfold TY Ub; rw [if_neg (by omega), if_pos (by omega)]];have ay := hid (Uj w [V 10, V 0, V 0, V c, .slice da 0 dc, .slice ka nk kc] 71);have b0 := hid (Blk.newL w [V 10, V 0, V 0, V c, .slice da 0 dc, .slice ka nk kc] 71)
  go_enter Tryz.func49, Tryz.ntmps49
  go_wp2_with fail
  refine (TV _ _ _ _).mono ?_;rintro e w1 ⟨rfl, af⟩;have ao := hid (ay.out.trans af);have b1 := hid (b0.out.same af);have c0 := b1.out.cell 0;have c1 := b1.out.cell 1;have c2 := b1.out.cell 2;have c3 := b1.out.cell 3;have c4 := b1.out.cell 4;have c5 := b1.out.cell 5;clear af;rw [show inB 10 1 11 = true from by decide];go_wp2;go_ret;exact ⟨rfl, ao.out⟩
 subst hc;have ay := hid (Uj w [V 10, V 0, V 0, V 0, .slice da 0 dc, .slice ka nk kc] 71);have b0 := hid (Blk.newL w [V 10, V 0, V 0, V 0, .slice da 0 dc, .slice ka nk kc] 71)
 by_cases h3 : 8192 < nk
 case pos =>
  have Gv : (8192 : Int) < nk := by omega
  rw [show TY 10 0 0 0 0 nk = 4 from by unfold TY Ub; rw [if_neg (by omega), if_neg (by omega), if_neg (by omega), if_pos h3]]
  go_enter Tryz.func49, Tryz.ntmps49
  go_wp2_with fail
  refine (TV _ _ _ _).mono ?_;rintro e w1 ⟨rfl, af⟩;have ao := hid (ay.out.trans af);have b1 := hid (b0.out.same af);have c0 := b1.out.cell 0;have c1 := b1.out.cell 1;have c2 := b1.out.cell 2;have c3 := b1.out.cell 3;have c4 := b1.out.cell 4;have c5 := b1.out.cell 5;clear af;rw [show inB 10 1 11 = true from by decide]
  go_wp2_with fail
  refine (TV _ _ _ _).mono ?_;rintro e w2 ⟨rfl, ae⟩;have ap := hid (ao.out.trans ae);have b2 := hid (b1.out.same ae);have d0 := b2.out.cell 0;have d1 := b2.out.cell 1;have d2 := b2.out.cell 2;have d3 := b2.out.cell 3;have d4 := b2.out.cell 4;have d5 := b2.out.cell 5;clear ae;rw [show inB 0 (-1) 1000000 = true from by decide];go_wp2;go_ret;exact ⟨rfl, ap.out⟩
 rw [show TY 10 0 0 0 0 nk = 0 from by unfold TY Ub; rw [if_neg (by omega), if_neg (by omega), if_neg (by omega), if_neg h3]]
 have Gv : ¬ (8192 : Int) < nk := by omega
 go_enter Tryz.func49, Tryz.ntmps49
 go_wp2_with fail
 refine (TV _ _ _ _).mono ?_;rintro e w1 ⟨rfl, af⟩;have ao := hid (ay.out.trans af);have b1 := hid (b0.out.same af);have c0 := b1.out.cell 0;have c1 := b1.out.cell 1;have c2 := b1.out.cell 2;have c3 := b1.out.cell 3;have c4 := b1.out.cell 4;have c5 := b1.out.cell 5;clear af;rw [show inB 10 1 11 = true from by decide]
 go_wp2_with fail
 refine (TV _ _ _ _).mono ?_;rintro e w2 ⟨rfl, ae⟩;have ap := hid (ao.out.trans ae);have b2 := hid (b1.out.same ae);have d0 := b2.out.cell 0;have d1 := b2.out.cell 1;have d2 := b2.out.cell 2;have d3 := b2.out.cell 3;have d4 := b2.out.cell 4;have d5 := b2.out.cell 5;clear ae;rw [show inB 0 (-1) 1000000 = true from by decide];go_wp2;go_ret;exact ⟨rfl, ap.out⟩
theorem jdx (t i c : Int) (da : Option Addr) (nd dc : Nat) (ka : Option Addr) (nk kc : Nat) (w : World) (hn : nd ≤ maxLen) (hm : nk ≤ maxLen) : Calls Tryz.prog 49 #[.agg #[V 11, V t, V i, V c, .slice da nd dc, .slice ka nk kc]] w fun e w' => e = .returned (V (TY 11 t i c nd nk)) ∧ Same w w' := by
 unfold maxLen at hn hm
 by_cases ht : t = 0
 case neg =>
  rw [show TY 11 t i c nd nk = 2 from by unfold TY Ub; rw [if_neg (by omega), if_pos (by omega)]];have ay := hid (Uj w [V 11, V t, V i, V c, .slice da nd dc, .slice ka nk kc] 71);have b0 := hid (Blk.newL w [V 11, V t, V i, V c, .slice da nd dc, .slice ka nk kc] 71)
  go_enter Tryz.func49, Tryz.ntmps49
  go_wp2_with fail
  refine (TV _ _ _ _).mono ?_;rintro e w1 ⟨rfl, af⟩;have ao := hid (ay.out.trans af);have b1 := hid (b0.out.same af);have c0 := b1.out.cell 0;have c1 := b1.out.cell 1;have c2 := b1.out.cell 2;have c3 := b1.out.cell 3;have c4 := b1.out.cell 4;have c5 := b1.out.cell 5;clear af;rw [show inB 11 1 11 = true from by decide];go_wp2;go_ret;exact ⟨rfl, ao.out⟩
 subst ht
 by_cases hi : i = 0
 case neg =>
  rw [show TY 11 0 i c nd nk = 2 from by unfold TY Ub; rw [if_neg (by omega), if_pos (by omega)]];have ay := hid (Uj w [V 11, V 0, V i, V c, .slice da nd dc, .slice ka nk kc] 71);have b0 := hid (Blk.newL w [V 11, V 0, V i, V c, .slice da nd dc, .slice ka nk kc] 71)
  go_enter Tryz.func49, Tryz.ntmps49
  go_wp2_with fail
  refine (TV _ _ _ _).mono ?_;rintro e w1 ⟨rfl, af⟩;have ao := hid (ay.out.trans af);have b1 := hid (b0.out.same af);have c0 := b1.out.cell 0;have c1 := b1.out.cell 1;have c2 := b1.out.cell 2;have c3 := b1.out.cell 3;have c4 := b1.out.cell 4;have c5 := b1.out.cell 5;clear af;rw [show inB 11 1 11 = true from by decide];go_wp2;go_ret;exact ⟨rfl, ao.out⟩
 subst hi
 by_cases eU : nd = 0
 case neg =>
  have iR : 0 < (nd : Int) := by omega
  rw [show TY 11 0 0 c nd nk = 2 from by unfold TY Ub; rw [if_neg (by omega), if_pos (by omega)]];have ay := hid (Uj w [V 11, V 0, V 0, V c, .slice da nd dc, .slice ka nk kc] 71);have b0 := hid (Blk.newL w [V 11, V 0, V 0, V c, .slice da nd dc, .slice ka nk kc] 71)
  go_enter Tryz.func49, Tryz.ntmps49
  go_wp2_with fail
  refine (TV _ _ _ _).mono ?_;rintro e w1 ⟨rfl, af⟩;have ao := hid (ay.out.trans af);have b1 := hid (b0.out.same af);have c0 := b1.out.cell 0;have c1 := b1.out.cell 1;have c2 := b1.out.cell 2;have c3 := b1.out.cell 3;have c4 := b1.out.cell 4;have c5 := b1.out.cell 5;clear af;rw [show inB 11 1 11 = true from by decide];go_wp2;go_ret;exact ⟨rfl, ao.out⟩
 subst eU
 by_cases hnk : nk = 0
 case neg =>
  have il : 0 < (nk : Int) := by omega
  rw [show TY 11 0 0 c 0 nk = 2 from by unfold TY Ub; rw [if_neg (by omega), if_pos (by omega)]];have ay := hid (Uj w [V 11, V 0, V 0, V c, .slice da 0 dc, .slice ka nk kc] 71);have b0 := hid (Blk.newL w [V 11, V 0, V 0, V c, .slice da 0 dc, .slice ka nk kc] 71)
  go_enter Tryz.func49, Tryz.ntmps49
  go_wp2_with fail
  refine (TV _ _ _ _).mono ?_;rintro e w1 ⟨rfl, af⟩;have ao := hid (ay.out.trans af);have b1 := hid (b0.out.same af);have c0 := b1.out.cell 0;have c1 := b1.out.cell 1;have c2 := b1.out.cell 2;have c3 := b1.out.cell 3;have c4 := b1.out.cell 4;have c5 := b1.out.cell 5;clear af;rw [show inB 11 1 11 = true from by decide];go_wp2;go_ret;exact ⟨rfl, ao.out⟩
 subst hnk;have ay := hid (Uj w [V 11, V 0, V 0, V c, .slice da 0 dc, .slice ka 0 kc] 71);have b0 := hid (Blk.newL w [V 11, V 0, V 0, V c, .slice da 0 dc, .slice ka 0 kc] 71)
 by_cases h3 : c < -1 ∨ 1000000 < c
 case pos =>
  rw [show TY 11 0 0 c 0 0 = 3 from by unfold TY Ub; rw [if_neg (by omega), if_neg (by omega), if_pos h3]]
  go_enter Tryz.func49, Tryz.ntmps49
  go_wp2_with fail
  refine (TV _ _ _ _).mono ?_;rintro e w1 ⟨rfl, af⟩;have ao := hid (ay.out.trans af);have b1 := hid (b0.out.same af);have c0 := b1.out.cell 0;have c1 := b1.out.cell 1;have c2 := b1.out.cell 2;have c3 := b1.out.cell 3;have c4 := b1.out.cell 4;have c5 := b1.out.cell 5;clear af;rw [show inB 11 1 11 = true from by decide]
  go_wp2_with fail
  refine (TV _ _ _ _).mono ?_;rintro e w2 ⟨rfl, ae⟩;have ap := hid (ao.out.trans ae);have b2 := hid (b1.out.same ae);have d0 := b2.out.cell 0;have d1 := b2.out.cell 1;have d2 := b2.out.cell 2;have d3 := b2.out.cell 3;have d4 := b2.out.cell 4;have d5 := b2.out.cell 5;clear ae;rw [show inB c (-1) 1000000 = false from by simp [inB]; omega];go_wp2;go_ret;exact ⟨rfl, ap.out⟩
 rw [show TY 11 0 0 c 0 0 = 0 from by unfold TY Ub; rw [if_neg (by omega), if_neg (by omega), if_neg h3, if_neg (by omega)]]
 go_enter Tryz.func49, Tryz.ntmps49
 go_wp2_with fail
 refine (TV _ _ _ _).mono ?_;rintro e w1 ⟨rfl, af⟩;have ao := hid (ay.out.trans af);have b1 := hid (b0.out.same af);have c0 := b1.out.cell 0;have c1 := b1.out.cell 1;have c2 := b1.out.cell 2;have c3 := b1.out.cell 3;have c4 := b1.out.cell 4;have c5 := b1.out.cell 5;clear af;rw [show inB 11 1 11 = true from by decide]
 go_wp2_with fail
 refine (TV _ _ _ _).mono ?_;rintro e w2 ⟨rfl, ae⟩;have ap := hid (ao.out.trans ae);have b2 := hid (b1.out.same ae);have d0 := b2.out.cell 0;have d1 := b2.out.cell 1;have d2 := b2.out.cell 2;have d3 := b2.out.cell 3;have d4 := b2.out.cell 4;have d5 := b2.out.cell 5;clear ae;rw [show inB c (-1) 1000000 = true from by simp [inB]; omega];go_wp2;go_ret;exact ⟨rfl, ap.out⟩
theorem jci (k t i c : Int) (da : Option Addr) (nd dc : Nat) (ka : Option Addr) (nk kc : Nat) (w : World) (hn : nd ≤ maxLen) (hm : nk ≤ maxLen) : Calls Tryz.prog 49 #[.agg #[V k, V t, V i, V c, .slice da nd dc, .slice ka nk kc]] w fun e w' => e = .returned (V (TY k t i c nd nk)) ∧ Same w w' := by
 by_cases h : k < 1 ∨ 11 < k
 ·rw [show TY k t i c nd nk = 1 from by unfold TY; rw [if_pos h]]
  have ay := hid (Uj w [V k, V t, V i, V c, .slice da nd dc, .slice ka nk kc] 71)
  go_enter Tryz.func49, Tryz.ntmps49
  go_wp2_with fail
  refine (TV _ _ _ _).mono ?_;rintro e w1 ⟨rfl, af⟩;have ao := hid (ay.out.trans af);rw [show inB k 1 11 = false from by simp [inB]; omega];go_wp2;go_ret;exact ⟨rfl, ao.out⟩
 ·obtain rfl | rfl | rfl | rfl | rfl | rfl | rfl | rfl | rfl | rfl | rfl : k = 1 ∨ k = 2 ∨ k = 3 ∨ k = 4 ∨ k = 5 ∨ k = 6 ∨ k = 7 ∨ k = 8 ∨ k = 9 ∨ k = 10 ∨ k = 11 := by omega
  ·exact jeq t i c da nd dc ka nk kc w hn hm
  ·exact jer t i c da nd dc ka nk kc w hn hm
  ·exact jes t i c da nd dc ka nk kc w hn hm
  ·exact jet t i c da nd dc ka nk kc w hn hm
  ·exact jeu t i c da nd dc ka nk kc w hn hm
  ·exact jev t i c da nd dc ka nk kc w hn hm
  ·exact jew t i c da nd dc ka nk kc w hn hm
  ·exact jex t i c da nd dc ka nk kc w hn hm
  ·exact jey t i c da nd dc ka nk kc w hn hm
  ·exact jdw t i c da nd dc ka nk kc w hn hm
  ·exact jdx t i c da nd dc ka nk kc w hn hm
end Go.Proofs.YtljfcdkhicffcaaGreat
