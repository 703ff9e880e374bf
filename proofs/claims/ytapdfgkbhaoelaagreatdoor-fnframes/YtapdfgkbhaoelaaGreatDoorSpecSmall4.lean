import Derived.Test.YtapdfgkbhaoelaaGreatDoorG06
namespace Go.Proofs.YtapdfgkbhaoelaaGreatDoor
set_option linter.unusedVariables false
set_option linter.unusedSimpArgs false
open Go.RowKit
def Qn (u : Bool) (n : Nat) : Bool := !u && decide (n = 0)
set_option maxRecDepth 100000 in
theorem VP (u : Bool) (a : Option Addr) (n c : Nat) (w : World) (hn : n ≤ maxLen) : Calls Tryz.prog 80 #[.agg #[.bool u, .slice a n c]] w fun e w' => e = .returned (.bool (Qn u n)) ∧ Same w w' := by
 unfold maxLen at hn;unfold Qn
 cases u with
 | true =>
  go_enter Tryz.func80, Tryz.ntmps80
  go_wp2;go_ret;exact ⟨by simp, kZ0.alloc _⟩
 | false =>
  by_cases h0 : n = 0
  ·subst h0
   go_enter Tryz.func80, Tryz.ntmps80
   go_wp2;go_ret;exact ⟨by simp, kZ0.alloc _⟩
  ·have ov : ¬ (n : Int) = 0 := by omega
   go_enter Tryz.func80, Tryz.ntmps80
   go_wp2;go_ret;exact ⟨by simp [h0], kZ0.alloc _⟩
set_option maxRecDepth 100000 in
theorem Xp (u : Bool) (a : Option Addr) (n c : Nat) (w : World) (hn : n ≤ maxLen) : Calls Tryz.prog 34 #[.agg #[.bool u, .slice a n c]] w fun e w' => e = .returned (.bool (QN u n)) ∧ Same w w' := by
 unfold maxLen at hn;unfold QN
 by_cases h : (n : Int) ≤ 1000
 ·have h1 : n ≤ 1000 := by omega
  cases u with
  | true =>
   go_enter Tryz.func34, Tryz.ntmps34
   go_wp2;go_ret;exact ⟨by simp [h1], kZ0.alloc _⟩
  | false =>
   by_cases h0 : n = 0
   ·subst h0
    go_enter Tryz.func34, Tryz.ntmps34
    go_wp2;go_ret;exact ⟨by simp, kZ0.alloc _⟩
   ·have ov : ¬ (n : Int) = 0 := by omega
    go_enter Tryz.func34, Tryz.ntmps34
    go_wp2;go_ret;exact ⟨by simp [h0, h1], kZ0.alloc _⟩
 ·have h1 : ¬ n ≤ 1000 := by omega
  go_enter Tryz.func34, Tryz.ntmps34
  go_wp2;go_ret;exact ⟨by simp [h1], kZ0.alloc _⟩
end Go.Proofs.YtapdfgkbhaoelaaGreatDoor
