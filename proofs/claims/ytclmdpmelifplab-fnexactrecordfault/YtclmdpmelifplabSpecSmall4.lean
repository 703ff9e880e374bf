/-
  l4In, l4Empty, l4Slot.
-/
import Derived.Test.YtclmdpmelifplabRecMath
import Derived.Test.YtclmdpmelifplabL4In
namespace Go.Proofs.Ytclmdpmelifplab
open Go.RowKit
set_option linter.unusedVariables false
set_option linter.unusedSimpArgs false

def emptyB (u : Bool) (n : Nat) : Bool := !u && decide (n = 0)
set_option maxRecDepth 100000 in
theorem l4Empty_any (u : Bool) (a : Option Addr) (n c : Nat) (w : World) (hn : n ≤ maxLen) : Calls Try.prog 52 #[.agg #[.bool u, .slice a n c]] w fun e w' => e = .returned (.bool (emptyB u n)) ∧ Same w w' := by
  unfold maxLen at hn
  unfold emptyB
  cases u with
  | true =>
    go_enter Try.func52, Try.ntmps52
    go_wp2
    go_ret
    exact ⟨by simp, (Kept.refl _ _).alloc _⟩
  | false =>
    by_cases h0 : n = 0
    · subst h0
      go_enter Try.func52, Try.ntmps52
      go_wp2
      go_ret
      exact ⟨by simp, (Kept.refl _ _).alloc _⟩
    · have h0' : ¬ (n : Int) = 0 := by omega
      go_enter Try.func52, Try.ntmps52
      go_wp2
      go_ret
      exact ⟨by simp [h0], (Kept.refl _ _).alloc _⟩
set_option maxRecDepth 100000 in
theorem l4Slot_any (u : Bool) (a : Option Addr) (n c : Nat) (w : World) (hn : n ≤ maxLen) : Calls Try.prog 33 #[.agg #[.bool u, .slice a n c]] w fun e w' => e = .returned (.bool (fitsB u n)) ∧ Same w w' := by
  unfold maxLen at hn
  unfold fitsB
  by_cases h : (n : Int) ≤ 1000
  · have h1 : n ≤ 1000 := by omega
    cases u with
    | true =>
      go_enter Try.func33, Try.ntmps33
      go_wp2
      go_ret
      exact ⟨by simp [h1], (Kept.refl _ _).alloc _⟩
    | false =>
      by_cases h0 : n = 0
      · subst h0
        go_enter Try.func33, Try.ntmps33
        go_wp2
        go_ret
        exact ⟨by simp, (Kept.refl _ _).alloc _⟩
      · have h0' : ¬ (n : Int) = 0 := by omega
        go_enter Try.func33, Try.ntmps33
        go_wp2
        go_ret
        exact ⟨by simp [h0, h1], (Kept.refl _ _).alloc _⟩
  · have h1 : ¬ n ≤ 1000 := by omega
    go_enter Try.func33, Try.ntmps33
    go_wp2
    go_ret
    exact ⟨by simp [h1], (Kept.refl _ _).alloc _⟩
end Go.Proofs.Ytclmdpmelifplab
