/-
  l4In, l4Empty, l4Slot.
-/
import Derived.Test.YtekpfafmhgplpaaRecMath
namespace Go.Proofs.Ytekpfafmhgplpaa
open Go.RowKit
set_option linter.unusedVariables false
set_option linter.unusedSimpArgs false

def inB (v a b : Int) : Bool := decide (a ≤ v) && decide (v ≤ b)
set_option maxRecDepth 100000 in
theorem l4In_any (v a b : Int) (w : World) : Calls Try.prog 59 #[.int .i64 v, .int .i64 a, .int .i64 b] w fun e w' => e = .returned (.bool (inB v a b)) ∧ Same w w' := by
  unfold inB
  by_cases h : a ≤ v
  · by_cases h2 : v ≤ b
    · go_enter Try.func59, Try.ntmps59
      go_wp2
      go_ret
      exact ⟨by simp [h, h2], Kept.refl _ _⟩
    · go_enter Try.func59, Try.ntmps59
      go_wp2
      go_ret
      exact ⟨by simp [h]; try omega, Kept.refl _ _⟩
  · go_enter Try.func59, Try.ntmps59
    go_wp2
    go_ret
    exact ⟨by rw [show decide (a ≤ v) = false from by simp; omega]; rfl, Kept.refl _ _⟩
def emptyB (u : Bool) (n : Nat) : Bool := !u && decide (n = 0)
set_option maxRecDepth 100000 in
theorem l4Empty_any (u : Bool) (a : Option Addr) (n c : Nat) (w : World) (hn : n ≤ maxLen) : Calls Try.prog 80 #[.agg #[.bool u, .slice a n c]] w fun e w' => e = .returned (.bool (emptyB u n)) ∧ Same w w' := by
  unfold maxLen at hn
  unfold emptyB
  cases u with
  | true =>
    go_enter Try.func80, Try.ntmps80
    go_wp2
    go_ret
    exact ⟨by simp, (Kept.refl _ _).alloc _⟩
  | false =>
    by_cases h0 : n = 0
    · subst h0
      go_enter Try.func80, Try.ntmps80
      go_wp2
      go_ret
      exact ⟨by simp, (Kept.refl _ _).alloc _⟩
    · have h0' : ¬ (n : Int) = 0 := by omega
      go_enter Try.func80, Try.ntmps80
      go_wp2
      go_ret
      exact ⟨by simp [h0], (Kept.refl _ _).alloc _⟩
set_option maxRecDepth 100000 in
theorem l4Slot_any (u : Bool) (a : Option Addr) (n c : Nat) (w : World) (hn : n ≤ maxLen) : Calls Try.prog 61 #[.agg #[.bool u, .slice a n c]] w fun e w' => e = .returned (.bool (fitsB u n)) ∧ Same w w' := by
  unfold maxLen at hn
  unfold fitsB
  by_cases h : (n : Int) ≤ 1000
  · have h1 : n ≤ 1000 := by omega
    cases u with
    | true =>
      go_enter Try.func61, Try.ntmps61
      go_wp2
      go_ret
      exact ⟨by simp [h1], (Kept.refl _ _).alloc _⟩
    | false =>
      by_cases h0 : n = 0
      · subst h0
        go_enter Try.func61, Try.ntmps61
        go_wp2
        go_ret
        exact ⟨by simp, (Kept.refl _ _).alloc _⟩
      · have h0' : ¬ (n : Int) = 0 := by omega
        go_enter Try.func61, Try.ntmps61
        go_wp2
        go_ret
        exact ⟨by simp [h0, h1], (Kept.refl _ _).alloc _⟩
  · have h1 : ¬ n ≤ 1000 := by omega
    go_enter Try.func61, Try.ntmps61
    go_wp2
    go_ret
    exact ⟨by simp [h1], (Kept.refl _ _).alloc _⟩
end Go.Proofs.Ytekpfafmhgplpaa
