/-
  isPage.
-/
import Derived.Test.YtclmdpmelifplabBytes
import Derived.Test.YtclmdpmelifplabRead
namespace Go.Proofs.Ytclmdpmelifplab
open Go.RowKit
set_option linter.unusedVariables false
set_option linter.unusedSimpArgs false
def isPageB (x : Int) : Bool := decide (0 ≤ x) && decide (x < 16)
set_option maxRecDepth 100000 in
theorem isPage_any (x : Int) (w : World) : Calls Try.prog 41 #[.int .i64 x] w fun e w' => e = .returned (.bool (isPageB x)) ∧ Same w w' := by
  unfold isPageB
  by_cases h : 0 ≤ x
  · by_cases h2 : x < 16
    · go_enter Try.func41, Try.ntmps41
      go_wp2
      go_ret
      exact ⟨by simp [h, h2], Kept.refl _ _⟩
    · go_enter Try.func41, Try.ntmps41
      go_wp2
      go_ret
      exact ⟨by simp [h]; omega, Kept.refl _ _⟩
  · go_enter Try.func41, Try.ntmps41
    go_wp2
    go_ret
    exact ⟨by rw [show decide (0 ≤ x) = false from by simp; omega]; rfl, Kept.refl _ _⟩
set_option maxRecDepth 100000 in
theorem isPage_eq (x : Int) (w : World) : Calls Try.prog 41 #[.int .i64 x] w fun e w' => e = .returned (.bool (isPageB x)) ∧ w' = w := by
  unfold isPageB
  by_cases h : 0 ≤ x
  · by_cases h2 : x < 16
    · go_enter Try.func41, Try.ntmps41
      go_wp2
      go_ret
      exact ⟨by simp [h, h2], rfl⟩
    · go_enter Try.func41, Try.ntmps41
      go_wp2
      go_ret
      exact ⟨by simp [h]; omega, rfl⟩
  · go_enter Try.func41, Try.ntmps41
    go_wp2
    go_ret
    exact ⟨by rw [show decide (0 ≤ x) = false from by simp; omega]; rfl, rfl⟩
end Go.Proofs.Ytclmdpmelifplab
