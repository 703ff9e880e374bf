/-
  impl.isTxn, impl.wrongLock, impl.together, impl.inConflict; cmp.Compare at int64.
-/
import Derived.Test.YtagcefbnhpkdiaaLockSpec
import Derived.Test.YtagcefbnhpkdiaaDrawn
namespace Go.Proofs.Ytagcefbnhpkdiaa
set_option maxRecDepth 100000
set_option maxHeartbeats 4000000
open Go.RowKit
set_option linter.unusedVariables false
set_option linter.unusedSimpArgs false

theorem isTxn8_any (x : Int) (w : World) : Calls Try.prog 39 #[.int .i64 x] w fun e w' => e = .returned (.bool (inB x 1 2147483647)) ∧ w' = w := by
  unfold inB
  by_cases h : 1 ≤ x
  · by_cases h2 : x ≤ 2147483647
    · go_enter Try.func39, Try.ntmps39
      go_wp2
      go_ret
      exact ⟨by simp [h, h2], rfl⟩
    · go_enter Try.func39, Try.ntmps39
      go_wp2
      go_ret
      exact ⟨by simp [h]; try omega, rfl⟩
  · go_enter Try.func39, Try.ntmps39
    go_wp2
    go_ret
    exact ⟨by rw [show decide (1 ≤ x) = false from by simp; omega]; rfl, rfl⟩

theorem isId8_any (x : Int) (w : World) : Calls Try.prog 40 #[.int .i64 x] w fun e w' => e = .returned (.bool (inB x 0 511)) ∧ w' = w := by
  unfold inB
  by_cases h : 0 ≤ x
  · by_cases h2 : x ≤ 511
    · go_enter Try.func40, Try.ntmps40
      go_wp2
      go_ret
      exact ⟨by simp [h]; try omega, rfl⟩
    · go_enter Try.func40, Try.ntmps40
      go_wp2
      go_ret
      exact ⟨by simp [h]; try omega, rfl⟩
  · go_enter Try.func40, Try.ntmps40
    go_wp2
    go_ret
    exact ⟨by rw [show decide (0 ≤ x) = false from by simp; omega]; rfl, rfl⟩

def togB (a b : Int) : Bool := decide (a = 0) || decide (b = 0) || decide (a = 1) && decide (b = 1)
theorem isNaN8_any (x : Int) (w : World) : Calls Try.prog 53 #[.int .i64 x] w fun e w' => e = .returned (.bool false) ∧ w' = w := by
  go_enter Try.func53, Try.ntmps53
  go_wp2
  go_ret
  exact ⟨by simp, rfl⟩
def cmpI (x y : Int) : Int := if x < y then -1 else if y < x then 1 else 0
theorem compare8_any (x y : Int) (w : World) : Calls Try.prog 50 #[.int .i64 x, .int .i64 y] w fun e w' => e = .returned (.int .i64 (cmpI x y)) ∧ w' = w := by
  have k0 := isNaN8_any x
  have k1 := isNaN8_any y
  unfold cmpI
  by_cases h : x < y
  · rw [if_pos h]
    go_enter Try.func50, Try.ntmps50
    go_wp2_with fail
    refine (k0 _).mono ?_
    rintro e w1 ⟨rfl, rfl⟩
    go_wp2_with fail
    refine (k1 _).mono ?_
    rintro e w1 ⟨rfl, rfl⟩
    go_wp2
    go_ret
    exact ⟨rfl, rfl⟩
  · rw [if_neg h]
    by_cases h2 : y < x
    · rw [if_pos h2]
      go_enter Try.func50, Try.ntmps50
      go_wp2_with fail
      refine (k0 _).mono ?_
      rintro e w1 ⟨rfl, rfl⟩
      go_wp2_with fail
      refine (k1 _).mono ?_
      rintro e w1 ⟨rfl, rfl⟩
      go_wp2
      go_ret
      exact ⟨rfl, rfl⟩
    · rw [if_neg h2]
      go_enter Try.func50, Try.ntmps50
      go_wp2_with fail
      refine (k0 _).mono ?_
      rintro e w1 ⟨rfl, rfl⟩
      go_wp2_with fail
      refine (k1 _).mono ?_
      rintro e w1 ⟨rfl, rfl⟩
      go_wp2
      go_ret
      exact ⟨rfl, rfl⟩
end Go.Proofs.Ytagcefbnhpkdiaa
