/-
  THE DRAWS: what a source of drawn numbers is, and what it gives: no more is said of a number than its bounds.
-/
import Derived.Test.YtagcefbnhpkdiabCopyB
import Derived.Test.YtagcefbnhpkdiabBlk
import Derived.Deep.AppendLies
namespace Go.Proofs.Ytagcefbnhpkdiab
set_option maxRecDepth 100000
set_option maxHeartbeats 4000000
open Go.RowKit
set_option linter.unusedVariables false

/-- What a draw gives. -/
def Drawn (n r : Int) : Prop := (n < 1 → r = 0) ∧ (1 ≤ n → 0 ≤ r ∧ r < n)

theorem Own.emptyAt (w : World) (e : TypeId) : Own w.heap.size e .u8 (w.alloc (Obj.cells #[] e)) (.slice (some ⟨w.heap.size, 0, none⟩) 0 0) [] :=
  ⟨by simp [vals], .inr ⟨w.heap.size, 0, #[], rfl, Nat.le_refl _, by unfold World.alloc; exact Array.getElem?_push_size, Nat.le_refl _, Nat.zero_le _, by simp [vals]⟩⟩
theorem shl_small (r : Nat) (h : r < 63) : 1 ≤ (2 : Int) ^ r ∧ (2 : Int) ^ r ≤ 4611686018427387904 := by
  have h1 : 1 ≤ 2 ^ r := Nat.one_le_two_pow
  have h2 : 2 ^ r ≤ 2 ^ 62 := Nat.pow_le_pow_right (by decide) (by omega)
  have e : ((2 ^ r : Nat) : Int) = (2 : Int) ^ r := by simp
  rw [← e]
  omega


end Go.Proofs.Ytagcefbnhpkdiab
