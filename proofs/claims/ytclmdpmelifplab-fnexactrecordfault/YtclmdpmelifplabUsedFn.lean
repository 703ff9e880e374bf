/-
  PageUsed.
-/
import Derived.Test.YtclmdpmelifplabOwnFn
namespace Go.Proofs.Ytclmdpmelifplab
open Go.RowKit
set_option linter.unusedVariables false
set_option linter.unusedSimpArgs false

/-- The lengths of the first k slots. -/
def usedN (sl : List Int) : Nat → Int
  | 0 => 0
  | k + 1 => usedN sl k + sl.getD (2 * k + 1) 0
theorem usedN_small (sl : List Int) (h : Small sl) (k : Nat) : 0 ≤ usedN sl k ∧ usedN sl k ≤ 65535 * k := by
  induction k with
  | zero => simp [usedN]
  | succ k ih =>
    have := h.at (2 * k + 1)
    simp only [usedN]
    omega
def pageUsed (raw : List Int) : Int := if ownOK raw = true then usedN (slotsOf raw) 32 else -1

end Go.Proofs.Ytclmdpmelifplab
