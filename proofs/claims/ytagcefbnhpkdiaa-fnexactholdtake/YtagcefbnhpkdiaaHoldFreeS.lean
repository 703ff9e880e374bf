/-
  spec.HoldFree.
-/
import Derived.Test.YtagcefbnhpkdiaaHoldSpec
import Derived.Test.YtagcefbnhpkdiaaApp3
import Derived.Test.YtagcefbnhpkdiaaTyHoldS
namespace Go.Proofs.Ytagcefbnhpkdiaa
set_option maxRecDepth 100000
set_option maxHeartbeats 4000000
open Go.RowKit
set_option linter.unusedVariables false
set_option linter.unusedSimpArgs false

def freeH (hs : List T3) (txn : Int) : List Int := if holdsF hs = 0 then flat3 (hs.filter (fun l => decide (l.2.1 ≠ txn))) else []
theorem freeH_small {bs : List Int} {n : Nat} {txn : Int} (hl : bs.length = n * 3) (hp : n ≤ 1048576) : (freeH (tri bs) txn).length ≤ 16777216 := by
  unfold freeH
  split
  · rw [flat3_length]
    have h1 := List.length_filter_le (fun l : T3 => decide (l.2.1 ≠ txn)) (tri bs)
    have h2 := tri_length n bs hl
    omega
  · simp

end Go.Proofs.Ytagcefbnhpkdiaa
