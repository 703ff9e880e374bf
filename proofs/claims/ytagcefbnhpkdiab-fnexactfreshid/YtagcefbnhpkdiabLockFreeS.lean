/-
  spec.LockFree (by tools/gen/lockfree.py).
-/
import Derived.Test.YtagcefbnhpkdiabLockGet
import Derived.Test.YtagcefbnhpkdiabApp3
import Derived.Test.YtagcefbnhpkdiabTyLockResult
namespace Go.Proofs.Ytagcefbnhpkdiab
set_option maxRecDepth 100000
set_option maxHeartbeats 4000000
open Go.RowKit
set_option linter.unusedVariables false
set_option linter.unusedSimpArgs false

def freeP (ls : List T3) (txn : Int) : Int × List Int := if locksF ls = 0 then (0, flat3 (ls.filter (fun l => decide (l.2.1 ≠ txn)))) else (2, [])

end Go.Proofs.Ytagcefbnhpkdiab
