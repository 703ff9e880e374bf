/-
  spec.LocksFault (by tools/gen/lockspec.py).
-/
import Derived.Test.YtagcefbnhpkdiaaTri
import Derived.Test.YtagcefbnhpkdiaaL4In
import Derived.Test.YtagcefbnhpkdiaaBlk
namespace Go.Proofs.Ytagcefbnhpkdiaa
set_option maxRecDepth 100000
set_option maxHeartbeats 4000000
open Go.RowKit
set_option linter.unusedVariables false
set_option linter.unusedSimpArgs false

def lkBad (l : T3) : Bool := !inB l.1 0 511 || !inB l.2.1 1 2147483647 || !inB l.2.2 1 2
def lkAfter (a b : T3) : Bool := decide (b.1 < a.1) || decide (a.1 = b.1) && decide (b.2.1 ≤ a.2.1)
def lkClash (a b : T3) : Bool := decide (a.1 = b.1) && (decide (a.2.2 = 2) || decide (b.2.2 = 2))
def locksF (ls : List T3) : Int := if 4096 < ls.length then 1 else if ls.any lkBad then 2 else if nbr lkAfter ls then 3 else if nbr lkClash ls then 4 else 0

end Go.Proofs.Ytagcefbnhpkdiaa
