/-
  spec.LockAsk (by tools/gen/lockask.py).
-/
import Derived.Test.YtagcefbnhpkdiabLockFreeS
namespace Go.Proofs.Ytagcefbnhpkdiab
set_option maxRecDepth 100000
set_option maxHeartbeats 8000000
open Go.RowKit
set_option linter.unusedVariables false
set_option linter.unusedSimpArgs false

/-- a lock is laid into its place; what was held under its key is left out; d: it lies already -/
def insF (e : T3) : Bool → List T3 → List T3
  | true, [] => []
  | false, [] => [e]
  | d, l :: t => if l.1 = e.1 ∧ l.2.1 = e.2.1 then insF e d t else if !d ∧ (e.1 < l.1 ∨ l.1 = e.1 ∧ e.2.1 < l.2.1) then e :: l :: insF e true t else l :: insF e d t
def askP (ls : List T3) (txn id mode : Int) : Int × List Int :=
  if locksF ls = 0 ∧ inB id 0 511 ∧ inB txn 1 2147483647 ∧ inB mode 1 2 then
    (if modeP ls txn id = 0 ∧ ls.length = 4096 then (2, []) else if othersP ls txn id = 2 ∨ ¬ othersP ls txn id = 0 ∧ mode = 2 then (1, []) else
      (0, flat3 (insF (id, txn, if mode < modeP ls txn id then modeP ls txn id else mode) false ls)))
  else (2, [])

end Go.Proofs.Ytagcefbnhpkdiab
