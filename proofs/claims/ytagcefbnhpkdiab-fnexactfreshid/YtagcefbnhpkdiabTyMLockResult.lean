/-
  LockResult of the laws: marks (by tools/tygen.py).
-/
import Derived.Test.YtagcefbnhpkdiabTyLockResult
import Derived.Test.YtagcefbnhpkdiabTyMLockS
namespace Go.Proofs.Ytagcefbnhpkdiab
set_option maxRecDepth 100000
set_option maxHeartbeats 4000000
open Go.RowKit
set_option linter.unusedVariables false
set_option linter.unusedSimpArgs false


end Go.Proofs.Ytagcefbnhpkdiab
