/-
  Lists of Lock in the laws (by tools/tygen.py).
-/
import Derived.Test.YtagcefbnhpkdiaaFlatRows
import Derived.Test.YtagcefbnhpkdiaaBlk
import Derived.Test.YtagcefbnhpkdiaaSzB
import Derived.Deep.DeepCutAuto
import Derived.Deep.RegionHeld3
namespace Go.Proofs.Ytagcefbnhpkdiaa
set_option maxHeartbeats 2000000
open Go.RowKit
set_option linter.unusedVariables false
set_option linter.unusedSimpArgs false

end Go.Proofs.Ytagcefbnhpkdiaa
