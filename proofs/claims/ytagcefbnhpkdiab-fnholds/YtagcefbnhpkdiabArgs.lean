/-
  sz.., to..: how the laws count an argument and copy it.
-/
import Derived.Test.YtagcefbnhpkdiabRead
import Derived.Test.YtagcefbnhpkdiabDisk
import Derived.Test.YtagcefbnhpkdiabCopyB
import Derived.Test.YtagcefbnhpkdiabSzB
namespace Go.Proofs.Ytagcefbnhpkdiab
set_option maxHeartbeats 1000000
open Go.RowKit

end Go.Proofs.Ytagcefbnhpkdiab
