/-
  szByteS: how the laws count bytes.
-/
import Derived.Test.YtagcefbnhpkdiabRead
import Derived.Test.YtagcefbnhpkdiabBytes
namespace Go.Proofs.Ytagcefbnhpkdiab
set_option maxHeartbeats 400000
open Go.RowKit

end Go.Proofs.Ytagcefbnhpkdiab
