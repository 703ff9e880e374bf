/-
  szByteS: how the laws count bytes.
-/
import Derived.Test.YtagcefbnhpkdiaaRead
import Derived.Test.YtagcefbnhpkdiaaBytes
namespace Go.Proofs.Ytagcefbnhpkdiaa
set_option maxHeartbeats 400000
open Go.RowKit

end Go.Proofs.Ytagcefbnhpkdiaa
