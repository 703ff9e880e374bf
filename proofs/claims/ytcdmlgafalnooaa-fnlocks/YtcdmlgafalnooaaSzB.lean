/-
  szByteS: how the laws count bytes.
-/
import Derived.Test.YtcdmlgafalnooaaRead
import Derived.Test.YtcdmlgafalnooaaBytes
namespace Go.Proofs.Ytcdmlgafalnooaa
set_option maxHeartbeats 400000
open Go.RowKit

end Go.Proofs.Ytcdmlgafalnooaa
