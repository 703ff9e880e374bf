/-
  sz.., to..: how the laws count an argument and copy it.
-/
import Derived.Test.YtcdmlgafalnooaaRead
import Derived.Test.YtcdmlgafalnooaaDisk
import Derived.Test.YtcdmlgafalnooaaCopyB
import Derived.Test.YtcdmlgafalnooaaSzB
namespace Go.Proofs.Ytcdmlgafalnooaa
set_option maxHeartbeats 1000000
open Go.RowKit

end Go.Proofs.Ytcdmlgafalnooaa
