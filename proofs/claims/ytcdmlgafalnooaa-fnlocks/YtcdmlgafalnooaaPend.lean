/-
  THE SAME OF PENDING WRITES AND DISKS: eqSectorWrite(S), markSectorWriteS, heldSectorWriteS, eqDisk, markDisk, heldDisk.
-/
import Derived.Test.YtcdmlgafalnooaaBytes
import Derived.Deep.RegionWith
import Derived.Deep.DeepMust
namespace Go.Proofs.Ytcdmlgafalnooaa
set_option maxHeartbeats 400000
open Go.RowKit

end Go.Proofs.Ytcdmlgafalnooaa
