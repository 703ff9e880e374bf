/-
  THE SAME OF PENDING WRITES AND DISKS: eqSectorWrite(S), markSectorWriteS, heldSectorWriteS, eqDisk, markDisk, heldDisk.
-/
import Derived.Test.YtagcefbnhpkdiabBytes
import Derived.Deep.RegionWith
import Derived.Deep.DeepMust
namespace Go.Proofs.Ytagcefbnhpkdiab
set_option maxHeartbeats 400000
open Go.RowKit

end Go.Proofs.Ytagcefbnhpkdiab
