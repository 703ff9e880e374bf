/-
  THE LEAVES: eqByteS, markByteS, heldByteS on rows of their own memory.
-/
import Derived.Test.YtcdmlgafalnooaaProg
import Derived.Test.YtcdmlgafalnooaaMem
import Derived.WalkLawsBesides
import Derived.Deep.QuietTactic
import Derived.BigQuiet
import Derived.Deep.LoopGhost
namespace Go.Proofs.Ytcdmlgafalnooaa
open Go.RowKit

end Go.Proofs.Ytcdmlgafalnooaa
