/-
  THE LEAVES: eqByteS, markByteS, heldByteS on rows of their own memory.
-/
import Derived.Test.YtagcefbnhpkdiabProg
import Derived.Test.YtagcefbnhpkdiabMem
import Derived.WalkLawsBesides
import Derived.Deep.QuietTactic
import Derived.BigQuiet
import Derived.Deep.LoopGhost
namespace Go.Proofs.Ytagcefbnhpkdiab
open Go.RowKit

end Go.Proofs.Ytagcefbnhpkdiab
