/-
  spec.l1Copy, bytes.Clone.
-/
import Derived.Test.YtclmdpmelifplabCopyB
import Derived.Laws.AppendOwnNone
namespace Go.Proofs.Ytclmdpmelifplab
open Go.RowKit

end Go.Proofs.Ytclmdpmelifplab
