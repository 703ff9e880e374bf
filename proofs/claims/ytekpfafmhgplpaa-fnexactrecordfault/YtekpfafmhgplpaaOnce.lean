/-
  sync.Once, one goroutine: not yet done, the lock free. (After the kit's worked toy 'lazy'.)
-/
import Derived.Test.YtekpfafmhgplpaaBlk
import Derived.Tactics
import Derived.Tactics2
import Derived.Defers
import Derived.Laws.Pointers
import Derived.Laws.LoneSync
import Derived.RegionTactic
import Derived.RegionCalls
namespace Go.Proofs.Ytekpfafmhgplpaa
open Go.RowKit
set_option linter.unusedVariables false

end Go.Proofs.Ytekpfafmhgplpaa
