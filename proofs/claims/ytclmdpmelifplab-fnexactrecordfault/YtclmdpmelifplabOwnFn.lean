/-
  wellFormed and l3Own; PageLSN.
-/
import Derived.Test.YtclmdpmelifplabSpecFault
namespace Go.Proofs.Ytclmdpmelifplab
open Go.RowKit
set_option linter.unusedVariables false
set_option linter.unusedSimpArgs false

def pageLSN (raw : List Int) : Int := if ownOK raw = true then numAt raw 4 8 else -1
end Go.Proofs.Ytclmdpmelifplab
