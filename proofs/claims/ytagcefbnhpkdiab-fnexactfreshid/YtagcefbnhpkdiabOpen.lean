/-
  HOW AN ARGUMENT IS OPENED: pending writes, a disk by value.
-/
import Derived.Test.YtagcefbnhpkdiabOpenB
namespace Go.Proofs.Ytagcefbnhpkdiab
set_option maxRecDepth 100000
open Go.ChangeShapes Go.WideShapes Go.ChangeAt Go.RowKit
set_option linter.unusedVariables false
section
variable {H : Type} {enc : TypeId × Value → H} {w : World} {base : Nat} {spare : Nat → Bool} {held : Bool}
end
end Go.Proofs.Ytagcefbnhpkdiab
