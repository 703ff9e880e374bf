import Derived.Test.YtaeikeglaobeeaaGreatRows
import Derived.Test.YtaeikeglaobeeaaGreatG00
import Derived.WalkKit
import Derived.ProofKit
import Derived.OpenShut
import Derived.ShutString
import Derived.ChangeOld
import Derived.Below
import Derived.Lib.SmallJoins
import Derived.Deep.Slices
import Derived.Deep.SlicePairs
namespace Go.Proofs.YtaeikeglaobeeaaGreat
open Go.ChangeShapes Go.WideShapes Go.ChangeAt Go.RowKit
set_option linter.unusedVariables false
section
variable {H : Type} {enc : TypeId × Value → H} {w : World} {base : Nat} {spare : Nat → Bool} {held : Bool}
theorem int_bounds {a : Int} (h : (Lit.int .i64 a).wf = true) : IsI a := by
  have e : IntKind.i64.min = -9223372036854775808 := by decide
  simp only [Lit.wf, Bool.and_eq_true, decide_eq_true_eq, e] at h
  exact h
end
end Go.Proofs.YtaeikeglaobeeaaGreat
