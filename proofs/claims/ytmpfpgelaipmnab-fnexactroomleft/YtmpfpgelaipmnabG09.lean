import Derived.Test.YtmpfpgelaipmnabG00
namespace Go.Proofs.Ytmpfpgelaipmnab
set_option maxRecDepth 100000
set_option linter.unusedVariables false
open Go.ChangeShapes Go.WideShapes Go.ChangeAt Go.RowKit
section
variable {H : Type} {enc : TypeId × Value → H} {w : World} {base : Nat} {spare : Nat → Bool} {held : Bool}
end
section
variable {H : Type} {enc : TypeId × Value → H} {w : World} {base : Nat} {spare : Nat → Bool} {held : Bool}
theorem open_int64s {r : Reach} {b0 : Nat} {v : Value} {d : DataW H} {p : List MemPlace} (hv : Value.okWide Try.prog w r b0 30 v) (h : DataW.Trod enc Try.prog w base spare held 30 v d p) : ∃ bs, Rd .i64 w v bs := by
 obtain ⟨a, n, c, rfl⟩ := okWide_slice Try.underlying30 hv
 obtain ⟨m, hm⟩ := h
 exact read_ints Try.underlying30 Try.underlying2 (by kernel_rfl) hm
end
end Go.Proofs.Ytmpfpgelaipmnab
