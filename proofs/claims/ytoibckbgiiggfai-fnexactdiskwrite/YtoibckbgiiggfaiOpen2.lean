/-
  Arguments that are rows of numbers.
-/
import Derived.Test.YtoibckbgiiggfaiOpen
namespace Go.Proofs.Ytoibckbgiiggfai
open Go.ChangeShapes Go.WideShapes Go.ChangeAt Go.RowKit
section
variable {H : Type} {enc : TypeId × Value → H} {w : World} {base : Nat} {spare : Nat → Bool} {held : Bool}
theorem open_bytes {r : Reach} {b0 : Nat} {v : Value} {d : DataW H} {p : List MemPlace} (hv : Value.okWide Try.prog w r b0 22 v) (h : DataW.Trod enc Try.prog w base spare held 22 v d p) : ∃ bs, Rd .u8 w v bs := by
  obtain ⟨a, n, c, rfl⟩ := okWide_slice Try.underlying22 hv
  obtain ⟨m, hm⟩ := h
  exact read_ints Try.underlying22 Try.underlying5 (by kernel_rfl) hm
end
end Go.Proofs.Ytoibckbgiiggfai
