import Derived.Test.YtcnaabjgjmodeaaG00
import Derived.Test.YtcnaabjgjmodeaaG11
namespace Go.Proofs.Ytcnaabjgjmodeaa
set_option maxRecDepth 100000
set_option maxHeartbeats 2000000
open Go.ChangeShapes Go.WideShapes Go.ChangeAt Go.RowKit
set_option linter.unusedVariables false
set_option linter.unusedSimpArgs false
theorem array_pr {cs : Array Value} (h : cs.size = 2) : ∃ c0 c1, cs = #[c0, c1] := by
  obtain ⟨l⟩ := cs
  match l, h with
  | [c0, c1], _ => exact ⟨c0, c1, rfl⟩
section
variable {H : Type} {enc : TypeId × Value → H} {w : World} {base : Nat} {spare : Nat → Bool} {held : Bool}
theorem open_pageRecord {r : Reach} {b0 : Nat} {v : Value} {d : DataW H} {p : List MemPlace} (hv : Value.okWide Try.prog w r b0 36 v) (h : DataW.Trod enc Try.prog w base spare held 36 v d p) :
    ∃ x : StPageRecord, v = x.val ∧ StPageRecord.rd w x ∧ x.isB := by
  obtain ⟨cs, rfl, hsz⟩ := okWide_struct Try.underlying36 hv
  obtain ⟨c0, c1, rfl⟩ := array_pr (hsz.trans (by kernel_rfl))
  obtain ⟨fuel, hf⟩ := h
  obtain ⟨y0, y1, k, _, _, h0, h1⟩ := trod_struct2 Try.underlying36 hf
  have h0' : DataW.trod enc Try.prog w base spare held k 4 [c0] = some y0 := h0
  have h1' : DataW.trod enc Try.prog w base spare held k 22 [c1] = some y1 := h1
  obtain ⟨b, hb, _⟩ := DataW.trod_bool Try.underlying4 h0'
  obtain ⟨bs, hbs, hB⟩ := read_intsB Try.underlying22 Try.underlying5 (by kernel_rfl) h1'
  obtain ⟨a, c, rfl⟩ := hbs.form
  simp at hb
  subst hb
  exact ⟨⟨b, ⟨0, a, c, bs⟩⟩, rfl, hbs, fun x hx => by have := hB x hx; exact ⟨this.1, this.2⟩⟩
end
end Go.Proofs.Ytcnaabjgjmodeaa
