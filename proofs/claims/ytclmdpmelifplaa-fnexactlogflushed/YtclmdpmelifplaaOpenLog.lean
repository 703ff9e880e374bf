/-
  How Log as an argument is opened (by tools/opengen.py).
-/
import Derived.Test.YtclmdpmelifplaaOpenB
import Derived.Test.YtclmdpmelifplaaLogFn
namespace Go.Proofs.Ytclmdpmelifplaa
open Go.ChangeShapes Go.WideShapes Go.ChangeAt Go.RowKit
set_option linter.unusedVariables false
set_option linter.unusedSimpArgs false
theorem array_log {cs : Array Value} (h : cs.size = 5) : ∃ c0 c1 c2 c3 c4, cs = #[c0, c1, c2, c3, c4] := by
  obtain ⟨l⟩ := cs
  match l, h with
  | [c0, c1, c2, c3, c4], _ => exact ⟨c0, c1, c2, c3, c4, rfl⟩
section
variable {H : Type} {enc : TypeId × Value → H} {w : World} {base : Nat} {spare : Nat → Bool} {held : Bool}
set_option maxRecDepth 100000 in
set_option maxHeartbeats 2000000 in
theorem open_log {r : Reach} {b0 : Nat} {v : Value} {d : DataW H} {p : List MemPlace} (hv : Value.okWide Try.prog w r b0 26 v) (h : DataW.Trod enc Try.prog w base spare held 26 v d p) :
    ∃ x : StLog, v = x.val ∧ StLog.rd w x ∧ x.isB := by
  obtain ⟨cs, rfl, hsz⟩ := okWide_struct Try.underlying26 hv
  obtain ⟨c0, c1, c2, c3, c4, rfl⟩ := array_log (hsz.trans (by kernel_rfl))
  obtain ⟨fuel, hf⟩ := h
  obtain ⟨xs, n, _, _, _, hxl, hg⟩ := DataW.trod_struct Try.underlying26 hf
  have g0 : ∃ x, DataW.trod enc Try.prog w base spare held n 2 [c0] = some x := ⟨xs[0]'(by rw [hxl]; decide), by have h := hg 0 _ rfl; rw [List.getElem?_eq_getElem (by rw [hxl]; decide)] at h; exact h⟩
  obtain ⟨x0, g0⟩ := g0
  obtain ⟨z0, e0, _, _⟩ := DataW.trod_int Try.underlying2 g0
  simp at e0
  subst e0
  have g1 : ∃ x, DataW.trod enc Try.prog w base spare held n 2 [c1] = some x := ⟨xs[1]'(by rw [hxl]; decide), by have h := hg 1 _ rfl; rw [List.getElem?_eq_getElem (by rw [hxl]; decide)] at h; exact h⟩
  obtain ⟨x1, g1⟩ := g1
  obtain ⟨z1, e1, _, _⟩ := DataW.trod_int Try.underlying2 g1
  simp at e1
  subst e1
  have g2 : ∃ x, DataW.trod enc Try.prog w base spare held n 2 [c2] = some x := ⟨xs[2]'(by rw [hxl]; decide), by have h := hg 2 _ rfl; rw [List.getElem?_eq_getElem (by rw [hxl]; decide)] at h; exact h⟩
  obtain ⟨x2, g2⟩ := g2
  obtain ⟨z2, e2, _, _⟩ := DataW.trod_int Try.underlying2 g2
  simp at e2
  subst e2
  have g3 : ∃ x, DataW.trod enc Try.prog w base spare held n 2 [c3] = some x := ⟨xs[3]'(by rw [hxl]; decide), by have h := hg 3 _ rfl; rw [List.getElem?_eq_getElem (by rw [hxl]; decide)] at h; exact h⟩
  obtain ⟨x3, g3⟩ := g3
  obtain ⟨z3, e3, _, _⟩ := DataW.trod_int Try.underlying2 g3
  simp at e3
  subst e3
  have g4 : ∃ x, DataW.trod enc Try.prog w base spare held n 24 [c4] = some x := ⟨xs[4]'(by rw [hxl]; decide), by have h := hg 4 _ rfl; rw [List.getElem?_eq_getElem (by rw [hxl]; decide)] at h; exact h⟩
  obtain ⟨x4, g4⟩ := g4
  obtain ⟨b4, r4, B4⟩ := read_intsB Try.underlying24 Try.underlying5 (by kernel_rfl) g4
  obtain ⟨a4, k4, rfl⟩ := r4.form
  exact ⟨⟨z0, z1, z2, z3, ⟨0, a4, k4, b4⟩⟩, rfl, r4, fun x hx => by have := B4 x hx; exact ⟨this.1, this.2⟩⟩
end
end Go.Proofs.Ytclmdpmelifplaa
