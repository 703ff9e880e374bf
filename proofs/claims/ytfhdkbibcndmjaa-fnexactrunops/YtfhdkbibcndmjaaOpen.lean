import Derived.Test.YtfhdkbibcndmjaaG00
namespace Go.Proofs.Ytfhdkbibcndmjaa
set_option maxRecDepth 100000
open Go.ChangeShapes Go.WideShapes Go.ChangeAt Go.RowKit
set_option linter.unusedVariables false
section
variable {H : Type} {enc : TypeId × Value → H} {w : World} {base : Nat} {spare : Nat → Bool} {held : Bool}
theorem read_pend {fuel : Nat} {v : Value} {x : DataW H × List MemPlace} (h : DataW.trod enc Try.prog w base spare held fuel 43 [v] = some x) : ∃ ps, RdP w v ps := by
  rcases Deep.open_slice_pairs Try.underlying43 Try.underlying116 (by kernel_rfl) rfl rfl (by kernel_rfl) (by kernel_rfl) h with ⟨hcs, _⟩ | ⟨a, len, cap, m, n, V0, V1, D0, D1, P0, P1, hcs, _, hl, hm, hmm, _, hx⟩
  · simp at hcs
    subst hcs
    exact ⟨[], by simp, .inl ⟨rfl, _, _, rfl⟩, fun p hp => by simp at hp⟩
  · simp at hcs
    subst hcs
    have hlm : len ≤ m := by rw [hmm]; split <;> omega
    have each : ∀ i, i < len → ∃ p : PW, w.cell? (a.add (i * 2)) = some (.int .i64 p.sec) ∧ w.cell? (a.add (i * 2 + 1)) = some p.v ∧ Rd .u8 w p.v p.bs := fun i hi => by
      obtain ⟨h1, h2, h3, h4⟩ := hx i (by omega)
      obtain ⟨s, e0, _, _⟩ := DataW.trod_int Try.underlying2 h3
      simp at e0
      obtain ⟨bs, hbs⟩ := read_ints Try.underlying22 Try.underlying5 (by kernel_rfl) h4
      exact ⟨⟨s, V1 i, bs⟩, by rw [h1, e0], h2, hbs⟩
    have : Inhabited PW := ⟨zeroPW⟩
    obtain ⟨f, hf⟩ := Deep.choose_lt each
    refine ⟨(List.range len).map f, by simp; omega, ?_, fun p hp => ?_⟩
    · by_cases h0 : len = 0
      · subst h0
        exact .inl ⟨by simp, _, _, rfl⟩
      · obtain ⟨b, off, rfl⟩ := addr_form (by have := (hf 0 (by omega)).1; rwa [Nat.zero_mul] at this)
        refine .inr ⟨b, off, cap, by simp, fun i hi => ?_⟩
        have hi' : i < len := by simpa using hi
        obtain ⟨h1, h2, _⟩ := hf i hi'
        constructor
        · simpa [add_none] using h1
        · simpa [add_none, Nat.add_assoc] using h2
    · obtain ⟨i, hi, rfl⟩ := List.mem_map.1 hp
      exact (hf i (List.mem_range.1 hi)).2.2
theorem open_disk {r : Reach} {b0 : Nat} {v : Value} {d : DataW H} {p : List MemPlace} (hv : Value.okWide Try.prog w r b0 45 v) (h : DataW.Trod enc Try.prog w base spare held 45 v d p) :
    ∃ dv pv dur ps, v = .agg #[dv, pv] ∧ RdD w dv pv dur ps := by
  obtain ⟨v0, v1, y0, y1, n, rfl, _, _, h0, h1⟩ := Joins.open_agg2 Try.underlying45 (by kernel_rfl) (by kernel_rfl) hv h
  obtain ⟨dur, hd⟩ := read_ints Try.underlying22 Try.underlying5 (by kernel_rfl) h0
  obtain ⟨ps, hp⟩ := read_pend h1
  exact ⟨v0, v1, dur, ps, rfl, hd, hp⟩
end
end Go.Proofs.Ytfhdkbibcndmjaa
