/-
  HOW AN ARGUMENT IS OPENED: a slice of bytes, of pending writes, a disk by value.
-/
import Derived.Test.YtoibckbgiiggfaiRows
import Derived.WalkKit
import Derived.ProofKit
import Derived.OpenShut
import Derived.ShutString
import Derived.ChangeOld
import Derived.Below
import Derived.Lib.SmallJoins
import Derived.Deep.Slices
import Derived.Deep.SlicePairs
import Derived.Test.YtoibckbgiiggfaiRead
namespace Go.Proofs.Ytoibckbgiiggfai
open Go.ChangeShapes Go.WideShapes Go.ChangeAt Go.RowKit
set_option linter.unusedVariables false

theorem addr_form {w : World} {a : Addr} {v : Value} (h : w.cell? (a.add 0) = some v) : ∃ b off, a = ⟨b, off, none⟩ := by
  obtain ⟨b, off, spot⟩ := a
  have hs : spot = none := by simpa [Addr.add] using World.cell?_spot h
  subst hs
  exact ⟨b, off, rfl⟩

theorem add_none (b off i : Nat) : (⟨b, off, none⟩ : Addr).add i = ⟨b, off + i, none⟩ := by
  unfold Addr.add
  split
  · next h => subst h; rfl
  · rfl

section
variable {H : Type} {enc : TypeId × Value → H} {w : World} {base : Nat} {spare : Nat → Bool} {held : Bool}

theorem read_ints {t e : TypeId} {k : IntKind} (ht : Try.prog.underlying t = some (.slice e)) (he : Try.prog.underlying e = some (.int k)) (hc : Try.prog.cellsOf e = 1) {fuel : Nat} {v : Value} {x : DataW H × List MemPlace}
    (h : DataW.trod enc Try.prog w base spare held fuel t [v] = some x) : ∃ bs, Rd k w v bs := by
  rcases open_ints ht he hc h with ⟨hcs, _⟩ | ⟨a, len, cap, zs, hcs, _, hl, hm, hz, _, hcell, _⟩
  · simp at hcs
    subst hcs
    exact ⟨[], by simp, .inl ⟨rfl, _, _, rfl, fun _ => rfl⟩⟩
  · simp at hcs
    subst hcs
    have hlz : len ≤ zs.length := by rw [hz]; split <;> omega
    refine ⟨zs.take len, by simp; omega, ?_⟩
    by_cases h0 : len = 0
    · subst h0
      exact .inl ⟨by simp, _, _, rfl, fun h => by simp at h⟩
    · obtain ⟨b, off, rfl⟩ := addr_form (hcell 0 (by omega))
      refine .inr ⟨b, off, cap, by simp [Nat.min_eq_left hlz], by simp; omega, fun i hi => ?_⟩
      have hi' : i < len := by simp at hi; omega
      have := hcell i (by omega)
      simpa [add_none, List.getD, List.getElem?_take, hi'] using this

theorem read_pend {fuel : Nat} {v : Value} {x : DataW H × List MemPlace} (h : DataW.trod enc Try.prog w base spare held fuel 23 [v] = some x) : ∃ ps, RdP w v ps := by
  rcases Deep.open_slice_pairs Try.underlying23 Try.underlying83 (by kernel_rfl) rfl rfl (by kernel_rfl) (by kernel_rfl) h with ⟨hcs, _⟩ | ⟨a, len, cap, m, n, V0, V1, D0, D1, P0, P1, hcs, _, hl, hm, hmm, _, hx⟩
  · simp at hcs
    subst hcs
    exact ⟨[], by simp, .inl ⟨rfl, _, _, rfl⟩, fun p hp => by simp at hp⟩
  · simp at hcs
    subst hcs
    have hlm : len ≤ m := by rw [hmm]; split <;> omega
    have each : ∀ i, i < len → ∃ p : PW, w.cell? (a.add (i * 2)) = some (.int .i64 p.sec) ∧ w.cell? (a.add (i * 2 + 1)) = some p.v ∧ Rd .u8 w p.v p.bs := fun i hi => by
      obtain ⟨h1, h2, h3, h4⟩ := hx i (by omega)
      obtain ⟨s, e0, _, _⟩ := DataW.trod_int Try.underlying2 h3
      simp at e0
      obtain ⟨bs, hbs⟩ := read_ints Try.underlying22 Try.underlying5 (by kernel_rfl) h4
      exact ⟨⟨s, V1 i, bs⟩, by rw [h1, e0], h2, hbs⟩
    have : Inhabited PW := ⟨zeroPW⟩
    obtain ⟨f, hf⟩ := Deep.choose_lt each
    refine ⟨(List.range len).map f, by simp; omega, ?_, fun p hp => ?_⟩
    · by_cases h0 : len = 0
      · subst h0
        exact .inl ⟨by simp, _, _, rfl⟩
      · obtain ⟨b, off, rfl⟩ := addr_form (by have := (hf 0 (by omega)).1; rwa [Nat.zero_mul] at this)
        refine .inr ⟨b, off, cap, by simp, fun i hi => ?_⟩
        have hi' : i < len := by simpa using hi
        obtain ⟨h1, h2, _⟩ := hf i hi'
        constructor
        · simpa [add_none] using h1
        · simpa [add_none, Nat.add_assoc] using h2
    · obtain ⟨i, hi, rfl⟩ := List.mem_map.1 hp
      exact (hf i (List.mem_range.1 hi)).2.2

theorem open_disk {r : Reach} {b0 : Nat} {v : Value} {d : DataW H} {p : List MemPlace} (hv : Value.okWide Try.prog w r b0 25 v) (h : DataW.Trod enc Try.prog w base spare held 25 v d p) :
    ∃ dv pv dur ps, v = .agg #[dv, pv] ∧ RdD w dv pv dur ps := by
  obtain ⟨v0, v1, y0, y1, n, rfl, _, _, h0, h1⟩ := Joins.open_agg2 Try.underlying25 (by kernel_rfl) (by kernel_rfl) hv h
  obtain ⟨dur, hd⟩ := read_ints Try.underlying22 Try.underlying5 (by kernel_rfl) h0
  obtain ⟨ps, hp⟩ := read_pend h1
  exact ⟨v0, v1, dur, ps, rfl, hd, hp⟩
end
end Go.Proofs.Ytoibckbgiiggfai
