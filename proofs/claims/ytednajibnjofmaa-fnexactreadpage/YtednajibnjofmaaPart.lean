/-
  What a part of a slice reads.
-/
import Derived.Test.YtednajibnjofmaaRead
namespace Go.Proofs.Ytednajibnjofmaa
open Go.RowKit
set_option linter.unusedVariables false
set_option linter.unusedSimpArgs false
/-- What a part of a slice reads. -/
theorem Rd.cut {w : World} {b off c : Nat} {raw : List Int} (h : Rd .u8 w (.slice (some ⟨b, off, none⟩) raw.length c) raw) (x y : Nat) (hxy : x + y ≤ raw.length) :
    Rd .u8 w (.slice (some (if c = x then ⟨b, off, none⟩ else ⟨b, off + x, none⟩)) y (c - x)) ((raw.drop x).take y) := by
  have hl : ((raw.drop x).take y).length = y := by simp; omega
  rcases h.2 with ⟨rfl, _⟩ | ⟨b', off', c', he, hle, hc⟩
  · simp at hxy
    obtain ⟨rfl, rfl⟩ := hxy
    exact ⟨by simp, .inl ⟨by simp, _, _, rfl, fun h => by cases h⟩⟩
  · injection he with h1 h2 h3
    injection h1 with h1
    injection h1 with h1 h4
    subst h1 h4 h3
    by_cases h0 : y = 0
    · subst h0
      exact ⟨by rw [hl]; simp, .inl ⟨by simp, _, _, rfl, fun h => by cases h⟩⟩
    · rw [if_neg (by omega)]
      refine ⟨by have := h.1; omega, .inr ⟨b, off + x, c - x, by rw [hl], by omega, fun i hi => ?_⟩⟩
      rw [hl] at hi
      rw [Nat.add_assoc, hc (x + i) (by omega)]
      simp [List.getD, List.getElem?_take, List.getElem?_drop, hi]
/-- A part of a slice reads as the part of what it reads as. -/
theorem Rd.part {k : IntKind} {w : World} {b off n c : Nat} {bs : List Int} (h : ∀ i, i < bs.length → w.cell? ⟨b, off + i, none⟩ = some (.int k (bs.getD i 0))) (lo m : Nat) (hm : lo + m ≤ bs.length) (hn : n = m) (hc : m ≤ c) (hmax : m ≤ maxLen) :
    Rd k w (.slice (some ⟨b, off + lo, none⟩) n c) ((bs.drop lo).take m) := by
  have hl : ((bs.drop lo).take m).length = m := by simp; omega
  refine ⟨by omega, .inr ⟨b, off + lo, c, by rw [hn, hl], by rw [hl]; exact hc, fun i hi => ?_⟩⟩
  rw [hl] at hi
  have h1 := h (lo + i) (by omega)
  rw [← Nat.add_assoc] at h1
  rw [h1]
  simp [List.getD, hi]
end Go.Proofs.Ytednajibnjofmaa
