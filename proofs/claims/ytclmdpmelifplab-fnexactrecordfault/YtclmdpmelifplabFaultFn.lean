/-
  The numbers of a page; what a page's fault is.
-/
import Derived.Test.YtclmdpmelifplabFault
namespace Go.Proofs.Ytclmdpmelifplab
open Go.RowKit
set_option linter.unusedVariables false
set_option linter.unusedSimpArgs false

theorem numAt_small (raw : List Int) (hB : IsB raw) (o n : Nat) (hn : n ≤ 7) : numAt raw o n = -1 ∨ (0 ≤ numAt raw o n ∧ numAt raw o n < 256 ^ n) := by
  unfold numAt getN
  have hb : IsB ((raw.drop o).take n) := isB_take (isB_drop hB o) n
  have h := num_bound _ hb ((raw.drop o).take n).length (Nat.le_refl _)
  rw [List.take_length] at h
  split
  · exact .inl rfl
  · refine .inr ⟨h.1, Int.lt_of_lt_of_le h.2 ?_⟩
    have hl : ((raw.drop o).take n).length ≤ n := by simp; omega
    have h2 : (256 : Nat) ^ ((raw.drop o).take n).length ≤ 256 ^ n := Nat.pow_le_pow_right (by decide) hl
    have e1 : ((256 ^ ((raw.drop o).take n).length : Nat) : Int) = (256 : Int) ^ ((raw.drop o).take n).length := by simp
    have e2 : ((256 ^ n : Nat) : Int) = (256 : Int) ^ n := by simp
    rw [← e1, ← e2]
    exact_mod_cast h2
theorem numAt_in (raw : List Int) (hB : IsB raw) (o n : Nat) (hn1 : 1 ≤ n) (hn : n ≤ 7) (hl : o + n ≤ raw.length) : 0 ≤ numAt raw o n ∧ numAt raw o n < 256 ^ n := by
  rcases numAt_small raw hB o n hn with h | h
  · exfalso
    unfold numAt getN at h
    have hb : IsB ((raw.drop o).take n) := isB_take (isB_drop hB o) n
    have hln : ((raw.drop o).take n).length = n := by simp; omega
    have h0 := num_bound _ hb ((raw.drop o).take n).length (Nat.le_refl _)
    rw [List.take_length] at h0
    have hf := getN_few _ hb (by omega)
    rw [if_neg (by omega)] at h
    omega
  · exact h
theorem slotsOf_small (raw : List Int) (hB : IsB raw) (hl : raw.length = 4096) : Small (slotsOf raw) := by
  intro x hx
  simp only [slotsOf, List.mem_map, List.mem_range] at hx
  obtain ⟨j, hj, rfl⟩ := hx
  have := numAt_in raw hB (20 + 2 * j) 2 (by decide) (by decide) (by omega)
  omega
def pageFault (raw : List Int) (number : Int) : Int := if raw.length ≠ 4096 then 1 else faultP (raw.take 4) (numAt raw 4 8) (numAt raw 12 4) (numAt raw 16 2) (slotsOf raw) raw number

/-- A page that is well-formed by its own number. -/
def ownOK (raw : List Int) : Bool := raw.length == 4096 && pageFault raw (numAt raw 12 4) == 0
end Go.Proofs.Ytclmdpmelifplab
