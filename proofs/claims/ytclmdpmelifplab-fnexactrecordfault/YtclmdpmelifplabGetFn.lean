/-
  PageGet.
-/
import Derived.Test.YtclmdpmelifplabUsedFn
import Derived.Test.YtclmdpmelifplabClone
import Derived.Test.YtclmdpmelifplabTyPageRecord
namespace Go.Proofs.Ytclmdpmelifplab
open Go.RowKit
set_option linter.unusedVariables false
set_option linter.unusedSimpArgs false

theorem ownOK_len {raw : List Int} (h : ownOK raw = true) : raw.length = 4096 := by unfold ownOK at h; simp at h; exact h.1
/-- What a well-formed page's slot tells. -/
theorem ownOK_parts {raw : List Int} (h : ownOK raw = true) : 148 ≤ numAt raw 16 2 ∧ numAt raw 16 2 ≤ 4096 ∧ astray (numAt raw 16 2) (slotsOf raw) = false ∧ share (slotsOf raw) = false := by
  have hl := ownOK_len h
  unfold ownOK pageFault faultP at h
  simp only [hl, ne_eq, not_true_eq_false, if_false] at h
  simp only [beq_self_eq_true, Bool.true_and] at h
  by_cases h2 : headBad (raw.take 4) (numAt raw 4 8) (numAt raw 12 4) (numAt raw 16 2) (slotsOf raw) raw = true
  · simp [h2] at h
  by_cases h3 : numAt raw 16 2 < 148 ∨ 4096 < numAt raw 16 2
  · simp [h2, h3] at h
  by_cases h4 : astray (numAt raw 16 2) (slotsOf raw) = true
  · simp [h2, h3, h4] at h
  by_cases h5 : share (slotsOf raw) = true
  · simp [h2, h3, h4, h5] at h
  exact ⟨by omega, by omega, by simpa using h4, by simpa using h5⟩
theorem astray_at {bot : Int} {sl : List Int} (h : astray bot sl = false) (k : Nat) (hk : k < 32) : astrayAt bot (sl.getD (2 * k) 0) (sl.getD (2 * k + 1) 0) = false := by
  cases hx : astrayAt bot (sl.getD (2 * k) 0) (sl.getD (2 * k + 1) 0) with
  | false => rfl
  | true => rw [astray_yes bot sl k hk hx] at h; cases h
theorem ownOK_slot {raw : List Int} (h : ownOK raw = true) (k : Nat) (hk : k < 32) : ((slotsOf raw).getD (2 * k) 0 = 0 ∧ (slotsOf raw).getD (2 * k + 1) 0 = 0) ∨
    ((slotsOf raw).getD (2 * k) 0 ≠ 0 ∧ (slotsOf raw).getD (2 * k + 1) 0 ≤ 1000 ∧ 148 ≤ (slotsOf raw).getD (2 * k) 0 ∧ (slotsOf raw).getD (2 * k) 0 + (slotsOf raw).getD (2 * k + 1) 0 ≤ 4096) := by
  obtain ⟨h1, h2, h3, h4⟩ := ownOK_parts h
  rcases not_astray _ _ _ (astray_at h3 k hk) with h | ⟨a, b, c, d⟩
  · exact .inl h
  · exact .inr ⟨a, b, by omega, d⟩

/-- A stretch of a page's bytes. -/
def stretch (raw : List Int) (x y : Int) : List Int := (raw.drop x.toNat).take y.toNat
theorem stretch_length (raw : List Int) (x y : Int) (hl : raw.length = 4096) (hx : 0 ≤ x) (hy : 0 ≤ y) (h : x + y ≤ 4096) : (stretch raw x y).length = y.toNat := by simp [stretch, hl]; omega
theorem SP.rdRaw {w : World} {P : Nat} {sum : List Int} {lsn num bot : Int} {sl raw : List Int} (h : SP w P sum lsn num bot sl raw) (x y : Nat) (c : Nat) (hxy : x + y ≤ 4096) (hc : y ≤ c) : Rd .u8 w (.slice (some ⟨P, 71 + x, none⟩) y c) ((raw.drop x).take y) := by
  have hl : ((raw.drop x).take y).length = y := by simp [h.l3]; omega
  refine ⟨by rw [hl]; unfold maxLen; omega, .inr ⟨P, 71 + x, c, by rw [hl], by rw [hl]; exact hc, fun i hi => ?_⟩⟩
  rw [hl] at hi
  rw [show 71 + x + i = 71 + (x + i) from by omega, h.rawAt (x + i) (by omega)]
  simp [List.getD, List.getElem?_take, List.getElem?_drop, hi]

def pageGet (raw : List Int) (s : Int) : Bool × List Int :=
  if ownOK raw = true ∧ 0 ≤ s ∧ s < 32 ∧ (slotsOf raw).getD (2 * s.toNat) 0 ≠ 0 then (true, stretch raw ((slotsOf raw).getD (2 * s.toNat) 0) ((slotsOf raw).getD (2 * s.toNat + 1) 0)) else (false, [])
theorem pageGet_yes {raw : List Int} {k : Nat} (h : ownOK raw = true) (hk : k < 32) (h0 : (slotsOf raw).getD (2 * k) 0 ≠ 0) : pageGet raw k = (true, stretch raw ((slotsOf raw).getD (2 * k) 0) ((slotsOf raw).getD (2 * k + 1) 0)) := by
  unfold pageGet
  rw [if_pos ⟨h, by omega, by omega, by simpa using h0⟩]
  rfl
theorem pageGet_no {raw : List Int} {s : Int} (h : ownOK raw = false ∨ s < 0 ∨ 32 ≤ s ∨ (slotsOf raw).getD (2 * s.toNat) 0 = 0) : pageGet raw s = (false, []) := by
  unfold pageGet
  rw [if_neg]
  rintro ⟨h1, h2, h3, h4⟩
  rcases h with h | h | h | h
  · rw [h1] at h; cases h
  · omega
  · omega
  · exact h4 h
theorem pageGet_small {y : StPageRecord} {raw : List Int} {s : Int} (h : y.dat = pageGet raw s) : y.size ≤ 1099511627776 := by
  have h2 : y.data.bs = (pageGet raw s).2 := congrArg Prod.snd h
  have h3 : (pageGet raw s).2.length ≤ 4096 := by
    unfold pageGet
    split
    · next h => simp [stretch, ownOK_len h.1]; omega
    · simp
  unfold StPageRecord.size
  rw [h2]
  omega

set_option maxRecDepth 100000 in
theorem isSlot_any (s : Int) (w : World) : Calls Try.prog 129 #[.int .i64 s] w fun e w' => e = .returned (.bool (decide (0 ≤ s) && decide (s < 32))) ∧ Same w w' := by
  by_cases h : 0 ≤ s
  · by_cases h2 : s < 32
    · have h2' : ¬ (32 ≤ s) := by omega
      go_enter Try.func129, Try.ntmps129
      go_wp2
      go_ret
      exact ⟨by simp [h, h2], Kept.refl _ _⟩
    · have h2' : (32 ≤ s) := by omega
      go_enter Try.func129, Try.ntmps129
      go_wp2
      go_ret
      exact ⟨by simp [h, h2], Kept.refl _ _⟩
  · go_enter Try.func129, Try.ntmps129
    go_wp2
    go_ret
    exact ⟨by rw [show decide (0 ≤ s) = false from by simp; omega]; rfl, Kept.refl _ _⟩
end Go.Proofs.Ytclmdpmelifplab
