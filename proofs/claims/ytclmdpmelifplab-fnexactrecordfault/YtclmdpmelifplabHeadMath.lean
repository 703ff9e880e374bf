/-
  What a page's head is, told by its bytes: no program in sight.
-/
import Derived.Test.YtclmdpmelifplabL3Slots
namespace Go.Proofs.Ytclmdpmelifplab
open Go.RowKit
set_option linter.unusedVariables false
set_option linter.unusedSimpArgs false

theorem lows_numAt (raw : List Int) (hB : IsB raw) (o n : Nat) (hn : 1 ≤ n) (hn8 : n ≤ 8) (hl : o + n ≤ raw.length) (h : 0 ≤ numAt raw o n) : lows (numAt raw o n) n = (raw.drop o).take n := by
  have hln : ((raw.drop o).take n).length = n := by simp; omega
  have e : numAt raw o n = num ((raw.drop o).take n) := by
    unfold numAt getN at h ⊢
    split at h
    · omega
    · rename_i hc
      rw [if_neg hc]
  rw [e]
  have h2 := lows_num ((raw.drop o).take n) (isB_take (isB_drop hB o) n)
  rw [hln] at h2
  exact h2
theorem pairs_take (l : List Int) (n : Nat) (h : 2 * n ≤ l.length) : (List.range n).flatMap (fun j => (l.drop (2 * j)).take 2) = l.take (2 * n) := by
  induction n with
  | zero => simp
  | succ n ih =>
    rw [List.range_succ, List.flatMap_append, ih (by omega), show 2 * (n + 1) = 2 * n + 2 from by omega, List.take_add]
    simp
theorem slotB_raw (raw : List Int) (hB : IsB raw) (hl : raw.length = 4096) : slotB (slotsOf raw) = (raw.drop 20).take 128 := by
  have h := pairs_take (raw.drop 20) 64 (by rw [List.length_drop, hl]; decide)
  rw [show 2 * 64 = 128 from rfl] at h
  rw [← h]
  unfold slotB slotsOf
  rw [List.flatMap_map]
  refine congrArg List.flatten (List.map_congr_left fun j hj => ?_)
  have hj := List.mem_range.1 hj
  rw [lows_numAt raw hB (20 + 2 * j) 2 (by decide) (by decide) (by omega) (numAt_in raw hB (20 + 2 * j) 2 (by decide) (by decide) (by omega)).1, List.drop_drop]
theorem enc_raw (raw : List Int) (hB : IsB raw) (hl : raw.length = 4096) (h0 : 0 ≤ numAt raw 4 8) :
    encB (raw.take 4) (numAt raw 4 8) (numAt raw 12 4) (numAt raw 16 2) (slotsOf raw) raw = raw.take 18 ++ ([0, 0] ++ raw.drop 20) := by
  unfold encB cont headB
  rw [slotB_raw raw hB hl, lows_numAt raw hB 4 8 (by decide) (by decide) (by omega) h0, lows_numAt raw hB 12 4 (by decide) (by decide) (by omega) (numAt_in raw hB 12 4 (by decide) (by decide) (by omega)).1,
    lows_numAt raw hB 16 2 (by decide) (by decide) (by omega) (numAt_in raw hB 16 2 (by decide) (by decide) (by omega)).1]
  have e1 : raw.take 4 ++ (raw.drop 4).take 8 = raw.take 12 := (List.take_add (l := raw) (i := 4) (j := 8)).symm
  have e2 : raw.take 12 ++ (raw.drop 12).take 4 = raw.take 16 := (List.take_add (l := raw) (i := 12) (j := 4)).symm
  have e3 : raw.take 16 ++ (raw.drop 16).take 2 = raw.take 18 := (List.take_add (l := raw) (i := 16) (j := 2)).symm
  rw [e1, e2, e3, show lows 0 2 = [0, 0] from by decide]
  have hlen : (raw.take 18 ++ [0, 0] ++ (raw.drop 20).take 128).length = 148 := by simp; omega
  rw [hlen, List.append_assoc, List.append_assoc]
  congr 2
  rw [show raw.drop 148 = (raw.drop 20).drop 128 from by rw [List.drop_drop], List.take_append_drop]
theorem raw_split (raw : List Int) (hl : raw.length = 4096) : raw = raw.take 18 ++ ([raw.getD 18 0, raw.getD 19 0] ++ raw.drop 20) := by
  have e1 : raw.getD 18 0 = raw[18] := by simp [List.getD, List.getElem?_eq_getElem (show 18 < raw.length by omega)]
  have e2 : raw.getD 19 0 = raw[19] := by simp [List.getD, List.getElem?_eq_getElem (show 19 < raw.length by omega)]
  rw [e1, e2]
  conv => lhs; rw [← List.take_append_drop 18 raw, List.drop_eq_getElem_cons (by omega : 18 < raw.length), List.drop_eq_getElem_cons (by omega : 18 + 1 < raw.length)]
  rfl
theorem headBad_raw (raw : List Int) (hB : IsB raw) (hl : raw.length = 4096) :
    headBad (raw.take 4) (numAt raw 4 8) (numAt raw 12 4) (numAt raw 16 2) (slotsOf raw) raw = (decide (numAt raw 4 8 < 0) || decide (1099511627776 < numAt raw 4 8) || raw.getD 18 0 != 0 || raw.getD 19 0 != 0) := by
  unfold headBad
  by_cases h : isLSN (numAt raw 4 8) = true
  · have h' := h
    simp [isLSN] at h'
    have hd1 : decide (numAt raw 4 8 < 0) = false := by simp; omega
    have hd2 : decide (1099511627776 < numAt raw 4 8) = false := by simp; omega
    rw [h, hd1, hd2, enc_raw raw hB hl h'.1]
    conv => lhs; rhs; rhs; rw [raw_split raw hl]
    rw [Bool.eq_iff_iff]
    simp
    constructor
    · intro h1
      by_cases h2 : raw[18]?.getD 0 = 0
      · right
        intro h3
        exact h1 h2.symm h3.symm
      · exact .inl h2
    · rintro (h1 | h1) h2 h3
      · exact h1 h2.symm
      · exact h1 h3.symm
  · have hf : isLSN (numAt raw 4 8) = false := by simpa using h
    rw [hf]
    simp [isLSN] at hf
    simp
    by_cases h0 : 0 ≤ numAt raw 4 8
    · have := hf h0
      omega
    · omega
end Go.Proofs.Ytclmdpmelifplab
