/-
  PageFault, the program's.
-/
import Derived.Test.YtbcklddadfnkgaaFault
namespace Go.Proofs.Ytbcklddadfnkgaa
open Go.RowKit
set_option linter.unusedVariables false
set_option linter.unusedSimpArgs false

theorem numAt_small (raw : List Int) (hB : IsB raw) (o n : Nat) (hn : n ≤ 7) : numAt raw o n = -1 ∨ (0 ≤ numAt raw o n ∧ numAt raw o n < 256 ^ n) := by
  unfold numAt getN
  have hb : IsB ((raw.drop o).take n) := isB_take (isB_drop hB o) n
  have h := num_bound _ hb ((raw.drop o).take n).length (Nat.le_refl _)
  rw [List.take_length] at h
  split
  · exact .inl rfl
  · refine .inr ⟨h.1, Int.lt_of_lt_of_le h.2 ?_⟩
    have hl : ((raw.drop o).take n).length ≤ n := by simp; omega
    have h2 : (256 : Nat) ^ ((raw.drop o).take n).length ≤ 256 ^ n := Nat.pow_le_pow_right (by decide) hl
    have e1 : ((256 ^ ((raw.drop o).take n).length : Nat) : Int) = (256 : Int) ^ ((raw.drop o).take n).length := by simp
    have e2 : ((256 ^ n : Nat) : Int) = (256 : Int) ^ n := by simp
    rw [← e1, ← e2]
    exact_mod_cast h2
theorem numAt_in (raw : List Int) (hB : IsB raw) (o n : Nat) (hn1 : 1 ≤ n) (hn : n ≤ 7) (hl : o + n ≤ raw.length) : 0 ≤ numAt raw o n ∧ numAt raw o n < 256 ^ n := by
  rcases numAt_small raw hB o n hn with h | h
  · exfalso
    unfold numAt getN at h
    have hb : IsB ((raw.drop o).take n) := isB_take (isB_drop hB o) n
    have hln : ((raw.drop o).take n).length = n := by simp; omega
    have h0 := num_bound _ hb ((raw.drop o).take n).length (Nat.le_refl _)
    rw [List.take_length] at h0
    have hf := getN_few _ hb (by omega)
    rw [if_neg (by omega)] at h
    omega
  · exact h
theorem slotsOf_small (raw : List Int) (hB : IsB raw) (hl : raw.length = 4096) : Small (slotsOf raw) := by
  intro x hx
  simp only [slotsOf, List.mem_map, List.mem_range] at hx
  obtain ⟨j, hj, rfl⟩ := hx
  have := numAt_in raw hB (20 + 2 * j) 2 (by decide) (by decide) (by omega)
  omega
def pageFault (raw : List Int) (number : Int) : Int := if raw.length ≠ 4096 then 1 else faultP (raw.take 4) (numAt raw 4 8) (numAt raw 12 4) (numAt raw 16 2) (slotsOf raw) raw number

set_option maxRecDepth 100000 in
set_option maxHeartbeats 4000000 in
theorem implFault_any (v : Value) (raw : List Int) (number : Int) (w : World) (hB : IsB raw) (hn : raw.length ≤ 1099511627776) (hv : Rd .u8 w v raw) :
    Calls Try.prog 25 #[v, .int .i64 number] w fun e w' => e = .returned (.int .i64 (pageFault raw number)) ∧ Same w w' := by
  obtain ⟨a, c, rfl⟩ := hv.form
  by_cases hl : raw.length = 4096
  · have hR : pageFault raw number = faultP (raw.take 4) (numAt raw 4 8) (numAt raw 12 4) (numAt raw 16 2) (slotsOf raw) raw number := by unfold pageFault; rw [if_neg (by simp [hl])]
    obtain ⟨b, off, rfl, hc⟩ := rd_some hv (by omega)
    have hrg := rd_range hv (by omega)
    have hI : (Try.prog.info? 80).map (·.size) = some (vals .u8 raw).length := by rw [vals_length, hl]; exact page_info
    have hT := takeApart_any raw w hB hl
    have hn12 := numAt_in raw hB 12 4 (by decide) (by decide) (by omega)
    have hn16 := numAt_in raw hB 16 2 (by decide) (by decide) (by omega)
    have hF := fun P wx (h : SP wx P (raw.take 4) (numAt raw 4 8) (numAt raw 12 4) (numAt raw 16 2) (slotsOf raw) raw) => fault_any P (raw.take 4) (numAt raw 4 8) (numAt raw 12 4) (numAt raw 16 2) (slotsOf raw) raw number wx h (slotsOf_small raw hB hl) ⟨hn12.1, by omega⟩ ⟨hn16.1, by omega⟩
    rw [hR, hl]
    obtain ⟨F, hFe⟩ : ∃ F, faultP (raw.take 4) (numAt raw 4 8) (numAt raw 12 4) (numAt raw 16 2) (slotsOf raw) raw number = F := ⟨_, rfl⟩
    rw [hFe] at hF ⊢
    obtain ⟨cs, hcs⟩ : ∃ cs : List Value, vals .u8 raw = cs := ⟨_, rfl⟩
    rw [hcs] at hT hrg hI
    have harr := run_arrayP
    clear hcs hv hB hn hR hl hFe hn12 hn16
    go_enter Try.func25, Try.ntmps25
    go_wp2_with (first
      | (go_at_call 60; refine hT.mono ?_; rintro e w1 ⟨P, rfl, hP, hsp, hk1⟩)
      | (go_at_call 61; refine (hF P _ hsp).mono ?_; rintro e w2 ⟨rfl, hk2⟩)
      | (refine wpList_load_mid rfl 80 _ rfl b off rfl cs _ hrg Try.underlying80 rfl hI ?_))
    go_ret
    exact ⟨rfl, hk1.trans hk2⟩
  · have hR : pageFault raw number = 1 := by unfold pageFault; rw [if_pos hl]
    rw [hR]
    have hl' : ¬ (raw.length : Int) = 4096 := by omega
    clear hv hB
    go_enter Try.func25, Try.ntmps25
    go_wp2
    go_ret
    exact ⟨rfl, Kept.refl _ _⟩
end Go.Proofs.Ytbcklddadfnkgaa
