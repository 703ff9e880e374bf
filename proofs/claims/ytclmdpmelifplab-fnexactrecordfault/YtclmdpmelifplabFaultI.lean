/-
  PageFault, the program's.
-/
import Derived.Test.YtclmdpmelifplabFaultFn
namespace Go.Proofs.Ytclmdpmelifplab
open Go.RowKit
set_option linter.unusedVariables false
set_option linter.unusedSimpArgs false

set_option maxRecDepth 100000 in
set_option maxHeartbeats 4000000 in
theorem implFault_any (v : Value) (raw : List Int) (number : Int) (w : World) (hB : IsB raw) (hn : raw.length ≤ 1099511627776) (hv : Rd .u8 w v raw) :
    Calls Try.prog 145 #[v, .int .i64 number] w fun e w' => e = .returned (.int .i64 (pageFault raw number)) ∧ Same w w' := by
  obtain ⟨a, c, rfl⟩ := hv.form
  by_cases hl : raw.length = 4096
  · have hR : pageFault raw number = faultP (raw.take 4) (numAt raw 4 8) (numAt raw 12 4) (numAt raw 16 2) (slotsOf raw) raw number := by unfold pageFault; rw [if_neg (by simp [hl])]
    obtain ⟨b, off, rfl, hc⟩ := rd_some hv (by omega)
    have hrg := rd_range hv (by omega)
    have hI : (Try.prog.info? 69).map (·.size) = some (vals .u8 raw).length := by rw [vals_length, hl]; exact page_info
    have hT := takeApart_any raw w hB hl
    have hn12 := numAt_in raw hB 12 4 (by decide) (by decide) (by omega)
    have hn16 := numAt_in raw hB 16 2 (by decide) (by decide) (by omega)
    have hF := fun P wx (h : SP wx P (raw.take 4) (numAt raw 4 8) (numAt raw 12 4) (numAt raw 16 2) (slotsOf raw) raw) => fault_any P (raw.take 4) (numAt raw 4 8) (numAt raw 12 4) (numAt raw 16 2) (slotsOf raw) raw number wx h (slotsOf_small raw hB hl) ⟨hn12.1, by omega⟩ ⟨hn16.1, by omega⟩
    rw [hR, hl]
    obtain ⟨F, hFe⟩ : ∃ F, faultP (raw.take 4) (numAt raw 4 8) (numAt raw 12 4) (numAt raw 16 2) (slotsOf raw) raw number = F := ⟨_, rfl⟩
    rw [hFe] at hF ⊢
    obtain ⟨cs, hcs⟩ : ∃ cs : List Value, vals .u8 raw = cs := ⟨_, rfl⟩
    rw [hcs] at hT hrg hI
    have harr := run_arrayP
    clear hcs hv hB hn hR hl hFe hn12 hn16
    go_enter Try.func145, Try.ntmps145
    go_wp2_with (first
      | (go_at_call 146; refine hT.mono ?_; rintro e w1 ⟨P, rfl, hP, hsp, hk1⟩)
      | (go_at_call 147; refine (hF P _ hsp).mono ?_; rintro e w2 ⟨rfl, hk2⟩)
      | (refine wpList_load_mid rfl 69 _ rfl b off rfl cs _ hrg Try.underlying69 rfl hI ?_))
    go_ret
    exact ⟨rfl, hk1.trans hk2⟩
  · have hR : pageFault raw number = 1 := by unfold pageFault; rw [if_pos hl]
    rw [hR]
    have hl' : ¬ (raw.length : Int) = 4096 := by omega
    clear hv hB
    go_enter Try.func145, Try.ntmps145
    go_wp2
    go_ret
    exact ⟨rfl, Kept.refl _ _⟩
end Go.Proofs.Ytclmdpmelifplab
