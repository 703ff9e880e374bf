/-
  wellFormed and l3Own; PageLSN.
-/
import Derived.Test.YtekpfafmhgplpaaSpecFault
namespace Go.Proofs.Ytekpfafmhgplpaa
open Go.RowKit
set_option linter.unusedVariables false
set_option linter.unusedSimpArgs false

set_option maxRecDepth 100000 in
set_option maxHeartbeats 4000000 in
theorem wellFormed_any (v : Value) (raw : List Int) (w : World) (hB : IsB raw) (hn : raw.length ≤ 1099511627776) (hv : Rd .u8 w v raw) :
    Calls Try.prog 41 #[v] w fun e w' => Same w w' ∧ ((ownOK raw = true ∧ ∃ P, e = .returned (.pointer (some ⟨P, 0, none⟩)) ∧ w.heap.size ≤ P ∧ SP w' P (raw.take 4) (numAt raw 4 8) (numAt raw 12 4) (numAt raw 16 2) (slotsOf raw) raw) ∨
      (ownOK raw = false ∧ e = .returned (.pointer none))) := by
  obtain ⟨a, c, rfl⟩ := hv.form
  by_cases hl : raw.length = 4096
  · have hR : ownOK raw = (faultP (raw.take 4) (numAt raw 4 8) (numAt raw 12 4) (numAt raw 16 2) (slotsOf raw) raw (numAt raw 12 4) == 0) := by unfold ownOK pageFault; rw [if_neg (by simp [hl]), hl]; rfl
    obtain ⟨b, off, rfl, hc⟩ := rd_some hv (by omega)
    have hrg := rd_range hv (by omega)
    have hI : (Try.prog.info? 72).map (·.size) = some (vals .u8 raw).length := by rw [vals_length, hl]; exact page_info
    have hT := takeApart_any raw w hB hl
    have hn12 := numAt_in raw hB 12 4 (by decide) (by decide) (by omega)
    have hn16 := numAt_in raw hB 16 2 (by decide) (by decide) (by omega)
    have hF := fun P wx (h : SP wx P (raw.take 4) (numAt raw 4 8) (numAt raw 12 4) (numAt raw 16 2) (slotsOf raw) raw) => fault_any P (raw.take 4) (numAt raw 4 8) (numAt raw 12 4) (numAt raw 16 2) (slotsOf raw) raw (numAt raw 12 4) wx h (slotsOf_small raw hB hl) ⟨hn12.1, by omega⟩ ⟨hn16.1, by omega⟩
    obtain ⟨F, hFe⟩ : ∃ F, faultP (raw.take 4) (numAt raw 4 8) (numAt raw 12 4) (numAt raw 16 2) (slotsOf raw) raw (numAt raw 12 4) = F := ⟨_, rfl⟩
    rw [hFe] at hF hR
    have HR := (show Hid (ownOK raw = (F == 0)) from hR)
    obtain ⟨cs, hcs⟩ : ∃ cs : List Value, vals .u8 raw = cs := ⟨_, rfl⟩
    rw [hcs] at hT hrg hI
    rw [hl]
    have harr := run_arrayP
    clear hcs hv hB hn hR hl hFe hn12 hn16
    go_enter Try.func41, Try.ntmps41
    go_upto_region 4 with (first
      | (go_at_call 77; refine hT.mono ?_; rintro e w1 ⟨P, rfl, hP, hsp, hk1⟩)
      | (refine wpList_load_mid rfl 72 _ rfl b off rfl cs _ hrg Try.underlying72 rfl hI ?_))
    have c5 := hsp.num3.2.1
    have HSP := (show Hid (SP w1 P (raw.take 4) (numAt raw 4 8) (numAt raw 12 4) (numAt raw 16 2) (slotsOf raw) raw) from hsp)
    have hc := hF P w1 hsp
    clear hF hT hsp
    by_cases h0 : F = 0
    · subst h0
      go_wp2_with (go_at_call 78; refine hc.mono ?_; rintro e w2 ⟨rfl, hk2⟩)
      go_ret
      exact ⟨hk1.trans hk2, .inl ⟨HR.out, P, rfl, hP, HSP.out.same hk2⟩⟩
    · have h0b : (F != 0) = true := by simp [h0]
      go_wp2_with (go_at_call 78; refine hc.mono ?_; rintro e w2 ⟨rfl, hk2⟩)
      go_ret
      exact ⟨hk1.trans hk2, .inr ⟨by rw [HR.out]; simp [h0], rfl⟩⟩
  · have hR : ownOK raw = false := by unfold ownOK; simp [hl]
    have hl' : ¬ (raw.length : Int) = 4096 := by omega
    clear hv hB
    go_enter Try.func41, Try.ntmps41
    go_wp2
    go_ret
    exact ⟨Kept.refl _ _, .inr ⟨hR, rfl⟩⟩

set_option maxRecDepth 100000 in
set_option maxHeartbeats 4000000 in
theorem l3Own_any (v : Value) (raw : List Int) (w : World) (hB : IsB raw) (hn : raw.length ≤ 1099511627776) (hv : Rd .u8 w v raw) :
    Calls Try.prog 38 #[v] w fun e w' => e = .returned (.bool (ownOK raw)) ∧ Same w w' := by
  obtain ⟨a, c, rfl⟩ := hv.form
  by_cases hl : raw.length = 4096
  · obtain ⟨b, off, rfl, hc⟩ := rd_some hv (by omega)
    have hR : ownOK raw = (pageFault raw (numAt raw 12 4) == 0) := by unfold ownOK; rw [hl]; rfl
    rw [hl] at hv ⊢
    have hN := l3Number_any b off 4096 c raw 12 4 w hB hl (by decide) (by decide) (by decide) hv
    have hF := fun wx (h : Same w wx) => specFault_any (.slice (some ⟨b, off, none⟩) 4096 c) raw (numAt raw 12 4) wx hB hn (hv.same h)
    rw [hR]
    have e12 : getN ((raw.drop 12).take 4) = numAt raw 12 4 := rfl
    rw [e12] at hN
    generalize pageFault raw (numAt raw 12 4) = F at *
    generalize numAt raw 12 4 = N at *
    clear hv hB hR e12
    go_enter Try.func38, Try.ntmps38
    go_wp2_with (first
      | (go_at_call 76; refine hN.mono ?_; rintro e w1 ⟨rfl, hk1⟩; have hF' := hF w1 hk1)
      | (go_at_call 63; refine hF'.mono ?_; rintro e w2 ⟨rfl, hk2⟩))
    go_ret
    exact ⟨rfl, hk1.trans hk2⟩
  · have hR : ownOK raw = false := by unfold ownOK; simp [hl]
    rw [hR]
    have hl' : ¬ (raw.length : Int) = 4096 := by omega
    clear hv hB
    go_enter Try.func38, Try.ntmps38
    go_wp2
    go_ret
    exact ⟨rfl, Kept.refl _ _⟩

def pageLSN (raw : List Int) : Int := if ownOK raw = true then numAt raw 4 8 else -1
end Go.Proofs.Ytekpfafmhgplpaa
