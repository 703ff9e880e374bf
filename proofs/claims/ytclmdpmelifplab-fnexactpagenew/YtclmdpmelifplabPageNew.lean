/-
  The law over PageNew (by tools/lawgen.py).
-/
import Derived.Test.YtclmdpmelifplabNewFn
import Derived.Deep.DeepCutAuto
namespace Go.Proofs.Ytclmdpmelifplab
open Go.RowKit
set_option linter.unusedVariables false

set_option maxRecDepth 100000 in
set_option maxHeartbeats 16000000 in
theorem pageNew_law (s0 : Int) (w : World)  :
    Calls Try.prog 5 #[.int .i64 s0] w fun e w' => e = .returned (.bool true) ∧ Same w w' := by
  go_enter Try.func5, Try.ntmps5
  have HKw : Hid (Same w w) := Kept.refl _ _
  go_wp2_with fail
  refine (specNew_any s0 _ ).mono ?_
  rintro e w1 ⟨aW, cW, rfl, hf, ho, hk⟩
  have hrl : (pageNew s0).length ≤ 1048576 := Nat.le_trans (pageNew_length _) (by omega)
  obtain ⟨r0, hR⟩ : ∃ r, pageNew s0 = r := ⟨_, rfl⟩
  have HR : Hid (pageNew s0 = r0) := hR
  rw [hR] at hrl
  clear hR
  rw [HR.out] at hf ho ⊢
  have HFW := (show Hid (∀ b, (Value.slice aW r0.length cW).ownBlock = some b → w.heap.size ≤ b ∧ b < w1.heap.size) from fun b hb => ⟨hf b hb, (ho.lt b hb).2⟩)
  have HWw1 := (show Hid (Own 0 5 .u8 w1 (.slice aW r0.length cW) r0) from ho)
  clear hf ho
  have hkk : Same w w1 := hk
  have hzw1 := hkk.size
  have HKw1 := (show Hid (Same w w1) from HKw.out.trans hkk)
  clear hkk hk
  go_wp2_with fail
  refine (implNew_any s0 _ ).mono ?_
  rintro e w2 ⟨aG, cG, rfl, hf, ho, hk⟩
  rw [HR.out] at hf ho ⊢
  have HFG := (show Hid (∀ b, (Value.slice aG r0.length cG).ownBlock = some b → w1.heap.size ≤ b ∧ b < w2.heap.size) from fun b hb => ⟨hf b hb, (ho.lt b hb).2⟩)
  have HGw2 := (show Hid (Own 0 69 .u8 w2 (.slice aG r0.length cG) r0) from ho)
  clear hf ho
  have hkk : Same w1 w2 := hk
  have hzw2 := hkk.size
  have HWw2 := (show Hid (Own 0 5 .u8 w2 (.slice aW r0.length cW) r0) from HWw1.out.same hkk)
  have HKw2 := (show Hid (Same w w2) from HKw1.out.trans hkk)
  clear hkk hk
  go_wp2_with fail
  refine (eqByteS_own 0 _ _ r0 _ (by omega) HGw2.out HWw2.out).mono ?_
  rintro e w3 ⟨rfl, nn, hww⟩
  have hk : Same w2 w3 := by rw [hww]; exact (Kept.refl _ _).drewN _
  clear hww
  have hkk : Same w2 w3 := hk
  have hzw3 := hkk.size
  have HWw3 := (show Hid (Own 0 5 .u8 w3 (.slice aW r0.length cW) r0) from HWw2.out.same hkk)
  have HGw3 := (show Hid (Own 0 69 .u8 w3 (.slice aG r0.length cG) r0) from HGw2.out.same hkk)
  have HKw3 := (show Hid (Same w w3) from HKw2.out.trans hkk)
  clear hkk hk
  have hE0 : (0 : Int) ≤ 1 := by omega
  have hE0b : (1 : Int) ≤ 1 := by omega
  have hM2 : ¬ (1 + (r0.length : Int)) < 0 := by omega
  go_wp2_with fail
  refine (markByteS_own 0 _ r0 1 _ (by omega) (by omega) (by omega) HGw3.out).mono ?_
  rintro e w4 ⟨rfl, ho, hk⟩
  have hzw4 := hk.size
  have HWw4 := (show Hid (Own 0 5 .u8 w4 (.slice aW r0.length cW) r0) from HWw3.out.kept hk (fun b hb e => by have h1 := HFG.out _ e; have h2 := HFW.out b hb; omega))
  have HKw4 := (show Hid (Same w w4) from HKw3.out.next hk (fun b hb e => by have h1 := HFG.out _ e; omega))
  have HUw4 := (show Hid (Own 0 69 .u8 w4 (.slice aG r0.length cG) (marks 1 r0.length)) from ho)
  clear hk ho
  go_wp2_with fail
  refine (heldByteS_own 0 _ r0.length 1 _ (by omega) (by omega) (by omega) HUw4.out).mono ?_
  rintro e w5 ⟨rfl, hww⟩
  have hk : Same w4 w5 := by rw [hww]; exact Kept.refl _ _
  clear hww
  have hkk : Same w4 w5 := hk
  have hzw5 := hkk.size
  have HWw5 := (show Hid (Own 0 5 .u8 w5 (.slice aW r0.length cW) r0) from HWw4.out.same hkk)
  have HUw5 := (show Hid (Own 0 69 .u8 w5 (.slice aG r0.length cG) (marks 1 r0.length)) from HUw4.out.same hkk)
  have HKw5 := (show Hid (Same w w5) from HKw4.out.trans hkk)
  clear hkk hk
  go_wp2_with fail
  refine (implNew_any s0 _ ).mono ?_
  rintro e w6 ⟨aL, cL, rfl, hf, ho, hk⟩
  rw [HR.out] at hf ho ⊢
  have HFL := (show Hid (∀ b, (Value.slice aL r0.length cL).ownBlock = some b → w5.heap.size ≤ b ∧ b < w6.heap.size) from fun b hb => ⟨hf b hb, (ho.lt b hb).2⟩)
  have HLw6 := (show Hid (Own 0 69 .u8 w6 (.slice aL r0.length cL) r0) from ho)
  clear hf ho
  have hkk : Same w5 w6 := hk
  have hzw6 := hkk.size
  have HWw6 := (show Hid (Own 0 5 .u8 w6 (.slice aW r0.length cW) r0) from HWw5.out.same hkk)
  have HUw6 := (show Hid (Own 0 69 .u8 w6 (.slice aG r0.length cG) (marks 1 r0.length)) from HUw5.out.same hkk)
  have HKw6 := (show Hid (Same w w6) from HKw5.out.trans hkk)
  clear hkk hk
  go_wp2_with fail
  refine (eqByteS_own 0 _ _ r0 _ (by omega) HLw6.out HWw6.out).mono ?_
  rintro e w7 ⟨rfl, nn, hww⟩
  have hk : Same w6 w7 := by rw [hww]; exact (Kept.refl _ _).drewN _
  clear hww
  have hkk : Same w6 w7 := hk
  have hzw7 := hkk.size
  have HWw7 := (show Hid (Own 0 5 .u8 w7 (.slice aW r0.length cW) r0) from HWw6.out.same hkk)
  have HUw7 := (show Hid (Own 0 69 .u8 w7 (.slice aG r0.length cG) (marks 1 r0.length)) from HUw6.out.same hkk)
  have HLw7 := (show Hid (Own 0 69 .u8 w7 (.slice aL r0.length cL) r0) from HLw6.out.same hkk)
  have HKw7 := (show Hid (Same w w7) from HKw6.out.trans hkk)
  clear hkk hk
  go_wp2_with fail
  refine (heldByteS_own 0 _ r0.length 1 _ (by omega) (by omega) (by omega) HUw7.out).mono ?_
  rintro e w8 ⟨rfl, hww⟩
  have hk : Same w7 w8 := by rw [hww]; exact Kept.refl _ _
  clear hww
  have hkk : Same w7 w8 := hk
  have hzw8 := hkk.size
  have HUw8 := (show Hid (Own 0 69 .u8 w8 (.slice aG r0.length cG) (marks 1 r0.length)) from HUw7.out.same hkk)
  have HKw8 := (show Hid (Same w w8) from HKw7.out.trans hkk)
  clear hkk hk
  go_wp2
  go_ret
  exact ⟨rfl, HKw8.out⟩
end Go.Proofs.Ytclmdpmelifplab
