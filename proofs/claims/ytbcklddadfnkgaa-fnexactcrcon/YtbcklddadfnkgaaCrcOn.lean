/-
  The law over CrcOn (by tools/lawgen.py).
-/
import Derived.Test.YtbcklddadfnkgaaSumFn
import Derived.Deep.DeepCutAuto
namespace Go.Proofs.Ytbcklddadfnkgaa
open Go.RowKit
set_option linter.unusedVariables false

set_option maxRecDepth 100000 in
set_option maxHeartbeats 16000000 in
theorem crcOn_law (s0 : Int) (v1 : Value) (bs1 : List Int) (w : World) (hv1 : Rd .u8 w v1 bs1) (hB1 : IsB bs1) :
    Calls Try.prog 6 #[.int .i64 s0, v1] w fun e w' => e = .returned (.bool true) ∧ Same w w' := by
  obtain ⟨a1a, c1a, rfl⟩ := hv1.form
  have hm1 := hv1.1
  unfold maxLen at hm1
  have HB1 := (show Hid (IsB bs1) from hB1)
  clear hB1
  have HV1 := (show Hid (Rd .u8 w (.slice a1a bs1.length c1a) bs1) from hv1)
  clear hv1
  go_enter Try.func6, Try.ntmps6
  have HKw : Hid (Same w w) := Kept.refl _ _
  by_cases hb1 : (1048576 : Int) < (bs1.length : Int)
  · go_wp2
    go_ret
    exact ⟨rfl, by first | exact Kept.refl _ _ | exact (Kept.refl _ _).alloc _ | exact ((Kept.refl _ _).alloc _).alloc _⟩
  go_wp2_with fail
  refine (toByteS_any _ bs1 _ (by omega) (HV1.out.same HKw.out)).mono ?_
  rintro e w1 ⟨gC1, rfl, hf, ho, hk⟩
  have hf : ∀ b, (Value.slice (some ⟨gC1, 0, none⟩) bs1.length bs1.length).ownBlock = some b → _ ≤ b := fun b hb => by rw [← (Option.some.inj hb : gC1 = b)]; exact hf
  have HFC1 := (show Hid (∀ b, (Value.slice (some ⟨gC1, 0, none⟩) bs1.length bs1.length).ownBlock = some b → w.heap.size ≤ b ∧ b < w1.heap.size) from fun b hb => ⟨hf b hb, (ho.lt b hb).2⟩)
  have HC1w1 := (show Hid (Own 0 5 .u8 w1 (.slice (some ⟨gC1, 0, none⟩) bs1.length bs1.length) bs1) from ho)
  clear hf ho
  have hkk : Same w w1 := hk
  have hzw1 := hkk.size
  have HKw1 := (show Hid (Same w w1) from HKw.out.trans hkk)
  clear hkk hk
  go_wp2_with fail
  refine (specCrcOn_any s0 _ bs1 _ HB1.out (by omega) (HC1w1.out.rd)).mono ?_
  rintro e w2 ⟨rfl, hk⟩
  obtain ⟨r0, hR⟩ : ∃ r, crcOn s0 bs1 = r := ⟨_, rfl⟩
  have HR : Hid (crcOn s0 bs1 = r0) := hR
  clear hR
  rw [HR.out]
  have hkk : Same w1 w2 := hk
  have hzw2 := hkk.size
  have HC1w2 := (show Hid (Own 0 5 .u8 w2 (.slice (some ⟨gC1, 0, none⟩) bs1.length bs1.length) bs1) from HC1w1.out.same hkk)
  have HKw2 := (show Hid (Same w w2) from HKw1.out.trans hkk)
  clear hkk hk
  go_wp2_with fail
  refine (toByteS_any _ bs1 _ (by omega) (HV1.out.same HKw2.out)).mono ?_
  rintro e w3 ⟨gX1, rfl, hf, ho, hk⟩
  have hf : ∀ b, (Value.slice (some ⟨gX1, 0, none⟩) bs1.length bs1.length).ownBlock = some b → _ ≤ b := fun b hb => by rw [← (Option.some.inj hb : gX1 = b)]; exact hf
  have HFX1 := (show Hid (∀ b, (Value.slice (some ⟨gX1, 0, none⟩) bs1.length bs1.length).ownBlock = some b → w2.heap.size ≤ b ∧ b < w3.heap.size) from fun b hb => ⟨hf b hb, (ho.lt b hb).2⟩)
  have HX1w3 := (show Hid (Own 0 5 .u8 w3 (.slice (some ⟨gX1, 0, none⟩) bs1.length bs1.length) bs1) from ho)
  clear hf ho
  have hkk : Same w2 w3 := hk
  have hzw3 := hkk.size
  have HKw3 := (show Hid (Same w w3) from HKw2.out.trans hkk)
  clear hkk hk
  go_wp2_with fail
  refine (implCrcOn_any s0 _ bs1 _ HB1.out (by omega) (HX1w3.out.rd)).mono ?_
  rintro e w4 ⟨rfl, hk⟩
  rw [HR.out]
  have hkk : Same w3 w4 := hk
  have hzw4 := hkk.size
  have HX1w4 := (show Hid (Own 0 5 .u8 w4 (.slice (some ⟨gX1, 0, none⟩) bs1.length bs1.length) bs1) from HX1w3.out.same hkk)
  have HKw4 := (show Hid (Same w w4) from HKw3.out.trans hkk)
  clear hkk hk
  go_wp2_with fail
  refine (toByteS_any _ bs1 _ (by omega) (HV1.out.same HKw4.out)).mono ?_
  rintro e w5 ⟨gD1, rfl, hf, ho, hk⟩
  have hf : ∀ b, (Value.slice (some ⟨gD1, 0, none⟩) bs1.length bs1.length).ownBlock = some b → _ ≤ b := fun b hb => by rw [← (Option.some.inj hb : gD1 = b)]; exact hf
  have HFD1 := (show Hid (∀ b, (Value.slice (some ⟨gD1, 0, none⟩) bs1.length bs1.length).ownBlock = some b → w4.heap.size ≤ b ∧ b < w5.heap.size) from fun b hb => ⟨hf b hb, (ho.lt b hb).2⟩)
  have HD1w5 := (show Hid (Own 0 5 .u8 w5 (.slice (some ⟨gD1, 0, none⟩) bs1.length bs1.length) bs1) from ho)
  clear hf ho
  have hkk : Same w4 w5 := hk
  have hzw5 := hkk.size
  have HX1w5 := (show Hid (Own 0 5 .u8 w5 (.slice (some ⟨gX1, 0, none⟩) bs1.length bs1.length) bs1) from HX1w4.out.same hkk)
  have HKw5 := (show Hid (Same w w5) from HKw4.out.trans hkk)
  clear hkk hk
  go_wp2_with fail
  refine (eqByteS_own 0 _ _ bs1 _ (by omega) HX1w5.out HD1w5.out).mono ?_
  rintro e w6 ⟨rfl, nn, hww⟩
  have hk : Same w5 w6 := by rw [hww]; exact (Kept.refl _ _).drewN _
  clear hww
  have hkk : Same w5 w6 := hk
  have hzw6 := hkk.size
  have HX1w6 := (show Hid (Own 0 5 .u8 w6 (.slice (some ⟨gX1, 0, none⟩) bs1.length bs1.length) bs1) from HX1w5.out.same hkk)
  have HKw6 := (show Hid (Same w w6) from HKw5.out.trans hkk)
  clear hkk hk
  go_wp2
  go_ret
  exact ⟨rfl, HKw6.out⟩
end Go.Proofs.Ytbcklddadfnkgaa
