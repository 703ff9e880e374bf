/-
  The law over PageLSN (by tools/lawgen.py).
-/
import Derived.Test.YtbcklddadfnkgabOwnFn
import Derived.Deep.DeepCutAuto
namespace Go.Proofs.Ytbcklddadfnkgab
open Go.RowKit
set_option linter.unusedVariables false

set_option maxRecDepth 100000 in
set_option maxHeartbeats 16000000 in
theorem pageLSN_law (v0 : Value) (bs0 : List Int) (w : World) (hv0 : Rd .u8 w v0 bs0) (hB0 : IsB bs0) :
    Calls Try.prog 5 #[v0] w fun e w' => e = .returned (.bool true) ∧ Same w w' := by
  obtain ⟨a0a, c0a, rfl⟩ := hv0.form
  have hm0 := hv0.1
  unfold maxLen at hm0
  have HB0 := (show Hid (IsB bs0) from hB0)
  clear hB0
  have HV0 := (show Hid (Rd .u8 w (.slice a0a bs0.length c0a) bs0) from hv0)
  clear hv0
  go_enter Try.func5, Try.ntmps5
  have HKw : Hid (Same w w) := Kept.refl _ _
  by_cases hb0 : (1048576 : Int) < (bs0.length : Int)
  · go_wp2
    go_ret
    exact ⟨rfl, by first | exact Kept.refl _ _ | exact (Kept.refl _ _).alloc _ | exact ((Kept.refl _ _).alloc _).alloc _⟩
  go_wp2_with fail
  refine (toByteS_any _ bs0 _ (by omega) (HV0.out.same HKw.out)).mono ?_
  rintro e w1 ⟨gC0, rfl, hf, ho, hk⟩
  have hf : ∀ b, (Value.slice (some ⟨gC0, 0, none⟩) bs0.length bs0.length).ownBlock = some b → _ ≤ b := fun b hb => by rw [← (Option.some.inj hb : gC0 = b)]; exact hf
  have HFC0 := (show Hid (∀ b, (Value.slice (some ⟨gC0, 0, none⟩) bs0.length bs0.length).ownBlock = some b → w.heap.size ≤ b ∧ b < w1.heap.size) from fun b hb => ⟨hf b hb, (ho.lt b hb).2⟩)
  have HC0w1 := (show Hid (Own 0 5 .u8 w1 (.slice (some ⟨gC0, 0, none⟩) bs0.length bs0.length) bs0) from ho)
  clear hf ho
  have hkk : Same w w1 := hk
  have hzw1 := hkk.size
  have HKw1 := (show Hid (Same w w1) from HKw.out.trans hkk)
  clear hkk hk
  go_wp2_with fail
  refine (specLSN_any _ bs0 _ HB0.out (by omega) (HC0w1.out.rd)).mono ?_
  rintro e w2 ⟨rfl, hk⟩
  obtain ⟨r0, hR⟩ : ∃ r, pageLSN bs0 = r := ⟨_, rfl⟩
  have HR : Hid (pageLSN bs0 = r0) := hR
  clear hR
  rw [HR.out]
  have hkk : Same w1 w2 := hk
  have hzw2 := hkk.size
  have HC0w2 := (show Hid (Own 0 5 .u8 w2 (.slice (some ⟨gC0, 0, none⟩) bs0.length bs0.length) bs0) from HC0w1.out.same hkk)
  have HKw2 := (show Hid (Same w w2) from HKw1.out.trans hkk)
  clear hkk hk
  go_wp2_with fail
  refine (toByteS_any _ bs0 _ (by omega) (HV0.out.same HKw2.out)).mono ?_
  rintro e w3 ⟨gX0, rfl, hf, ho, hk⟩
  have hf : ∀ b, (Value.slice (some ⟨gX0, 0, none⟩) bs0.length bs0.length).ownBlock = some b → _ ≤ b := fun b hb => by rw [← (Option.some.inj hb : gX0 = b)]; exact hf
  have HFX0 := (show Hid (∀ b, (Value.slice (some ⟨gX0, 0, none⟩) bs0.length bs0.length).ownBlock = some b → w2.heap.size ≤ b ∧ b < w3.heap.size) from fun b hb => ⟨hf b hb, (ho.lt b hb).2⟩)
  have HX0w3 := (show Hid (Own 0 5 .u8 w3 (.slice (some ⟨gX0, 0, none⟩) bs0.length bs0.length) bs0) from ho)
  clear hf ho
  have hkk : Same w2 w3 := hk
  have hzw3 := hkk.size
  have HKw3 := (show Hid (Same w w3) from HKw2.out.trans hkk)
  clear hkk hk
  go_wp2_with fail
  refine (implLSN_any _ bs0 _ HB0.out (by omega) (HX0w3.out.rd)).mono ?_
  rintro e w4 ⟨rfl, hk⟩
  rw [HR.out]
  have hkk : Same w3 w4 := hk
  have hzw4 := hkk.size
  have HX0w4 := (show Hid (Own 0 5 .u8 w4 (.slice (some ⟨gX0, 0, none⟩) bs0.length bs0.length) bs0) from HX0w3.out.same hkk)
  have HKw4 := (show Hid (Same w w4) from HKw3.out.trans hkk)
  clear hkk hk
  go_wp2_with fail
  refine (toByteS_any _ bs0 _ (by omega) (HV0.out.same HKw4.out)).mono ?_
  rintro e w5 ⟨gD0, rfl, hf, ho, hk⟩
  have hf : ∀ b, (Value.slice (some ⟨gD0, 0, none⟩) bs0.length bs0.length).ownBlock = some b → _ ≤ b := fun b hb => by rw [← (Option.some.inj hb : gD0 = b)]; exact hf
  have HFD0 := (show Hid (∀ b, (Value.slice (some ⟨gD0, 0, none⟩) bs0.length bs0.length).ownBlock = some b → w4.heap.size ≤ b ∧ b < w5.heap.size) from fun b hb => ⟨hf b hb, (ho.lt b hb).2⟩)
  have HD0w5 := (show Hid (Own 0 5 .u8 w5 (.slice (some ⟨gD0, 0, none⟩) bs0.length bs0.length) bs0) from ho)
  clear hf ho
  have hkk : Same w4 w5 := hk
  have hzw5 := hkk.size
  have HX0w5 := (show Hid (Own 0 5 .u8 w5 (.slice (some ⟨gX0, 0, none⟩) bs0.length bs0.length) bs0) from HX0w4.out.same hkk)
  have HKw5 := (show Hid (Same w w5) from HKw4.out.trans hkk)
  clear hkk hk
  go_wp2_with fail
  refine (eqByteS_own 0 _ _ bs0 _ (by omega) HX0w5.out HD0w5.out).mono ?_
  rintro e w6 ⟨rfl, nn, hww⟩
  have hk : Same w5 w6 := by rw [hww]; exact (Kept.refl _ _).drewN _
  clear hww
  have hkk : Same w5 w6 := hk
  have hzw6 := hkk.size
  have HX0w6 := (show Hid (Own 0 5 .u8 w6 (.slice (some ⟨gX0, 0, none⟩) bs0.length bs0.length) bs0) from HX0w5.out.same hkk)
  have HKw6 := (show Hid (Same w w6) from HKw5.out.trans hkk)
  clear hkk hk
  go_wp2
  go_ret
  exact ⟨rfl, HKw6.out⟩
end Go.Proofs.Ytbcklddadfnkgab
