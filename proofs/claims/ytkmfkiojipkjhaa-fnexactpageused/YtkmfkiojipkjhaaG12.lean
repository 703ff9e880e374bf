import Derived.Test.YtkmfkiojipkjhaaUsedFn
import Derived.Test.YtkmfkiojipkjhaaG00
import Derived.Deep.DeepCutAuto
namespace Go.Proofs.Ytkmfkiojipkjhaa
set_option maxRecDepth 100000
set_option maxHeartbeats 16000000
open Go.RowKit
set_option linter.unusedVariables false
theorem pageUsed_law (v0 : Value) (bs0 : List Int) (w : World) (hv0 : Rd .u8 w v0 bs0) (hB0 : IsB bs0) :
    Calls Try.prog 8 #[v0] w fun e w' => e = .returned (.bool true) ∧ Same w w' := by
  obtain ⟨a0a, c0a, rfl⟩ := hv0.form
  have hm0 := hv0.1
  unfold maxLen at hm0
  have HB0 := (show Hid (IsB bs0) from hB0)
  clear hB0
  have HV0 := (show Hid (Rd .u8 w (.slice a0a bs0.length c0a) bs0) from hv0)
  clear hv0
  go_enter Try.func8, Try.ntmps8
  have HKw : Hid (Same w w) := Kept.refl _ _
  by_cases hb0 : (1048576 : Int) < (bs0.length : Int)
  · go_wp2
    go_ret
    exact ⟨rfl, by first | exact Kept.refl _ _ | exact (Kept.refl _ _).alloc _ | exact ((Kept.refl _ _).alloc _).alloc _⟩
  go_wp2_with fail
  refine (toByteS_any _ bs0 _ (by omega) (HV0.out.same HKw.out)).mono ?_
  rintro e w1 ⟨gC0, rfl, hf, ho, hk⟩
  have hf : ∀ b, (Value.slice (some ⟨gC0, 0, none⟩) bs0.length bs0.length).ownBlock = some b → _ ≤ b := fun b hb => by rw [← (Option.some.inj hb : gC0 = b)]; exact hf
  have HFC0 := (show Hid (∀ b, (Value.slice (some ⟨gC0, 0, none⟩) bs0.length bs0.length).ownBlock = some b → w.heap.size ≤ b ∧ b < w1.heap.size) from fun b hb => ⟨hf b hb, (ho.lt b hb).2⟩)
  have HC0w1 := (show Hid (Own 0 5 .u8 w1 (.slice (some ⟨gC0, 0, none⟩) bs0.length bs0.length) bs0) from ho)
  clear hf ho
  have hkk : Same w w1 := hk
  have hzw1 := hkk.size
  have HKw1 := (show Hid (Same w w1) from HKw.out.trans hkk)
  clear hkk hk
  go_wp2_with fail
  refine (specUsed_any _ bs0 _ HB0.out (by omega) (HC0w1.out.rd)).mono ?_
  rintro e w2 ⟨rfl, hk⟩
  obtain ⟨r0, hR⟩ : ∃ r, pageUsed bs0 = r := ⟨_, rfl⟩
  have HR : Hid (pageUsed bs0 = r0) := hR
  clear hR
  rw [HR.out]
  have hkk : Same w1 w2 := hk
  have hzw2 := hkk.size
  have HC0w2 := hid (HC0w1.out.same hkk)
  have HKw2 := (show Hid (Same w w2) from HKw1.out.trans hkk)
  clear hkk hk
  go_wp2_with fail
  refine (toByteS_any _ bs0 _ (by omega) (HV0.out.same HKw2.out)).mono ?_
  rintro e w3 ⟨gX0, rfl, hf, ho, hk⟩
  have hf : ∀ b, (Value.slice (some ⟨gX0, 0, none⟩) bs0.length bs0.length).ownBlock = some b → _ ≤ b := fun b hb => by rw [← (Option.some.inj hb : gX0 = b)]; exact hf
  have HFX0 := (show Hid (∀ b, (Value.slice (some ⟨gX0, 0, none⟩) bs0.length bs0.length).ownBlock = some b → w2.heap.size ≤ b ∧ b < w3.heap.size) from fun b hb => ⟨hf b hb, (ho.lt b hb).2⟩)
  have HX0w3 := (show Hid (Own 0 5 .u8 w3 (.slice (some ⟨gX0, 0, none⟩) bs0.length bs0.length) bs0) from ho)
  clear hf ho
  have hkk : Same w2 w3 := hk
  have hzw3 := hkk.size
  have HKw3 := (show Hid (Same w w3) from HKw2.out.trans hkk)
  clear hkk hk
  go_wp2_with fail
  refine (implUsed_any _ bs0 _ HB0.out (by omega) (HX0w3.out.rd)).mono ?_
  rintro e w4 ⟨rfl, hk⟩
  rw [HR.out]
  have hkk : Same w3 w4 := hk
  have hzw4 := hkk.size
  have HX0w4 := hid (HX0w3.out.same hkk)
  have HKw4 := (show Hid (Same w w4) from HKw3.out.trans hkk)
  clear hkk hk
  go_wp2_with fail
  refine (toByteS_any _ bs0 _ (by omega) (HV0.out.same HKw4.out)).mono ?_
  rintro e w5 ⟨gD0, rfl, hf, ho, hk⟩
  have hf : ∀ b, (Value.slice (some ⟨gD0, 0, none⟩) bs0.length bs0.length).ownBlock = some b → _ ≤ b := fun b hb => by rw [← (Option.some.inj hb : gD0 = b)]; exact hf
  have HFD0 := (show Hid (∀ b, (Value.slice (some ⟨gD0, 0, none⟩) bs0.length bs0.length).ownBlock = some b → w4.heap.size ≤ b ∧ b < w5.heap.size) from fun b hb => ⟨hf b hb, (ho.lt b hb).2⟩)
  have HD0w5 := (show Hid (Own 0 5 .u8 w5 (.slice (some ⟨gD0, 0, none⟩) bs0.length bs0.length) bs0) from ho)
  clear hf ho
  have hkk : Same w4 w5 := hk
  have hzw5 := hkk.size
  have HX0w5 := hid (HX0w4.out.same hkk)
  have HKw5 := (show Hid (Same w w5) from HKw4.out.trans hkk)
  clear hkk hk
  go_wp2_with fail
  refine (eqByteS_own 0 _ _ bs0 _ (by omega) HX0w5.out HD0w5.out).mono ?_
  rintro e w6 ⟨rfl, nn, hww⟩
  have hk : Same w5 w6 := by rw [hww]; exact (Kept.refl _ _).drewN _
  clear hww
  have hkk : Same w5 w6 := hk
  have hzw6 := hkk.size
  have HX0w6 := hid (HX0w5.out.same hkk)
  have HKw6 := (show Hid (Same w w6) from HKw5.out.trans hkk)
  clear hkk hk
  go_wp2
  go_ret
  exact ⟨rfl, HKw6.out⟩
end Go.Proofs.Ytkmfkiojipkjhaa

namespace Go.Proofs.Ytkmfkiojipkjhaa.fnExactPageUsed
open Go.ChangeShapes Go.WideShapes Go.ChangeAt Go.RowKit
set_option linter.unusedVariables false
theorem own : ownKnob Try.prog.godebug = none := by kernel_rfl
theorem laidOut : laidOutB Try.prog = true := by kernel_rfl
set_option maxRecDepth 100000 in
theorem lifted (os : Os) (started : os.Started) (H : Type) (enc : TypeId × Value → H) :
    ReturnsInHanded {} Try.checked os 8 .any (Rows.fnExactPageUsedSpec.pre6 enc Try.prog Try.f8 Rows.fnExactPageUsedRow.domain false) (Rows.fnExactPageUsedSpec.post enc Try.prog Try.f8 false true false false) := by
  refine returnsInHanded_of_change (C := Try.checked) own started (by kernel_rfl) Try.func8
    (ChangeSpec.witness6 (enc := enc) (C := Try.checked) false ⟨#[], #[.slice none 0 0], []⟩ 8 (by kernel_rfl) (by kernel_rfl) (by kernel_rfl) (by kernel_rfl)) ?_
  intro W base args ds gs before hval0 hW hcnd _
  have hval : ∀ (j : Nat) t v, Try.f8.params[j]? = some t → args[j]? = some v → Value.okWide Try.prog W .any base t v := hval0
  have hW' := hW
  obtain ⟨p, q, hA0, hV, rfl, hfz, hnd⟩ := hW
  have hA : DataW.TrodAll enc Try.prog W 0 (fun _ => true) true Try.f8.params.toList args.toList ds p := hA0
  rw [Try.params8] at hA hval
  obtain ⟨v0, vs0, d0, ds0, p0, q0, hargs, rfl, rfl, h0, r0⟩ := trodAll_cons hA
  obtain ⟨rfl, rfl, rfl⟩ := trodAll_nil r0
  obtain rfl : args = #[v0] := by cases args; simp_all
  obtain ⟨rfl, rfl⟩ := trodVars_none hV
  have k0 := h0
  have lt0 : ∀ x ∈ p0, x.block < W.heap.size := by obtain ⟨m, hm⟩ := k0; exact DataW.trod_lt m _ _ _ hm
  obtain ⟨x0, rd0, bd0⟩ := open_bytesB (hval 0 22 v0 rfl rfl) h0
  clear hA0 hval0
  refine (pageUsed_law v0 x0 W rd0 bd0).mono fun e W' ⟨he, hk⟩ => ?_
  have bel : Below W.heap.size W W' := hk.below (Nat.le_refl _) (fun _ _ => id)
  subst he
  exact ⟨_, rfl, _, _, _, [], _, [], hW', trodAll_mk1 (shut_bool Try.underlying4 _), (trodAll_cons_mk (Below.trod laidOut (by kernel_rfl) (of_decide_eq_true (by kernel_rfl)) k0 bel lt0) trodAll_mk0), rfl, bel.frame _, fun h => by cases h⟩
theorem over : Rows.fnExactPageUsedRow.holds Try.pinned (OpenSpec.ofChange Rows.fnExactPageUsedSpec) :=
  OpenClaim.holds_of_wide 8 Try.f8 rfl rfl rfl rfl rfl rfl rfl ⟨rfl, rfl, rfl, rfl, rfl⟩ rfl rfl rfl rfl rfl (by kernel_rfl) Try.func8 (by kernel_rfl)
    (of_decide_eq_true (by kernel_rfl)) (by unfold Func.isWrapper; first | (rw [if_pos (by decide +kernel)]; kernel_rfl) | (rw [if_neg (by decide +kernel)]; exact ⟨rfl, rfl⟩))
    (fun os started H enc _ => lifted os started H enc)
end Go.Proofs.Ytkmfkiojipkjhaa.fnExactPageUsed
namespace Go.Proofs.Ytkmfkiojipkjhaa
theorem pageUsed_proved : Rows.FnExactPageUsedSaid := fnExactPageUsed.over
#print axioms pageUsed_proved
end Go.Proofs.Ytkmfkiojipkjhaa
