import Derived.Test.YtmpkdjfhpfhmlaaG04
import Derived.Test.YtmpkdjfhpfhmlaaG00
import Derived.Deep.DeepCutAuto
namespace Go.Proofs.Ytmpkdjfhpfhmlaa
set_option maxRecDepth 100000
set_option maxHeartbeats 16000000
open Go.RowKit
set_option linter.unusedVariables false
theorem putNumber_law (s0 : Int) (s1 : Int) (w : World) (hB0 : IsI s0) (hB1 : IsI s1) :
    Calls Try.prog 6 #[.int .i64 s0, .int .i64 s1] w fun e w' => e = .returned (.bool true) ∧ Same w w' := by
  have HB0 := (show Hid (IsI s0) from hB0)
  clear hB0
  have HB1 := (show Hid (IsI s1) from hB1)
  clear hB1
  go_enter Try.func6, Try.ntmps6
  have HKw : Hid (Same w w) := Kept.refl _ _
  go_wp2_with fail
  refine (specPut_any s0 s1 _ HB0.out HB1.out).mono ?_
  rintro e w1 ⟨aW, cW, rfl, hf, ho, hk⟩
  have hrl : (numB s0 s1).length ≤ 1048576 := Nat.le_trans (numB_length _ _) (by omega)
  obtain ⟨r0, hR⟩ : ∃ r, numB s0 s1 = r := ⟨_, rfl⟩
  have HR : Hid (numB s0 s1 = r0) := hR
  rw [hR] at hrl
  clear hR
  rw [HR.out] at hf ho ⊢
  have HFW := (show Hid (∀ b, (Value.slice aW r0.length cW).ownBlock = some b → w.heap.size ≤ b ∧ b < w1.heap.size) from fun b hb => ⟨hf b hb, (ho.lt b hb).2⟩)
  have HWw1 := (show Hid (Own 0 5 .u8 w1 (.slice aW r0.length cW) r0) from ho)
  clear hf ho
  have hkk : Same w w1 := hk
  have hzw1 := hkk.size
  have HKw1 := (show Hid (Same w w1) from HKw.out.trans hkk)
  clear hkk hk
  go_wp2_with fail
  refine (implPut_any s0 s1 _ HB0.out HB1.out).mono ?_
  rintro e w2 ⟨aG, cG, rfl, hf, ho, hk⟩
  rw [HR.out] at hf ho ⊢
  have HFG := (show Hid (∀ b, (Value.slice aG r0.length cG).ownBlock = some b → w1.heap.size ≤ b ∧ b < w2.heap.size) from fun b hb => ⟨hf b hb, (ho.lt b hb).2⟩)
  have HGw2 := (show Hid (Own 0 5 .u8 w2 (.slice aG r0.length cG) r0) from ho)
  clear hf ho
  have hkk : Same w1 w2 := hk
  have hzw2 := hkk.size
  have HWw2 := (show Hid (Own 0 5 .u8 w2 (.slice aW r0.length cW) r0) from HWw1.out.same hkk)
  have HKw2 := (show Hid (Same w w2) from HKw1.out.trans hkk)
  clear hkk hk
  go_wp2_with fail
  refine (eqByteS_own 0 _ _ r0 _ (by omega) HGw2.out HWw2.out).mono ?_
  rintro e w3 ⟨rfl, nn, hww⟩
  have hk : Same w2 w3 := by rw [hww]; exact (Kept.refl _ _).drewN _
  clear hww
  have hkk : Same w2 w3 := hk
  have hzw3 := hkk.size
  have HWw3 := (show Hid (Own 0 5 .u8 w3 (.slice aW r0.length cW) r0) from HWw2.out.same hkk)
  have HGw3 := (show Hid (Own 0 5 .u8 w3 (.slice aG r0.length cG) r0) from HGw2.out.same hkk)
  have HKw3 := (show Hid (Same w w3) from HKw2.out.trans hkk)
  clear hkk hk
  have hE0 : (0 : Int) ≤ 1 := by omega
  have hE0b : (1 : Int) ≤ 1 := by omega
  have hM2 : ¬ (1 + (r0.length : Int)) < 0 := by omega
  go_wp2_with fail
  refine (markByteS_own 0 _ r0 1 _ (by omega) (by omega) (by omega) HGw3.out).mono ?_
  rintro e w4 ⟨rfl, ho, hk⟩
  have hzw4 := hk.size
  have HWw4 := (show Hid (Own 0 5 .u8 w4 (.slice aW r0.length cW) r0) from HWw3.out.kept hk (fun b hb e => by have h1 := HFG.out _ e; have h2 := HFW.out b hb; omega))
  have HKw4 := (show Hid (Same w w4) from HKw3.out.next hk (fun b hb e => by have h1 := HFG.out _ e; omega))
  have HUw4 := (show Hid (Own 0 5 .u8 w4 (.slice aG r0.length cG) (marks 1 r0.length)) from ho)
  clear hk ho
  go_wp2_with fail
  refine (heldByteS_own 0 _ r0.length 1 _ (by omega) (by omega) (by omega) HUw4.out).mono ?_
  rintro e w5 ⟨rfl, hww⟩
  have hk : Same w4 w5 := by rw [hww]; exact Kept.refl _ _
  clear hww
  have hkk : Same w4 w5 := hk
  have hzw5 := hkk.size
  have HWw5 := (show Hid (Own 0 5 .u8 w5 (.slice aW r0.length cW) r0) from HWw4.out.same hkk)
  have HUw5 := hid (HUw4.out.same hkk)
  have HKw5 := (show Hid (Same w w5) from HKw4.out.trans hkk)
  clear hkk hk
  go_wp2_with fail
  refine (implPut_any s0 s1 _ HB0.out HB1.out).mono ?_
  rintro e w6 ⟨aL, cL, rfl, hf, ho, hk⟩
  rw [HR.out] at hf ho ⊢
  have HFL := (show Hid (∀ b, (Value.slice aL r0.length cL).ownBlock = some b → w5.heap.size ≤ b ∧ b < w6.heap.size) from fun b hb => ⟨hf b hb, (ho.lt b hb).2⟩)
  have HLw6 := (show Hid (Own 0 5 .u8 w6 (.slice aL r0.length cL) r0) from ho)
  clear hf ho
  have hkk : Same w5 w6 := hk
  have hzw6 := hkk.size
  have HWw6 := (show Hid (Own 0 5 .u8 w6 (.slice aW r0.length cW) r0) from HWw5.out.same hkk)
  have HUw6 := hid (HUw5.out.same hkk)
  have HKw6 := (show Hid (Same w w6) from HKw5.out.trans hkk)
  clear hkk hk
  go_wp2_with fail
  refine (eqByteS_own 0 _ _ r0 _ (by omega) HLw6.out HWw6.out).mono ?_
  rintro e w7 ⟨rfl, nn, hww⟩
  have hk : Same w6 w7 := by rw [hww]; exact (Kept.refl _ _).drewN _
  clear hww
  have hkk : Same w6 w7 := hk
  have hzw7 := hkk.size
  have HWw7 := (show Hid (Own 0 5 .u8 w7 (.slice aW r0.length cW) r0) from HWw6.out.same hkk)
  have HUw7 := hid (HUw6.out.same hkk)
  have HLw7 := (show Hid (Own 0 5 .u8 w7 (.slice aL r0.length cL) r0) from HLw6.out.same hkk)
  have HKw7 := (show Hid (Same w w7) from HKw6.out.trans hkk)
  clear hkk hk
  go_wp2_with fail
  refine (heldByteS_own 0 _ r0.length 1 _ (by omega) (by omega) (by omega) HUw7.out).mono ?_
  rintro e w8 ⟨rfl, hww⟩
  have hk : Same w7 w8 := by rw [hww]; exact Kept.refl _ _
  clear hww
  have hkk : Same w7 w8 := hk
  have hzw8 := hkk.size
  have HUw8 := hid (HUw7.out.same hkk)
  have HKw8 := (show Hid (Same w w8) from HKw7.out.trans hkk)
  clear hkk hk
  go_wp2
  go_ret
  exact ⟨rfl, HKw8.out⟩
end Go.Proofs.Ytmpkdjfhpfhmlaa

namespace Go.Proofs.Ytmpkdjfhpfhmlaa.fnExactPutNumber
open Go.ChangeShapes Go.WideShapes Go.ChangeAt Go.RowKit
set_option linter.unusedVariables false
theorem own : ownKnob Try.prog.godebug = none := by kernel_rfl
theorem laidOut : laidOutB Try.prog = true := by kernel_rfl
set_option maxRecDepth 100000 in
theorem lifted (os : Os) (started : os.Started) (H : Type) (enc : TypeId × Value → H) :
    ReturnsInHanded {} Try.checked os 6 .any (Rows.fnExactPutNumberSpec.pre6 enc Try.prog Try.f6 Rows.fnExactPutNumberRow.domain false) (Rows.fnExactPutNumberSpec.post enc Try.prog Try.f6 false true false false) := by
  refine returnsInHanded_of_change (C := Try.checked) own started (by kernel_rfl) Try.func6
    (ChangeSpec.witness6 (enc := enc) (C := Try.checked) false ⟨#[], #[.int .i64 0, .int .i64 0], []⟩ 8 (by kernel_rfl) (by kernel_rfl) (by kernel_rfl) (by kernel_rfl)) ?_
  intro W base args ds gs before hval0 hW hcnd _
  have hval : ∀ (j : Nat) t v, Try.f6.params[j]? = some t → args[j]? = some v → Value.okWide Try.prog W .any base t v := hval0
  have hW' := hW
  obtain ⟨p, q, hA0, hV, rfl, hfz, hnd⟩ := hW
  have hA : DataW.TrodAll enc Try.prog W 0 (fun _ => true) true Try.f6.params.toList args.toList ds p := hA0
  rw [Try.params6] at hA hval
  obtain ⟨v0, vs0, d0, ds0, p0, q0, hargs, rfl, rfl, h0, r0⟩ := trodAll_cons hA
  obtain ⟨v1, vs1, d1, ds1, p1, q1, rfl, rfl, rfl, h1, r1⟩ := trodAll_cons r0
  obtain ⟨rfl, rfl, rfl⟩ := trodAll_nil r1
  obtain rfl : args = #[v0, v1] := by cases args; simp_all
  obtain ⟨rfl, rfl⟩ := trodVars_none hV
  obtain ⟨a0, rfl, rfl, rfl, w0⟩ := open_int Try.underlying2 (hval 0 2 v0 rfl rfl) h0
  obtain ⟨a1, rfl, rfl, rfl, w1⟩ := open_int Try.underlying2 (hval 1 2 v1 rfl rfl) h1
  clear hA0 hval0
  refine (putNumber_law a0 a1 W (int_bounds w0) (int_bounds w1)).mono fun e W' ⟨he, hk⟩ => ?_
  have bel : Below W.heap.size W W' := hk.below (Nat.le_refl _) (fun _ _ => id)
  subst he
  exact ⟨_, rfl, _, _, _, [], _, [], hW', trodAll_mk1 (shut_bool Try.underlying4 _), (trodAll_cons_mk (shut_int Try.underlying2 w0) (trodAll_cons_mk (shut_int Try.underlying2 w1) trodAll_mk0)), rfl, bel.frame _, fun h => by cases h⟩
theorem over : Rows.fnExactPutNumberRow.holds Try.pinned (OpenSpec.ofChange Rows.fnExactPutNumberSpec) :=
  OpenClaim.holds_of_wide 6 Try.f6 rfl rfl rfl rfl rfl rfl rfl ⟨rfl, rfl, rfl, rfl, rfl⟩ rfl rfl rfl rfl rfl (by kernel_rfl) Try.func6 (by kernel_rfl)
    (of_decide_eq_true (by kernel_rfl)) (by unfold Func.isWrapper; first | (rw [if_pos (by decide +kernel)]; kernel_rfl) | (rw [if_neg (by decide +kernel)]; exact ⟨rfl, rfl⟩))
    (fun os started H enc _ => lifted os started H enc)
end Go.Proofs.Ytmpkdjfhpfhmlaa.fnExactPutNumber
namespace Go.Proofs.Ytmpkdjfhpfhmlaa
theorem putNumber_proved : Rows.FnExactPutNumberSaid := fnExactPutNumber.over
#print axioms putNumber_proved
end Go.Proofs.Ytmpkdjfhpfhmlaa
