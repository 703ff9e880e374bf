import Derived.Test.YtmpfpgelaipmnaaG02
import Derived.Test.YtmpfpgelaipmnaaG00
import Derived.Deep.DeepCutAuto
namespace Go.Proofs.Ytmpfpgelaipmnaa
set_option maxRecDepth 100000
set_option maxHeartbeats 16000000
open Go.RowKit
set_option linter.unusedVariables false
theorem ckSize_law (s0 : Int) (w : World)  :
    Calls Try.prog 5 #[.int .i64 s0] w fun e w' => e = .returned (.bool true) ∧ Same w w' := by
  go_enter Try.func5, Try.ntmps5
  have HKw : Hid (Same w w) := Kept.refl _ _
  go_wp2_with fail
  refine (specCkSize_any s0 _ ).mono ?_
  rintro e w1 ⟨rfl, hk⟩
  obtain ⟨r0, hR⟩ : ∃ r, ckSize s0 = r := ⟨_, rfl⟩
  have HR : Hid (ckSize s0 = r0) := hR
  clear hR
  rw [HR.out]
  have hkk : Same w w1 := hk
  have hzw1 := hkk.size
  have HKw1 := (show Hid (Same w w1) from HKw.out.trans hkk)
  clear hkk hk
  go_wp2_with fail
  refine (implCkSize_any s0 _ ).mono ?_
  rintro e w2 ⟨rfl, hk⟩
  rw [HR.out]
  have hkk : Same w1 w2 := hk
  have hzw2 := hkk.size
  have HKw2 := (show Hid (Same w w2) from HKw1.out.trans hkk)
  clear hkk hk
  go_wp2
  go_ret
  exact ⟨rfl, HKw2.out⟩
end Go.Proofs.Ytmpfpgelaipmnaa

namespace Go.Proofs.Ytmpfpgelaipmnaa.fnExactCheckpointSize
open Go.ChangeShapes Go.WideShapes Go.ChangeAt Go.RowKit
set_option linter.unusedVariables false
theorem own : ownKnob Try.prog.godebug = none := by kernel_rfl
theorem laidOut : laidOutB Try.prog = true := by kernel_rfl
set_option maxRecDepth 100000 in
theorem lifted (os : Os) (started : os.Started) (H : Type) (enc : TypeId × Value → H) :
    ReturnsInHanded {} Try.checked os 5 .any (Rows.fnExactCheckpointSizeSpec.pre6 enc Try.prog Try.f5 Rows.fnExactCheckpointSizeRow.domain false) (Rows.fnExactCheckpointSizeSpec.post enc Try.prog Try.f5 false true false false) := by
  refine returnsInHanded_of_change (C := Try.checked) own started (by kernel_rfl) Try.func5
    (ChangeSpec.witness6 (enc := enc) (C := Try.checked) false ⟨#[], #[.int .i64 0], []⟩ 8 (by kernel_rfl) (by kernel_rfl) (by kernel_rfl) (by kernel_rfl)) ?_
  intro W base args ds gs before hval0 hW hcnd _
  have hval : ∀ (j : Nat) t v, Try.f5.params[j]? = some t → args[j]? = some v → Value.okWide Try.prog W .any base t v := hval0
  have hW' := hW
  obtain ⟨p, q, hA0, hV, rfl, hfz, hnd⟩ := hW
  have hA : DataW.TrodAll enc Try.prog W 0 (fun _ => true) true Try.f5.params.toList args.toList ds p := hA0
  rw [Try.params5] at hA hval
  obtain ⟨v0, vs0, d0, ds0, p0, q0, hargs, rfl, rfl, h0, r0⟩ := trodAll_cons hA
  obtain ⟨rfl, rfl, rfl⟩ := trodAll_nil r0
  obtain rfl : args = #[v0] := by cases args; simp_all
  obtain ⟨rfl, rfl⟩ := trodVars_none hV
  obtain ⟨a0, rfl, rfl, rfl, w0⟩ := open_int Try.underlying2 (hval 0 2 v0 rfl rfl) h0
  clear hA0 hval0
  refine (ckSize_law a0 W ).mono fun e W' ⟨he, hk⟩ => ?_
  have bel : Below W.heap.size W W' := hk.below (Nat.le_refl _) (fun _ _ => id)
  subst he
  exact ⟨_, rfl, _, _, _, [], _, [], hW', trodAll_mk1 (shut_bool Try.underlying4 _), (trodAll_cons_mk (shut_int Try.underlying2 w0) trodAll_mk0), rfl, bel.frame _, fun h => by cases h⟩
theorem over : Rows.fnExactCheckpointSizeRow.holds Try.pinned (OpenSpec.ofChange Rows.fnExactCheckpointSizeSpec) :=
  OpenClaim.holds_of_wide 5 Try.f5 rfl rfl rfl rfl rfl rfl rfl ⟨rfl, rfl, rfl, rfl, rfl⟩ rfl rfl rfl rfl rfl (by kernel_rfl) Try.func5 (by kernel_rfl)
    (of_decide_eq_true (by kernel_rfl)) (by unfold Func.isWrapper; first | (rw [if_pos (by decide +kernel)]; kernel_rfl) | (rw [if_neg (by decide +kernel)]; exact ⟨rfl, rfl⟩))
    (fun os started H enc _ => lifted os started H enc)
end Go.Proofs.Ytmpfpgelaipmnaa.fnExactCheckpointSize
namespace Go.Proofs.Ytmpfpgelaipmnaa
theorem checkpointSize_proved : Rows.FnExactCheckpointSizeSaid := fnExactCheckpointSize.over
#print axioms checkpointSize_proved
end Go.Proofs.Ytmpfpgelaipmnaa
