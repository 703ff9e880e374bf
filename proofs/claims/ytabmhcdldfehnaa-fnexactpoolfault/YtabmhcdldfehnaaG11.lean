import Derived.Test.YtabmhcdldfehnaaG04
import Derived.Test.YtabmhcdldfehnaaG00
import Derived.Test.YtabmhcdldfehnaaG03
import Derived.Deep.DeepCutAuto
import Derived.Deep.RegionWith
import Derived.Deep.DeepMust


namespace Go.Proofs.Ytabmhcdldfehnaa
set_option maxRecDepth 100000
set_option maxHeartbeats 16000000
open Go.RowKit
set_option linter.unusedVariables false
theorem poolFault_law (pv0 : Value) (ps0 : List EFrame) (hand0 : Int) (w : World) (hv0 : RdR kFrame w pv0 ps0) :
    Calls Try.prog 3 #[.agg #[pv0, .int .i64 hand0]] w fun e w' => e = .returned (.bool true) ∧ Same w w' := by
  obtain ⟨a0a, c0a, rfl⟩ := hv0.form
  have HV0 := (show Hid (RdR kFrame w (.slice a0a ps0.length c0a) ps0) from hv0)
  clear hv0
  go_enter Try.func3, Try.ntmps3
  have HKw : Hid (Same w w) := Kept.refl _ _
  go_wp2_with fail
  refine (szPool_any hand0 _ ps0 _ _ (by omega) (by omega) (HV0.out.same ((Kept.refl _ _).alloc _))).mono ?_
  rintro e w1 ⟨sz0, rfl, hr, hk⟩
  have hkk : Same w w1 := ((Kept.refl _ _).alloc _).trans hk
  have hzw1 := hk.size
  rw [World.size_alloc] at hzw1
  have HA0w1 := (show Hid (Blk w1 (w.heap.size) 24 [(.slice a0a ps0.length c0a), .int .i64 hand0]) from (Blk.new w #[(.slice a0a ps0.length c0a), .int .i64 hand0] 24).same hk)
  have HKw1 := (show Hid (Same w w1) from HKw.out.trans hkk)
  clear hkk hk
  rcases hr with rfl | ⟨hr, hr0⟩
  · go_wp2
    go_ret
    exact ⟨rfl, HKw1.out⟩
  have hp0 : ps0.length ≤ 1048576 := by omega
  have hsz0 : sizeFrameS ps0 ≤ 1048576 := by omega
  have HS0 : Hid (∀ p ∈ ps0, p.bs.length ≤ 1048576) := fun p hp => by have := sizeFrameS_mem ps0 p hp; omega
  have HT0 : Hid (∀ qs : List EFrame, datFrameS qs = datFrameS ps0 → qs.length ≤ 1048576 ∧ ∀ p ∈ qs, p.bs.length ≤ 1048576) := fun qs hq => ⟨by rw [← datFrameS_length, hq, datFrameS_length]; omega, fun p hp => by have := sizeFrameS_mem qs p hp; rw [datFrameS_size hq] at this; omega⟩
  clear hr
  have cA0_0 := HA0w1.out.c0
  have cA0_1 := HA0w1.out.c1
  have lA0 := HA0w1.out.lt
  go_wp2_with fail
  refine (toPool_any hand0 _ ps0 _ (by omega) (fun p hp => Nat.le_trans (HS0.out p hp) (by omega)) (HV0.out.same HKw1.out)).mono ?_
  rintro e w2 ⟨gC0, qsC0, rfl, hq, hf, ho, hk⟩
  have HQC0 : Hid (datFrameS qsC0 = datFrameS ps0) := hq
  have HFC0 := (show Hid (∀ b, footR kFrame (.slice (some ⟨gC0, 0, none⟩) ps0.length ps0.length) qsC0 b → w1.heap.size ≤ b ∧ b < w2.heap.size) from fun b hb => ⟨hf b hb, (ho.lt b hb).2⟩)
  have HC0w2 := (show Hid (OwnR kFrame 0 51 5 w2 (.slice (some ⟨gC0, 0, none⟩) ps0.length ps0.length) qsC0) from ho)
  clear hf ho hq
  have hkk : Same w1 w2 := hk
  have hzw2 := hkk.size
  have HA0w2 := hid (HA0w1.out.same hkk)
  have HKw2 := (show Hid (Same w w2) from HKw1.out.trans hkk)
  clear hkk hk
  clear cA0_0 cA0_1 lA0
  have cA0_0 := HA0w2.out.c0
  have cA0_1 := HA0w2.out.c1
  have lA0 := HA0w2.out.lt
  go_wp2_with fail
  refine (specPoolFault_any _ hand0 qsC0 _ (HC0w2.out.rd)).mono ?_
  rintro e w3 ⟨rfl, hk⟩
  rw [poolF_dat HQC0.out]
  obtain ⟨r0, hR⟩ : ∃ r, poolF ps0 hand0 = r := ⟨_, rfl⟩
  have HR : Hid (poolF ps0 hand0 = r0) := hR
  clear hR
  rw [HR.out]
  have hkk : Same w2 w3 := hk
  have hzw3 := hkk.size
  have HA0w3 := hid (HA0w2.out.same hkk)
  have HC0w3 := hid (HC0w2.out.same hkk)
  have HKw3 := (show Hid (Same w w3) from HKw2.out.trans hkk)
  clear hkk hk
  clear cA0_0 cA0_1 lA0
  have cA0_0 := HA0w3.out.c0
  have cA0_1 := HA0w3.out.c1
  have lA0 := HA0w3.out.lt
  go_wp2_with fail
  refine (toPool_any hand0 _ ps0 _ (by omega) (fun p hp => Nat.le_trans (HS0.out p hp) (by omega)) (HV0.out.same HKw3.out)).mono ?_
  rintro e w4 ⟨gX0, qsX0, rfl, hq, hf, ho, hk⟩
  have HQX0 : Hid (datFrameS qsX0 = datFrameS ps0) := hq
  have HFX0 := (show Hid (∀ b, footR kFrame (.slice (some ⟨gX0, 0, none⟩) ps0.length ps0.length) qsX0 b → w3.heap.size ≤ b ∧ b < w4.heap.size) from fun b hb => ⟨hf b hb, (ho.lt b hb).2⟩)
  have HX0w4 := (show Hid (OwnR kFrame 0 51 5 w4 (.slice (some ⟨gX0, 0, none⟩) ps0.length ps0.length) qsX0) from ho)
  clear hf ho hq
  have hkk : Same w3 w4 := hk
  have hzw4 := hkk.size
  have HA0w4 := hid (HA0w3.out.same hkk)
  have HKw4 := (show Hid (Same w w4) from HKw3.out.trans hkk)
  clear hkk hk
  clear cA0_0 cA0_1 lA0
  have cA0_0 := HA0w4.out.c0
  have cA0_1 := HA0w4.out.c1
  have lA0 := HA0w4.out.lt
  go_wp2_with fail
  refine (implPoolFault_any _ hand0 qsX0 _ (HX0w4.out.rd.same ((Kept.refl _ _).alloc _))).mono ?_
  rintro e w5 ⟨rfl, hk⟩
  rw [poolF_dat HQX0.out]
  rw [HR.out]
  have hkk : Same w4 w5 := ((Kept.refl _ _).alloc _).trans hk
  have hzw5 := hk.size
  rw [World.size_alloc] at hzw5
  have HA0w5 := hid (HA0w4.out.same hkk)
  have HX0w5 := hid (HX0w4.out.same hkk)
  have HT0w5 := (show Hid (Blk w5 (w4.heap.size) 29 [(.slice (some ⟨gX0, 0, none⟩) ps0.length ps0.length), .int .i64 hand0]) from (Blk.new w4 #[(.slice (some ⟨gX0, 0, none⟩) ps0.length ps0.length), .int .i64 hand0] 29).same hk)
  have HKw5 := (show Hid (Same w w5) from HKw4.out.trans hkk)
  clear hkk hk
  clear cA0_0 cA0_1 lA0
  have cA0_0 := HA0w5.out.c0
  have cA0_1 := HA0w5.out.c1
  have lA0 := HA0w5.out.lt
  have cT0_0 := HT0w5.out.c0
  have cT0_1 := HT0w5.out.c1
  have lT0 := HT0w5.out.lt
  go_wp2_with fail
  go_cut [26] (fun v wc => v = .bool false ∧ Hid (Same w5 wc))
  case first =>
    have HD1 : Hid (Same w w5.drew) := HKw5.out.drew
    have HD2 : Hid (Same w5 w5.drew) := (Kept.refl _ _).drew
    go_region_with (first | (go_at_call 11; refine (toPool_any hand0 _ ps0 _ (by omega) (fun p hp => Nat.le_trans (HS0.out p hp) (by omega)) (by exact HV0.out.same HD1.out)).mono ?_; rintro e wx7 ⟨g3, qs7, rfl, hq3, hf3, ho3, hk7⟩; have HO7 := (show Hid (OwnR kFrame 0 51 5 wx7 (.slice (some ⟨g3, 0, none⟩) ps0.length ps0.length) qs7) from ho3); have HQ7 : Hid (datFrameS qs7 = datFrameS ps0) := hq3; have HK7 : Hid (Same w5 wx7) := HD2.out.trans hk7; clear ho3 hq3 hf3 hk7; have y0 : wx7.cell? ⟨w4.heap.size, 0, none⟩ = some ((.slice (some ⟨gX0, 0, none⟩) ps0.length ps0.length)) := (HT0w5.out.same HK7.out).cell 0; have y1 : wx7.cell? ⟨w4.heap.size, 1, none⟩ = some (.int .i64 hand0) := (HT0w5.out.same HK7.out).cell 1) | (go_at_call 13; refine (eqPool_own 0 hand0 _ _ qsX0 qs7 _ (by have h := (HT0.out qsX0 HQX0.out).1; omega) (HQX0.out.trans HQ7.out.symm) (fun p hp => Nat.le_trans ((HT0.out qsX0 HQX0.out).2 p hp) (by omega)) (HX0w5.out.same HK7.out) HO7.out).mono ?_; rintro e wx8 ⟨rfl, hk8⟩))
    all_goals
      have HK8 : Hid (Same w5 wx8) := HK7.out.trans hk8
      clear hk8
      go_wp2_with fail
      go_meet
      case rel => exact ⟨rfl, HK8⟩
  case rest =>
  obtain ⟨rfl, HKC⟩ := hcut
  obtain ⟨w6, hwc⟩ : ∃ x, x = wc := ⟨_, rfl⟩
  subst hwc
  clear cA0_0 cA0_1 lA0 cT0_0 cT0_1 lT0
  have hkk : Same w5 w6 := HKC.out
  have hzw6 := hkk.size
  have HA0w6 := hid (HA0w5.out.same hkk)
  have HX0w6 := hid (HX0w5.out.same hkk)
  have HT0w6 := hid (HT0w5.out.same hkk)
  have HKw6 := (show Hid (Same w w6) from HKw5.out.trans hkk)
  clear hkk
  go_wp2
  go_ret
  exact ⟨rfl, HKw6.out⟩
end Go.Proofs.Ytabmhcdldfehnaa

namespace Go.Proofs.Ytabmhcdldfehnaa.fnExactPoolFault
open Go.ChangeShapes Go.WideShapes Go.ChangeAt Go.RowKit
set_option linter.unusedVariables false
theorem own : ownKnob Try.prog.godebug = none := by kernel_rfl
theorem laidOut : laidOutB Try.prog = true := by kernel_rfl
set_option maxRecDepth 100000 in
theorem lifted (os : Os) (started : os.Started) (H : Type) (enc : TypeId × Value → H) :
    ReturnsInHanded {} Try.checked os 3 .any (Rows.fnExactPoolFaultSpec.pre6 enc Try.prog Try.f3 Rows.fnExactPoolFaultRow.domain false) (Rows.fnExactPoolFaultSpec.post enc Try.prog Try.f3 false true false false) := by
  refine returnsInHanded_of_change (C := Try.checked) own started (by kernel_rfl) Try.func3
    (ChangeSpec.witness6 (enc := enc) (C := Try.checked) false ⟨#[], #[.agg #[.slice none 0 0, .int .i64 0]], []⟩ 8 (by kernel_rfl) (by kernel_rfl) (by kernel_rfl) (by kernel_rfl)) ?_
  intro W base args ds gs before hval0 hW hcnd _
  have hval : ∀ (j : Nat) t v, Try.f3.params[j]? = some t → args[j]? = some v → Value.okWide Try.prog W .any base t v := hval0
  have hW' := hW
  obtain ⟨p, q, hA0, hV, rfl, hfz, hnd⟩ := hW
  have hA : DataW.TrodAll enc Try.prog W 0 (fun _ => true) true Try.f3.params.toList args.toList ds p := hA0
  rw [Try.params3] at hA hval
  obtain ⟨v0, vs0, d0, ds0, p0, q0, hargs, rfl, rfl, h0, r0⟩ := trodAll_cons hA
  obtain ⟨rfl, rfl, rfl⟩ := trodAll_nil r0
  obtain rfl : args = #[v0] := by cases args; simp_all
  obtain ⟨rfl, rfl⟩ := trodVars_none hV
  have k0 := h0
  have lt0 : ∀ x ∈ p0, x.block < W.heap.size := by obtain ⟨m, hm⟩ := k0; exact DataW.trod_lt m _ _ _ hm
  obtain ⟨pv0, ps0, hand0, rfl, rd0, bd0, hd0⟩ := open_pool (hval 0 24 v0 rfl rfl) h0
  clear hA0 hval0
  refine (poolFault_law pv0 ps0 hand0 W rd0).mono fun e W' ⟨he, hk⟩ => ?_
  have bel : Below W.heap.size W W' := hk.below (Nat.le_refl _) (fun _ _ => id)
  subst he
  exact ⟨_, rfl, _, _, _, [], _, [], hW', trodAll_mk1 (shut_bool Try.underlying4 _), (trodAll_cons_mk (Below.trod laidOut (by kernel_rfl) (of_decide_eq_true (by kernel_rfl)) k0 bel lt0) trodAll_mk0), rfl, bel.frame _, fun h => by cases h⟩
theorem over : Rows.fnExactPoolFaultRow.holds Try.pinned (OpenSpec.ofChange Rows.fnExactPoolFaultSpec) :=
  OpenClaim.holds_of_wide 3 Try.f3 rfl rfl rfl rfl rfl rfl rfl ⟨rfl, rfl, rfl, rfl, rfl⟩ rfl rfl rfl rfl rfl (by kernel_rfl) Try.func3 (by kernel_rfl)
    (of_decide_eq_true (by kernel_rfl)) (by unfold Func.isWrapper; first | (rw [if_pos (by decide +kernel)]; kernel_rfl) | (rw [if_neg (by decide +kernel)]; exact ⟨rfl, rfl⟩))
    (fun os started H enc _ => lifted os started H enc)
end Go.Proofs.Ytabmhcdldfehnaa.fnExactPoolFault
namespace Go.Proofs.Ytabmhcdldfehnaa
theorem poolFault_proved : Rows.FnExactPoolFaultSaid := fnExactPoolFault.over
#print axioms poolFault_proved
end Go.Proofs.Ytabmhcdldfehnaa
