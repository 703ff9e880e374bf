import Derived.Test.YteacihpankkhkaaG02
namespace Go.Proofs.Yteacihpankkhkaa
set_option maxHeartbeats 2000000
open Go.RowKit
theorem validDisk_law (dv pv : Value) (dur : List Int) (ps : List PW) (w : World) (hv : RdD w dv pv dur ps) :
    Calls Try.prog 3 #[.agg #[dv, pv]] w fun e w' => e = .returned (.bool true) ∧ Same w w' := by
  obtain ⟨a1, c1, rfl⟩ := hv.dur.form
  obtain ⟨a2, c2, rfl⟩ := hv.pend.form
  have HV := (show Hid (RdD w (.slice a1 dur.length c1) (.slice a2 ps.length c2) dur ps) from hv)
  clear hv
  go_enter Try.func3, Try.ntmps3
  go_wp2_with fail
  refine (szDisk_any _ _ dur ps _ _ (by omega) (by omega) (HV.out.same ((Kept.refl _ _).alloc _))).mono ?_
  rintro e w1 ⟨r, rfl, hr, hk1⟩
  have HB1 : Hid (Box w1 w.heap.size (.slice a1 dur.length c1) (.slice a2 ps.length c2)) := (Box.new _ _ _ _).same hk1
  have HK1 : Hid (Same w w1) := ((Kept.refl _ _).alloc _).trans hk1
  clear hk1
  rcases hr with rfl | ⟨hr, hr0⟩
  · go_wp2
    go_ret
    exact ⟨rfl, HK1.out⟩
  · have hd : dur.length ≤ 1048576 := by omega
    have hp : ps.length ≤ 1048576 := by omega
    have hsz : sizeP ps ≤ 1048576 := by omega
    have HS : Hid (∀ p ∈ ps, p.bs.length ≤ 1048576) := fun p hp => by have := sizeP_mem ps p hp; omega
    clear hr
    obtain ⟨b1, b2⟩ := HB1.out
    go_wp2_with fail
    refine (toDisk_any _ _ dur ps _ (by omega) (by omega) (fun p hp => Nat.le_trans (HS.out p hp) (by omega)) (HV.out.same HK1.out)).mono ?_
    rintro e w2 ⟨g1, g1', qs1, rfl, hq1, hf1, ho1, hk2⟩
    have HQ1 : Hid (dataP qs1 = dataP ps) := hq1
    have HO1 := (show Hid (RdD w2 (.slice (some ⟨g1, 0, none⟩) dur.length dur.length) (.slice (some ⟨g1', 0, none⟩) ps.length ps.length) dur qs1) from ho1.rd)
    have HB2 : Hid (Box w2 w.heap.size (.slice a1 dur.length c1) (.slice a2 ps.length c2)) := HB1.out.same hk2
    have HK2 : Hid (Same w w2) := HK1.out.trans hk2
    clear hq1 hf1 ho1 hk2 b1 b2
    go_wp2_with fail
    refine (specValid_any _ _ dur qs1 _ HO1.out).mono ?_
    rintro e w3 ⟨⟨B, rfl, hB⟩, hk3⟩
    have HBB : Hid (B = true ↔ Valid dur.length (dataP ps)) := by rw [← HQ1.out]; exact hB
    have HB3 : Hid (Box w3 w.heap.size (.slice a1 dur.length c1) (.slice a2 ps.length c2)) := HB2.out.same hk3
    have HK3 : Hid (Same w w3) := HK2.out.trans hk3
    clear hB hk3
    obtain ⟨b1, b2⟩ := HB3.out
    go_wp2_with fail
    refine (toDisk_any _ _ dur ps _ (by omega) (by omega) (fun p hp => Nat.le_trans (HS.out p hp) (by omega)) (HV.out.same HK3.out)).mono ?_
    rintro e w4 ⟨g2, g2', qs2, rfl, hq2, hf2, ho2, hk4⟩
    have HQ2 : Hid (dataP qs2 = dataP ps) := hq2
    have HO2 := (show Hid (OwnD 0 45 5 w4 (.slice (some ⟨g2, 0, none⟩) dur.length dur.length) (.slice (some ⟨g2', 0, none⟩) ps.length ps.length) dur qs2) from ho2)
    have HB4 : Hid (Box w4 w.heap.size (.slice a1 dur.length c1) (.slice a2 ps.length c2)) := HB3.out.same hk4
    have HK4 : Hid (Same w w4) := HK3.out.trans hk4
    clear hq2 hf2 ho2 hk4 b1 b2
    go_wp2_with fail
    refine (implValid_any _ _ dur qs2 _ (HO2.out.rd.same ((Kept.refl _ _).alloc _))).mono ?_
    rintro e w5 ⟨⟨B', rfl, hB'⟩, hk5⟩
    have hk5' : Same w4 w5 := ((Kept.refl _ _).alloc _).trans hk5
    have HE : Hid (B' = B) := by rw [HQ2.out] at hB'; exact Bool.eq_iff_iff.2 (hB'.trans HBB.out.symm)
    have HB5 : Hid (Box w5 w.heap.size (.slice a1 dur.length c1) (.slice a2 ps.length c2)) := HB4.out.same hk5'
    have HX5 : Hid (Box w5 w4.heap.size (.slice (some ⟨g2, 0, none⟩) dur.length dur.length) (.slice (some ⟨g2', 0, none⟩) ps.length ps.length)) := (Box.new _ _ _ _).same hk5
    have HO5 := hid (HO2.out.same hk5')
    have HK5 : Hid (Same w w5) := HK4.out.trans hk5'
    clear hB' hk5 hk5'
    obtain ⟨b1, b2⟩ := HB5.out
    obtain ⟨x1, x2⟩ := HX5.out
    have e5 := HE.out
    subst e5
    clear HE
    have HD1 : Hid (Same w w5.drew) := HK5.out.drew
    have HD2 : Hid (Same w5 w5.drew) := (Kept.refl _ _).drew
    go_wp2_with fail
    go_region_with (first | (go_at_call 9; refine (toDisk_any _ _ dur ps _ (by omega) (by omega) (fun p hp => Nat.le_trans (HS.out p hp) (by omega)) (by exact HV.out.same HD1.out)).mono ?_; rintro e w6 ⟨g3, g3', qs3, rfl, hq3, hf3, ho3, hk6⟩; obtain ⟨y1, y2⟩ := HX5.out.same (HD2.out.trans hk6); have HO6 := (show Hid (OwnD 0 45 5 w6 (.slice (some ⟨g3, 0, none⟩) dur.length dur.length) (.slice (some ⟨g3', 0, none⟩) ps.length ps.length) dur qs3) from ho3); have HQ3 : Hid (dataP qs3 = dataP ps) := hq3; have HK6 : Hid (Same w5 w6) := HD2.out.trans hk6; clear ho3 hq3 hf3 hk6) | (go_at_call 11; refine (eqDisk_own 0 _ _ _ _ dur qs2 qs3 _ (by omega) (by rw [← dataP_length, HQ2.out, dataP_length]; omega) (HQ2.out.trans HQ3.out.symm) (fun p hp => Nat.le_trans (sizeP_mem _ _ hp) (by rw [dataP_sizeP HQ2.out]; omega)) (HO5.out.same HK6.out) HO6.out).mono ?_; rintro e w7 ⟨rfl, hk7⟩))
    all_goals
      have HK7 : Hid (Same w w7) := (HK5.out.trans HK6.out).trans hk7
      clear hk7
      go_wp2
      go_ret
      exact ⟨rfl, HK7.out⟩
end Go.Proofs.Yteacihpankkhkaa

namespace Go.Proofs.Yteacihpankkhkaa.fnExactValidDisk
open Go.ChangeShapes Go.WideShapes Go.ChangeAt Go.RowKit
set_option linter.unusedVariables false
theorem own : ownKnob Try.prog.godebug = none := by kernel_rfl
theorem laidOut : laidOutB Try.prog = true := by kernel_rfl
set_option maxRecDepth 100000 in
theorem lifted (os : Os) (started : os.Started) (H : Type) (enc : TypeId × Value → H) :
    ReturnsInHanded {} Try.checked os 3 .any (Rows.fnExactValidDiskSpec.pre6 enc Try.prog Try.f3 Rows.fnExactValidDiskRow.domain false) (Rows.fnExactValidDiskSpec.post enc Try.prog Try.f3 false true false false) := by
  refine returnsInHanded_of_change (C := Try.checked) own started (by kernel_rfl) Try.func3
    (ChangeSpec.witness6 (enc := enc) (C := Try.checked) false ⟨#[], #[.agg #[.slice none 0 0, .slice none 0 0]], []⟩ 8 (by kernel_rfl) (by kernel_rfl) (by kernel_rfl) (by kernel_rfl)) ?_
  intro W base args ds gs before hval0 hW hcnd _
  have hval : ∀ (j : Nat) t v, Try.f3.params[j]? = some t → args[j]? = some v → Value.okWide Try.prog W .any base t v := hval0
  have hW' := hW
  obtain ⟨p, q, hA0, hV, rfl, hfz, hnd⟩ := hW
  have hA : DataW.TrodAll enc Try.prog W 0 (fun _ => true) true Try.f3.params.toList args.toList ds p := hA0
  rw [Try.params3] at hA hval
  obtain ⟨v0, vs0, d0, ds0, p0, q0, hargs, rfl, rfl, h0, r0⟩ := trodAll_cons hA
  obtain ⟨rfl, rfl, rfl⟩ := trodAll_nil r0
  obtain rfl : args = #[v0] := by cases args; simp_all
  obtain ⟨rfl, rfl⟩ := trodVars_none hV
  have k0 := h0
  have lt0 : ∀ x ∈ p0, x.block < W.heap.size := by obtain ⟨m, hm⟩ := k0; exact DataW.trod_lt m _ _ _ hm
  obtain ⟨dv0, pv0, dur0, ps0, rfl, rd0⟩ := open_disk (hval 0 25 v0 rfl rfl) h0
  clear hA0 hval0
  refine (validDisk_law dv0 pv0 dur0 ps0 W rd0).mono fun e W' ⟨he, hk⟩ => ?_
  have bel : Below W.heap.size W W' := hk.below (Nat.le_refl _) (fun _ _ => id)
  subst he
  exact ⟨_, rfl, _, _, _, [], _, [], hW', trodAll_mk1 (shut_bool Try.underlying4 _), (trodAll_cons_mk (Below.trod laidOut (by kernel_rfl) (of_decide_eq_true (by kernel_rfl)) k0 bel lt0) trodAll_mk0), rfl, bel.frame _, fun h => by cases h⟩
theorem over : Rows.fnExactValidDiskRow.holds Try.pinned (OpenSpec.ofChange Rows.fnExactValidDiskSpec) :=
  OpenClaim.holds_of_wide 3 Try.f3 rfl rfl rfl rfl rfl rfl rfl ⟨rfl, rfl, rfl, rfl, rfl⟩ rfl rfl rfl rfl rfl (by kernel_rfl) Try.func3 (by kernel_rfl)
    (of_decide_eq_true (by kernel_rfl)) (by unfold Func.isWrapper; first | (rw [if_pos (by decide +kernel)]; kernel_rfl) | (rw [if_neg (by decide +kernel)]; exact ⟨rfl, rfl⟩))
    (fun os started H enc _ => lifted os started H enc)
end Go.Proofs.Yteacihpankkhkaa.fnExactValidDisk
namespace Go.Proofs.Yteacihpankkhkaa
theorem validDisk_proved : Rows.FnExactValidDiskSaid := fnExactValidDisk.over
#print axioms validDisk_proved
end Go.Proofs.Yteacihpankkhkaa
