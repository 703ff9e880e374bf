import Derived.Test.YteacihpankkhkaaG03
import Derived.Test.YteacihpankkhkaaG02
import Derived.Deep.DeepCutAuto
namespace Go.Proofs.Yteacihpankkhkaa
set_option maxHeartbeats 4000000
open Go.RowKit
theorem diskRead_law (dv pv : Value) (dur : List Int) (ps : List PW) (s : Int) (w : World) (hv : RdD w dv pv dur ps) :
    Calls Try.prog 5 #[.agg #[dv, pv], .int .i64 s] w fun e w' => e = .returned (.bool true) ∧ Same w w' := by
  obtain ⟨a1, c1, rfl⟩ := hv.dur.form
  obtain ⟨a2, c2, rfl⟩ := hv.pend.form
  have HV := (show Hid (RdD w (.slice a1 dur.length c1) (.slice a2 ps.length c2) dur ps) from hv)
  clear hv
  go_enter Try.func5, Try.ntmps5
  go_wp2_with fail
  refine (szDisk_any _ _ dur ps _ _ (by omega) (by omega) (HV.out.same ((Kept.refl _ _).alloc _))).mono ?_
  rintro e w1 ⟨r, rfl, hr, hk1⟩
  have HB1 : Hid (Box w1 w.heap.size (.slice a1 dur.length c1) (.slice a2 ps.length c2)) := (Box.new _ _ _ _).same hk1
  have HK1 : Hid (Same w w1) := ((Kept.refl _ _).alloc _).trans hk1
  clear hk1
  rcases hr with rfl | ⟨hr, hr0⟩
  · go_wp2
    go_ret
    exact ⟨rfl, HK1.out⟩
  · have hd : dur.length ≤ 1048576 := by omega
    have hp : ps.length ≤ 1048576 := by omega
    have hsz : sizeP ps ≤ 1048576 := by omega
    have HS : Hid (∀ p ∈ ps, p.bs.length ≤ 1048576) := fun p hp => by have := sizeP_mem ps p hp; omega
    have HS' : Hid (∀ qs : List PW, dataP qs = dataP ps → ∀ p ∈ qs, p.bs.length ≤ 1048576) := fun qs hq p hp => by have := sizeP_mem qs p hp; rw [dataP_sizeP hq] at this; omega
    clear hr
    obtain ⟨b1, b2⟩ := HB1.out
    go_wp2_with fail
    refine (toDisk_any _ _ dur ps _ (by omega) (by omega) (fun p hp => Nat.le_trans (HS.out p hp) (by omega)) (HV.out.same HK1.out)).mono ?_
    rintro e w2 ⟨g1, g1', qs1, rfl, hq1, hf1, ho1, hk2⟩
    have HQ1 : Hid (dataP qs1 = dataP ps) := hq1
    have HO1 := (show Hid (RdD w2 (.slice (some ⟨g1, 0, none⟩) dur.length dur.length) (.slice (some ⟨g1', 0, none⟩) ps.length ps.length) dur qs1) from ho1.rd)
    have HB2 : Hid (Box w2 w.heap.size (.slice a1 dur.length c1) (.slice a2 ps.length c2)) := HB1.out.same hk2
    have HK2 : Hid (Same w w2) := HK1.out.trans hk2
    clear hq1 hf1 ho1 hk2 b1 b2
    go_wp2_with fail
    refine (specRead_any _ _ dur qs1 s _ (by omega) (fun p hp => Nat.le_trans (HS'.out qs1 HQ1.out p hp) (by omega)) HO1.out).mono ?_
    rintro e w3 ⟨a3, n3, c3, bs, rfl, hR, ho3, hf3, hk3⟩
    have HR : Hid (IsRead s dur (dataP ps) bs) := by rw [← HQ1.out]; exact hR
    have HO3 := (show Hid (Own 0 5 .u8 w3 (.slice a3 n3 c3) bs) from ho3)
    have HB3 : Hid (Box w3 w.heap.size (.slice a1 dur.length c1) (.slice a2 ps.length c2)) := HB2.out.same hk3
    have HK3 : Hid (Same w w3) := HK2.out.trans hk3
    clear hR ho3 hf3 hk3 HO1
    obtain ⟨b1, b2⟩ := HB3.out
    go_wp2_with fail
    refine (toDisk_any _ _ dur ps _ (by omega) (by omega) (fun p hp => Nat.le_trans (HS.out p hp) (by omega)) (HV.out.same HK3.out)).mono ?_
    rintro e w4 ⟨g2, g2', qs2, rfl, hq2, hf2, ho2, hk4⟩
    have HQ2 : Hid (dataP qs2 = dataP ps) := hq2
    have HO2 := (show Hid (OwnD 0 45 5 w4 (.slice (some ⟨g2, 0, none⟩) dur.length dur.length) (.slice (some ⟨g2', 0, none⟩) ps.length ps.length) dur qs2) from ho2)
    have HF2 : Hid (∀ b, footD (.slice (some ⟨g2, 0, none⟩) dur.length dur.length) (.slice (some ⟨g2', 0, none⟩) ps.length ps.length) qs2 b → w3.heap.size ≤ b ∧ b < w4.heap.size) := fun b hb => ⟨hf2 b hb, (ho2.lt b hb).2⟩
    have HB4 : Hid (Box w4 w.heap.size (.slice a1 dur.length c1) (.slice a2 ps.length c2)) := HB3.out.same hk4
    have HW4 := (show Hid (Own 0 5 .u8 w4 (.slice a3 n3 c3) bs) from HO3.out.same hk4)
    have HK4 : Hid (Same w w4) := HK3.out.trans hk4
    clear hq2 hf2 ho2 hk4 b1 b2
    go_wp2_with fail
    refine (implRead_any _ _ dur qs2 s _ (by omega) (fun p hp => Nat.le_trans (HS'.out qs2 HQ2.out p hp) (by omega)) (HO2.out.rd.same ((Kept.refl _ _).alloc _))).mono ?_
    rintro e w5 ⟨a5, n5, c5, bs5, rfl, hR5, ho5, hf5, hk5⟩
    obtain rfl : bs5 = bs := by rw [HQ2.out] at hR5; exact hR5.one HR.out
    have hk5' : Same w4 w5 := ((Kept.refl _ _).alloc _).trans hk5
    have HB5 : Hid (Box w5 w.heap.size (.slice a1 dur.length c1) (.slice a2 ps.length c2)) := HB4.out.same hk5'
    have HX5 : Hid (Box w5 w4.heap.size (.slice (some ⟨g2, 0, none⟩) dur.length dur.length) (.slice (some ⟨g2', 0, none⟩) ps.length ps.length)) := (Box.new _ _ _ _).same hk5
    have HO5 := hid (HO2.out.same hk5')
    have HW5 := (show Hid (Own 0 5 .u8 w5 (.slice a3 n3 c3) bs5) from HW4.out.same hk5')
    have HG5 := (show Hid (Own 0 5 .u8 w5 (.slice a5 n5 c5) bs5) from ho5)
    have HGF : Hid (∀ b, (Value.slice a5 n5 c5).ownBlock = some b → w4.heap.size < b) := fun b hb => by have := hf5 b hb; simp at this; omega
    have HK5 : Hid (Same w w5) := HK4.out.trans hk5'
    clear hR5 ho5 hf5 hk5 hk5'
    have hbl : bs5.length ≤ 512 := HR.out.len
    go_wp2_with fail
    refine (eqByteS_own 0 _ _ bs5 _ (by omega) HG5.out HW5.out).mono ?_
    rintro e w6 ⟨rfl, n6, hw6⟩
    have hk6 : Same w5 w6 := by rw [hw6]; exact (Kept.refl _ _).drewN _
    have HB6 : Hid (Box w6 w.heap.size (.slice a1 dur.length c1) (.slice a2 ps.length c2)) := HB5.out.same hk6
    have HX6 : Hid (Box w6 w4.heap.size (.slice (some ⟨g2, 0, none⟩) dur.length dur.length) (.slice (some ⟨g2', 0, none⟩) ps.length ps.length)) := HX5.out.same hk6
    have HO6 := hid (HO5.out.same hk6)
    have HW6 := (show Hid (Own 0 5 .u8 w6 (.slice a3 n3 c3) bs5) from HW5.out.same hk6)
    have HG6 := (show Hid (Own 0 5 .u8 w6 (.slice a5 n5 c5) bs5) from HG5.out.same hk6)
    have HK6 : Hid (Same w w6) := HK5.out.trans hk6
    clear hw6 hk6
    obtain ⟨b1, b2⟩ := HB6.out
    obtain ⟨x1, x2⟩ := HX6.out
    go_wp2_with fail
    go_cut [35] (fun v wc => v = .bool false ∧ Hid (Same w6 wc))
    case first =>
      have HD1 : Hid (Same w w6.drew) := HK6.out.drew
      have HD2 : Hid (Same w6 w6.drew) := (Kept.refl _ _).drew
      go_region_with (first | (go_at_call 9; refine (toDisk_any _ _ dur ps _ (by omega) (by omega) (fun p hp => Nat.le_trans (HS.out p hp) (by omega)) (by exact HV.out.same HD1.out)).mono ?_; rintro e w7 ⟨g3, g3', qs3, rfl, hq3, hf3, ho3, hk7⟩; obtain ⟨y1, y2⟩ := HX6.out.same (HD2.out.trans hk7); have HO7 := (show Hid (OwnD 0 45 5 w7 (.slice (some ⟨g3, 0, none⟩) dur.length dur.length) (.slice (some ⟨g3', 0, none⟩) ps.length ps.length) dur qs3) from ho3); have HQ3 : Hid (dataP qs3 = dataP ps) := hq3; have HK7 : Hid (Same w6 w7) := HD2.out.trans hk7; clear ho3 hq3 hf3 hk7) | (go_at_call 11; refine (eqDisk_own 0 _ _ _ _ dur qs2 qs3 _ (by omega) (by rw [← dataP_length, HQ2.out, dataP_length]; omega) (HQ2.out.trans HQ3.out.symm) (fun p hp => Nat.le_trans (HS'.out qs2 HQ2.out p hp) (by omega)) (HO6.out.same HK7.out) HO7.out).mono ?_; rintro e w8 ⟨rfl, hk8⟩))
      all_goals
        have HK8 : Hid (Same w6 w8) := HK7.out.trans hk8
        clear hk8
        go_wp2_with fail
        go_meet
        case rel => exact ⟨rfl, HK8⟩
    case rest =>
      obtain ⟨rfl, HKC⟩ := hcut
      have HBc : Hid (Box wc w.heap.size (.slice a1 dur.length c1) (.slice a2 ps.length c2)) := HB6.out.same HKC.out
      have HXc : Hid (Box wc w4.heap.size (.slice (some ⟨g2, 0, none⟩) dur.length dur.length) (.slice (some ⟨g2', 0, none⟩) ps.length ps.length)) := HX6.out.same HKC.out
      have HOc := hid (HO6.out.same HKC.out)
      have HWc := (show Hid (Own 0 5 .u8 wc (.slice a3 n3 c3) bs5) from HW6.out.same HKC.out)
      have HGc := (show Hid (Own 0 5 .u8 wc (.slice a5 n5 c5) bs5) from HG6.out.same HKC.out)
      have HKc : Hid (Same w wc) := HK6.out.trans HKC.out
      clear x1 x2 b1 b2
      obtain ⟨E, hE⟩ : ∃ E, endP (1 + (dur.length : Int)) qs2 = E := ⟨_, rfl⟩
      have hq2l : qs2.length = ps.length := by rw [← dataP_length, HQ2.out, dataP_length]
      have hE0 : 0 ≤ E := by rw [← hE, endP_size]; omega
      have hE1 : E ≤ 1125899906842624 := by rw [← hE, endP_size, dataP_sizeP HQ2.out]; omega
      have HE : Hid (endP (1 + (dur.length : Int)) qs2 = E) := hE
      have HQL : Hid (qs2.length = ps.length) := hq2l
      clear hE hq2l
      obtain ⟨x1, x2⟩ := HXc.out
      go_wp2_with fail
      have hm := markDisk_own 0 (.slice (some ⟨g2, 0, none⟩) dur.length dur.length) (.slice (some ⟨g2', 0, none⟩) ps.length ps.length) dur qs2 1 wc (by omega) (by rw [HE.out]; exact hE1) (by rw [HQL.out]; omega) HOc.out
      rw [HE.out] at hm
      refine hm.mono ?_
      clear hm
      rintro e w9 ⟨rfl, _, hk9⟩
      have hA3 : ∀ b, (Value.slice a3 n3 c3).ownBlock = some b → b < w3.heap.size := fun b hb => (HO3.out.lt b hb).2
      have HB9 : Hid (Box w9 w.heap.size (.slice a1 dur.length c1) (.slice a2 ps.length c2)) := HBc.out.kept hk9 (fun e => by have h1 := HF2.out _ e; have h2 := HB3.out.lt; omega)
      have HW9 := (show Hid (Own 0 5 .u8 w9 (.slice a3 n3 c3) bs5) from HWc.out.kept hk9 (fun b hb e => by have h1 := HF2.out _ e; have h2 := hA3 b hb; omega))
      have HG9 := (show Hid (Own 0 5 .u8 w9 (.slice a5 n5 c5) bs5) from HGc.out.kept hk9 (fun b hb e => by have h1 := HF2.out _ e; have h2 := HGF.out b hb; omega))
      have HK9 : Hid (Same w w9) := HKc.out.next hk9 (fun b hb e => by have h1 := HF2.out _ e; have h2 := HK3.out.size; omega)
      have HGW : Hid (∀ b, (Value.slice a5 n5 c5).ownBlock = some b → w3.heap.size < b ∧ w4.heap.size < b) := fun b hb => by
        have h1 := HGF.out b hb
        have h2 := HB4.out.lt
        have h3 := HB3.out.lt
        have h4 := (HF2.out g2 (.inl rfl))
        omega
      have HA3 : Hid (∀ b, (Value.slice a3 n3 c3).ownBlock = some b → b < w3.heap.size) := hA3
      clear hk9 x1 x2 hA3
      have hE2 : ¬ E < 0 := by omega
      go_wp2_with fail
      refine (eqByteS_own 0 _ _ bs5 _ (by omega) HG9.out HW9.out).mono ?_
      rintro e w10 ⟨rfl, n10, hw10⟩
      have hk10 : Same w9 w10 := by rw [hw10]; exact (Kept.refl _ _).drewN _
      have HB10 : Hid (Box w10 w.heap.size (.slice a1 dur.length c1) (.slice a2 ps.length c2)) := HB9.out.same hk10
      have HW10 := (show Hid (Own 0 5 .u8 w10 (.slice a3 n3 c3) bs5) from HW9.out.same hk10)
      have HG10 := (show Hid (Own 0 5 .u8 w10 (.slice a5 n5 c5) bs5) from HG9.out.same hk10)
      have HK10 : Hid (Same w w10) := HK9.out.trans hk10
      clear hw10 hk10
      go_wp2_with fail
      refine (markByteS_own 0 _ bs5 1 _ (by omega) (by omega) (by omega) HG10.out).mono ?_
      rintro e w11 ⟨rfl, ho11, hk11⟩
      have HB11 : Hid (Box w11 w.heap.size (.slice a1 dur.length c1) (.slice a2 ps.length c2)) := HB10.out.kept hk11 (fun e => by have h1 := HGW.out _ e; have h2 := HB3.out.lt; omega)
      have HW11 := (show Hid (Own 0 5 .u8 w11 (.slice a3 n3 c3) bs5) from HW10.out.kept hk11 (fun b hb e => by have h1 := HGW.out _ e; have h2 := HA3.out b hb; omega))
      have HG11 := (show Hid (Own 0 5 .u8 w11 (.slice a5 n5 c5) (marks 1 bs5.length)) from ho11)
      have HK11 : Hid (Same w w11) := HK10.out.next hk11 (fun b hb e => by have h1 := HGW.out _ e; have h2 := HK3.out.size; omega)
      clear ho11 hk11
      go_wp2_with fail
      refine (heldByteS_own 0 _ bs5.length 1 _ (by omega) (by omega) (by omega) HG11.out).mono ?_
      rintro e w12 ⟨rfl, rfl⟩
      obtain ⟨b1, b2⟩ := HB11.out
      go_wp2_with fail
      refine (toDisk_any _ _ dur ps _ (by omega) (by omega) (fun p hp => Nat.le_trans (HS.out p hp) (by omega)) (HV.out.same HK11.out)).mono ?_
      rintro e w13 ⟨g4, g4', qs4, rfl, hq4, hf4, ho4, hk13⟩
      have HQ4 : Hid (dataP qs4 = dataP ps) := hq4
      have HO4 := (show Hid (RdD w13 (.slice (some ⟨g4, 0, none⟩) dur.length dur.length) (.slice (some ⟨g4', 0, none⟩) ps.length ps.length) dur qs4) from ho4.rd)
      have HW13 := (show Hid (Own 0 5 .u8 w13 (.slice a3 n3 c3) bs5) from HW11.out.same hk13)
      have HG13 := hid (HG11.out.same hk13)
      have HK13 : Hid (Same w w13) := HK11.out.trans hk13
      clear hq4 hf4 ho4 hk13 b1 b2
      go_wp2_with fail
      refine (implRead_any _ _ dur qs4 s _ (by omega) (fun p hp => Nat.le_trans (HS'.out qs4 HQ4.out p hp) (by omega)) HO4.out).mono ?_
      rintro e w14 ⟨a14, n14, c14, bs14, rfl, hR14, ho14, hf14, hk14⟩
      obtain rfl : bs14 = bs5 := by rw [HQ4.out] at hR14; exact hR14.one HR.out
      have HH14 := (show Hid (Own 0 5 .u8 w14 (.slice a14 n14 c14) bs14) from ho14)
      have HW14 := (show Hid (Own 0 5 .u8 w14 (.slice a3 n3 c3) bs14) from HW13.out.same hk14)
      have HG14 := hid (HG13.out.same hk14)
      have HK14 : Hid (Same w w14) := HK13.out.trans hk14
      clear hR14 ho14 hf14 hk14
      go_wp2_with fail
      refine (eqByteS_own 0 _ _ bs14 _ (by omega) HH14.out HW14.out).mono ?_
      rintro e w15 ⟨rfl, n15, hw15⟩
      have hk15 : Same w14 w15 := by rw [hw15]; exact (Kept.refl _ _).drewN _
      have HG15 := hid (HG14.out.same hk15)
      have HK15 : Hid (Same w w15) := HK14.out.trans hk15
      clear hw15 hk15
      go_wp2_with fail
      refine (heldByteS_own 0 _ bs14.length 1 _ (by omega) (by omega) (by omega) HG15.out).mono ?_
      rintro e w16 ⟨rfl, rfl⟩
      go_wp2
      go_ret
      exact ⟨rfl, HK15.out⟩
end Go.Proofs.Yteacihpankkhkaa

namespace Go.Proofs.Yteacihpankkhkaa.fnExactDiskRead
open Go.ChangeShapes Go.WideShapes Go.ChangeAt Go.RowKit
set_option linter.unusedVariables false
theorem own : ownKnob Try.prog.godebug = none := by kernel_rfl
theorem laidOut : laidOutB Try.prog = true := by kernel_rfl
set_option maxRecDepth 100000 in
theorem lifted (os : Os) (started : os.Started) (H : Type) (enc : TypeId × Value → H) :
    ReturnsInHanded {} Try.checked os 5 .any (Rows.fnExactDiskReadSpec.pre6 enc Try.prog Try.f5 Rows.fnExactDiskReadRow.domain false) (Rows.fnExactDiskReadSpec.post enc Try.prog Try.f5 false true false false) := by
  refine returnsInHanded_of_change (C := Try.checked) own started (by kernel_rfl) Try.func5
    (ChangeSpec.witness6 (enc := enc) (C := Try.checked) false ⟨#[], #[.agg #[.slice none 0 0, .slice none 0 0], .int .i64 0], []⟩ 8 (by kernel_rfl) (by kernel_rfl) (by kernel_rfl) (by kernel_rfl)) ?_
  intro W base args ds gs before hval0 hW hcnd _
  have hval : ∀ (j : Nat) t v, Try.f5.params[j]? = some t → args[j]? = some v → Value.okWide Try.prog W .any base t v := hval0
  have hW' := hW
  obtain ⟨p, q, hA0, hV, rfl, hfz, hnd⟩ := hW
  have hA : DataW.TrodAll enc Try.prog W 0 (fun _ => true) true Try.f5.params.toList args.toList ds p := hA0
  rw [Try.params5] at hA hval
  obtain ⟨v0, vs0, d0, ds0, p0, q0, hargs, rfl, rfl, h0, r0⟩ := trodAll_cons hA
  obtain ⟨v1, vs1, d1, ds1, p1, q1, rfl, rfl, rfl, h1, r1⟩ := trodAll_cons r0
  obtain ⟨rfl, rfl, rfl⟩ := trodAll_nil r1
  obtain rfl : args = #[v0, v1] := by cases args; simp_all
  obtain ⟨rfl, rfl⟩ := trodVars_none hV
  have k0 := h0
  have lt0 : ∀ x ∈ p0, x.block < W.heap.size := by obtain ⟨m, hm⟩ := k0; exact DataW.trod_lt m _ _ _ hm
  obtain ⟨dv0, pv0, dur0, ps0, rfl, rd0⟩ := open_disk (hval 0 25 v0 rfl rfl) h0
  obtain ⟨a1, rfl, rfl, rfl, w1⟩ := open_int Try.underlying2 (hval 1 2 v1 rfl rfl) h1
  clear hA0 hval0
  refine (diskRead_law dv0 pv0 dur0 ps0 a1 W rd0).mono fun e W' ⟨he, hk⟩ => ?_
  have bel : Below W.heap.size W W' := hk.below (Nat.le_refl _) (fun _ _ => id)
  subst he
  exact ⟨_, rfl, _, _, _, [], _, [], hW', trodAll_mk1 (shut_bool Try.underlying4 _), (trodAll_cons_mk (Below.trod laidOut (by kernel_rfl) (of_decide_eq_true (by kernel_rfl)) k0 bel lt0) (trodAll_cons_mk (shut_int Try.underlying2 w1) trodAll_mk0)), rfl, bel.frame _, fun h => by cases h⟩
theorem over : Rows.fnExactDiskReadRow.holds Try.pinned (OpenSpec.ofChange Rows.fnExactDiskReadSpec) :=
  OpenClaim.holds_of_wide 5 Try.f5 rfl rfl rfl rfl rfl rfl rfl ⟨rfl, rfl, rfl, rfl, rfl⟩ rfl rfl rfl rfl rfl (by kernel_rfl) Try.func5 (by kernel_rfl)
    (of_decide_eq_true (by kernel_rfl)) (by unfold Func.isWrapper; first | (rw [if_pos (by decide +kernel)]; kernel_rfl) | (rw [if_neg (by decide +kernel)]; exact ⟨rfl, rfl⟩))
    (fun os started H enc _ => lifted os started H enc)
end Go.Proofs.Yteacihpankkhkaa.fnExactDiskRead
namespace Go.Proofs.Yteacihpankkhkaa
theorem diskRead_proved : Rows.FnExactDiskReadSaid := fnExactDiskRead.over
#print axioms diskRead_proved
end Go.Proofs.Yteacihpankkhkaa
