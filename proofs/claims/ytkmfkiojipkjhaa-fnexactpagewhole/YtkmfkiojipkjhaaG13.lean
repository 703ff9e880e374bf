import Derived.Test.YtkmfkiojipkjhaaG03
import Derived.Test.YtkmfkiojipkjhaaG00
import Derived.Deep.DeepCutAuto
namespace Go.Proofs.Ytkmfkiojipkjhaa
set_option maxRecDepth 100000
set_option maxHeartbeats 4000000
open Go.RowKit
set_option linter.unusedVariables false
set_option linter.unusedSimpArgs false
theorem implWhole_any (v : Value) (bs : List Int) (w : World) (hB : IsB bs) (hn : bs.length ≤ 1099511627776) (hv : Rd .u8 w v bs) :
    Calls Try.prog 25 #[v] w fun e w' => e = .returned (.bool (pageWhole bs)) ∧ Same w w' := by
  obtain ⟨a, c, rfl⟩ := hv.form
  by_cases hl : bs.length = 4096
  · have hR : pageWhole bs = (sealB bs == bs) := by unfold pageWhole; rw [hl]; rfl
    have hsl : (sealB bs).length = 4096 := by rw [sealB_length _ (by omega), hl]
    obtain ⟨b, off, rfl, hc⟩ := rd_some hv (by omega)
    have hrg := rd_range hv (by omega)
    have hcl := vals_length .u8 bs
    have hI : (Try.prog.info? 70).map (·.size) = some (vals .u8 bs).length := by rw [hcl, hl]; exact page_info
    have hSd := sealed_any bs w.drew hB hl
    have heq := fun w => run_eql_pages w (sealB bs) bs hsl hl
    obtain ⟨cs, hcs⟩ : ∃ cs : List Value, vals .u8 bs = cs := ⟨_, rfl⟩
    obtain ⟨ds, hds⟩ : ∃ ds : Array Value, (vals .u8 (sealB bs)).toArray = ds := ⟨_, rfl⟩
    rw [hcs] at hSd hrg hI heq
    rw [hds] at hSd heq
    rw [hR, hl]
    obtain ⟨r, hr⟩ : ∃ r, (sealB bs == bs) = r := ⟨_, rfl⟩
    rw [hr] at heq ⊢
    have harr := run_arrayP
    clear hcs hds hcl hv hB hn hR hsl hr hl
    go_enter Try.func25, Try.ntmps25
    go_wp2_with fail
    have hS : (fun wx : World => wx.rangeAt b off cs) w.drew := by exact Kept.ranges (Kept.refl _ _).drew hrg
    refine wp_region_V (fun wx : World => wx.rangeAt b off cs) 99 14 rfl (by kernel_rfl) ?_
    refine tk 0 3 hS ?_
    refine tk 1 4 hS ?_
    refine tk 2 5 hS ?_
    refine tk 3 6 hS ?_
    refine tk 4 7 hS ?_
    refine tk 5 8 hS ?_
    refine wpAnyV_take (i := 6) (v := .agg cs.toArray) (some 9) rfl rfl (by kernel_rfl) (by kernel_rfl) (by kernel_rfl) (by kernel_rfl) (fun _ _ _ h => h) (yieldsIf_load_mid (by rfl) 70 _ rfl b off rfl cs _ (fun _ h => h) Try.underlying70 rfl hI) hS ?_
    try simp only [Act.put, sA, s0, sS]
    refine tk 8 11 hS ?_
    refine tk 9 12 hS ?_
    refine wpAnyV_take (i := 10) (v := .agg cs.toArray) (some 13) rfl rfl (by kernel_rfl) (by kernel_rfl) (by kernel_rfl) (by kernel_rfl) (fun _ _ _ h => h) (yieldsIf_load_mid (by rfl) 70 _ rfl b off rfl cs _ (fun _ h => h) Try.underlying70 rfl hI) hS ?_
    try simp only [Act.put, sA, s0, sS]
    refine wpAnyV_one (i := 7) (by kernel_rfl) rfl (fun K hK => ?_)
    go_simp
    with_reducible refine hSd.mono ?_
    rintro e w2 ⟨rfl, hkk⟩
    have hk2 : Same w w2 := (Kept.refl _ _).drew.trans hkk
    have hS2 : (fun wx : World => wx.rangeAt b off cs) w2 := Kept.ranges hk2 hrg
    refine hK.out _ _ (fun _ => hS2) ?_
    clear hK K
    try simp only [Act.put, sA, s0, sS]
    refine tk 11 14 hS2 ?_
    refine tk 12 15 hS2 ?_
    refine tk 13 2 hS2 ?_
    refine wpAnyV_done (by kernel_rfl) ?_
    go_wp2
    go_ret
    exact ⟨rfl, hk2⟩
  · have hR : pageWhole bs = false := by unfold pageWhole; simp [hl]
    rw [hR]
    have hl' : ¬ (bs.length : Int) = 4096 := by omega
    clear hv hB
    go_enter Try.func25, Try.ntmps25
    go_wp2
    go_quiet (fail)
    go_wp2
    go_ret
    exact ⟨rfl, (Kept.refl _ _).drewN _⟩
theorem specWhole_any (v : Value) (bs : List Int) (w : World) (hB : IsB bs) (hn : bs.length ≤ 1099511627776) (hv : Rd .u8 w v bs) :
    Calls Try.prog 24 #[v] w fun e w' => e = .returned (.bool (pageWhole bs)) ∧ Same w w' := by
  obtain ⟨a, c, rfl⟩ := hv.form
  by_cases hl : bs.length = 4096
  · have hR : pageWhole bs = (sealB bs == bs) := by unfold pageWhole; rw [hl]; rfl
    obtain ⟨b, off, rfl, hc⟩ := rd_some hv (by omega)
    have hwi := whole_iff bs hB hl
    have HRd := (show Hid (∀ wx, Same w wx → Rd .u8 wx (.slice (some ⟨b, off + 4, none⟩) 4092 (c - 4)) (bs.drop 4)) from fun wx hx => by
      have h := Rd.back (hv.same hx) 4 (by omega)
      rwa [show bs.length - 4 = 4092 from by omega] at h)
    have HC := (show Hid (∀ wx, Same w wx → Calls Try.prog 49 #[.slice (some ⟨b, off + 4, none⟩) 4092 (c - 4)] wx fun e w' => e = .returned (.int .i64 (crcOn 0 (bs.drop 4))) ∧ Same wx w') from fun wx hx =>
      specCrc_any _ _ wx (isB_drop hB 4) (by rw [List.length_drop, hl]; decide) (HRd.out wx hx))
    rw [hl] at hv hc
    have HNu := (show Hid (∀ wx, Same w wx → Calls Try.prog 51 #[.slice (some ⟨b, off, none⟩) 4096 c, .int .i64 0, .int .i64 4] wx fun e w' => e = .returned (.int .i64 (getN (bs.take 4))) ∧ Same wx w') from fun wx hx =>
      l3Number_any b off 4096 c bs 0 4 wx hB hl (by decide) (by decide) (by decide) (hv.same hx))
    have hc4 : (4 : Int) ≤ (c : Int) := by omega
    have hc5 : 4 < c := by omega
    have hc6 : ¬ c = 4 := by omega
    rw [hR, ← hwi, hl]
    clear hv hB hn hR hl hwi HRd
    generalize getN (bs.take 4) = G at *
    generalize crcOn 0 (bs.drop 4) = C at *
    go_enter Try.func24, Try.ntmps24
    go_wp2_with fail
    have hS : (fun _ : World => True) w.drew := by trivial
    refine wp_region_V (fun _ : World => True) 99 12 rfl (by kernel_rfl) ?_
    refine tk 0 3 hS ?_
    refine tk 1 4 hS ?_
    refine tk 2 5 hS ?_
    refine tk 3 6 hS ?_
    refine tk 4 7 hS ?_
    refine tk 6 9 hS ?_
    refine tk 7 10 hS ?_
    refine wpAnyV_one (i := 5) (by kernel_rfl) rfl (fun K hK => ?_)
    go_simp
    with_reducible refine (HNu.out _ (Kept.refl _ _).drew).mono ?_
    rintro e w2 ⟨rfl, hkk⟩
    have hkw2 : Same w w2 := (Kept.refl _ _).drew.trans hkk
    clear hkk
    refine hK.out _ _ (fun _ => trivial) ?_
    clear hK K
    try simp only [Act.put, sA, s0, sS]
    refine wpAnyV_one (i := 8) (by kernel_rfl) rfl (fun K hK => ?_)
    go_simp
    with_reducible refine (HC.out _ hkw2).mono ?_
    rintro e w3 ⟨rfl, hkk⟩
    have hkw3 : Same w w3 := hkw2.trans hkk
    clear hkk
    refine hK.out _ _ (fun _ => trivial) ?_
    clear hK K
    try simp only [Act.put, sA, s0, sS]
    refine tk 9 12 hS ?_
    refine tk 10 13 hS ?_
    refine tk 11 2 hS ?_
    refine wpAnyV_done (by kernel_rfl) ?_
    go_wp2
    go_ret
    exact ⟨rfl, hkw3⟩
  · have hR : pageWhole bs = false := by unfold pageWhole; simp [hl]
    rw [hR]
    have hl' : ¬ (bs.length : Int) = 4096 := by omega
    clear hv hB
    go_enter Try.func24, Try.ntmps24
    go_wp2
    go_quiet (fail)
    go_wp2
    go_ret
    exact ⟨rfl, (Kept.refl _ _).drewN _⟩
end Go.Proofs.Ytkmfkiojipkjhaa

namespace Go.Proofs.Ytkmfkiojipkjhaa
set_option maxRecDepth 100000
set_option maxHeartbeats 16000000
open Go.RowKit
set_option linter.unusedVariables false
theorem pageWhole_law (v0 : Value) (bs0 : List Int) (w : World) (hv0 : Rd .u8 w v0 bs0) (hB0 : IsB bs0) :
    Calls Try.prog 5 #[v0] w fun e w' => e = .returned (.bool true) ∧ Same w w' := by
  obtain ⟨a0a, c0a, rfl⟩ := hv0.form
  have hm0 := hv0.1
  unfold maxLen at hm0
  have HB0 := (show Hid (IsB bs0) from hB0)
  clear hB0
  have HV0 := (show Hid (Rd .u8 w (.slice a0a bs0.length c0a) bs0) from hv0)
  clear hv0
  go_enter Try.func5, Try.ntmps5
  have HKw : Hid (Same w w) := Kept.refl _ _
  by_cases hb0 : (1048576 : Int) < (bs0.length : Int)
  · go_wp2
    go_ret
    exact ⟨rfl, by first | exact Kept.refl _ _ | exact (Kept.refl _ _).alloc _ | exact ((Kept.refl _ _).alloc _).alloc _⟩
  go_wp2_with fail
  refine (toByteS_any _ bs0 _ (by omega) (HV0.out.same HKw.out)).mono ?_
  rintro e w1 ⟨gC0, rfl, hf, ho, hk⟩
  have hf : ∀ b, (Value.slice (some ⟨gC0, 0, none⟩) bs0.length bs0.length).ownBlock = some b → _ ≤ b := fun b hb => by rw [← (Option.some.inj hb : gC0 = b)]; exact hf
  have HFC0 := (show Hid (∀ b, (Value.slice (some ⟨gC0, 0, none⟩) bs0.length bs0.length).ownBlock = some b → w.heap.size ≤ b ∧ b < w1.heap.size) from fun b hb => ⟨hf b hb, (ho.lt b hb).2⟩)
  have HC0w1 := (show Hid (Own 0 5 .u8 w1 (.slice (some ⟨gC0, 0, none⟩) bs0.length bs0.length) bs0) from ho)
  clear hf ho
  have hkk : Same w w1 := hk
  have hzw1 := hkk.size
  have HKw1 := (show Hid (Same w w1) from HKw.out.trans hkk)
  clear hkk hk
  go_wp2_with fail
  refine (specWhole_any _ bs0 _ HB0.out (by omega) (HC0w1.out.rd)).mono ?_
  rintro e w2 ⟨rfl, hk⟩
  obtain ⟨r0, hR⟩ : ∃ r, pageWhole bs0 = r := ⟨_, rfl⟩
  have HR : Hid (pageWhole bs0 = r0) := hR
  clear hR
  rw [HR.out]
  have hkk : Same w1 w2 := hk
  have hzw2 := hkk.size
  have HC0w2 := hid (HC0w1.out.same hkk)
  have HKw2 := (show Hid (Same w w2) from HKw1.out.trans hkk)
  clear hkk hk
  go_wp2_with fail
  refine (toByteS_any _ bs0 _ (by omega) (HV0.out.same HKw2.out)).mono ?_
  rintro e w3 ⟨gX0, rfl, hf, ho, hk⟩
  have hf : ∀ b, (Value.slice (some ⟨gX0, 0, none⟩) bs0.length bs0.length).ownBlock = some b → _ ≤ b := fun b hb => by rw [← (Option.some.inj hb : gX0 = b)]; exact hf
  have HFX0 := (show Hid (∀ b, (Value.slice (some ⟨gX0, 0, none⟩) bs0.length bs0.length).ownBlock = some b → w2.heap.size ≤ b ∧ b < w3.heap.size) from fun b hb => ⟨hf b hb, (ho.lt b hb).2⟩)
  have HX0w3 := (show Hid (Own 0 5 .u8 w3 (.slice (some ⟨gX0, 0, none⟩) bs0.length bs0.length) bs0) from ho)
  clear hf ho
  have hkk : Same w2 w3 := hk
  have hzw3 := hkk.size
  have HKw3 := (show Hid (Same w w3) from HKw2.out.trans hkk)
  clear hkk hk
  go_wp2_with fail
  refine (implWhole_any _ bs0 _ HB0.out (by omega) (HX0w3.out.rd)).mono ?_
  rintro e w4 ⟨rfl, hk⟩
  rw [HR.out]
  have hkk : Same w3 w4 := hk
  have hzw4 := hkk.size
  have HX0w4 := hid (HX0w3.out.same hkk)
  have HKw4 := (show Hid (Same w w4) from HKw3.out.trans hkk)
  clear hkk hk
  go_wp2_with fail
  refine (toByteS_any _ bs0 _ (by omega) (HV0.out.same HKw4.out)).mono ?_
  rintro e w5 ⟨gD0, rfl, hf, ho, hk⟩
  have hf : ∀ b, (Value.slice (some ⟨gD0, 0, none⟩) bs0.length bs0.length).ownBlock = some b → _ ≤ b := fun b hb => by rw [← (Option.some.inj hb : gD0 = b)]; exact hf
  have HFD0 := (show Hid (∀ b, (Value.slice (some ⟨gD0, 0, none⟩) bs0.length bs0.length).ownBlock = some b → w4.heap.size ≤ b ∧ b < w5.heap.size) from fun b hb => ⟨hf b hb, (ho.lt b hb).2⟩)
  have HD0w5 := (show Hid (Own 0 5 .u8 w5 (.slice (some ⟨gD0, 0, none⟩) bs0.length bs0.length) bs0) from ho)
  clear hf ho
  have hkk : Same w4 w5 := hk
  have hzw5 := hkk.size
  have HX0w5 := hid (HX0w4.out.same hkk)
  have HKw5 := (show Hid (Same w w5) from HKw4.out.trans hkk)
  clear hkk hk
  go_wp2_with fail
  refine (eqByteS_own 0 _ _ bs0 _ (by omega) HX0w5.out HD0w5.out).mono ?_
  rintro e w6 ⟨rfl, nn, hww⟩
  have hk : Same w5 w6 := by rw [hww]; exact (Kept.refl _ _).drewN _
  clear hww
  have hkk : Same w5 w6 := hk
  have hzw6 := hkk.size
  have HX0w6 := hid (HX0w5.out.same hkk)
  have HKw6 := (show Hid (Same w w6) from HKw5.out.trans hkk)
  clear hkk hk
  go_wp2
  go_ret
  exact ⟨rfl, HKw6.out⟩
end Go.Proofs.Ytkmfkiojipkjhaa

namespace Go.Proofs.Ytkmfkiojipkjhaa.fnExactPageWhole
open Go.ChangeShapes Go.WideShapes Go.ChangeAt Go.RowKit
set_option linter.unusedVariables false
theorem own : ownKnob Try.prog.godebug = none := by kernel_rfl
theorem laidOut : laidOutB Try.prog = true := by kernel_rfl
set_option maxRecDepth 100000 in
theorem lifted (os : Os) (started : os.Started) (H : Type) (enc : TypeId × Value → H) :
    ReturnsInHanded {} Try.checked os 5 .any (Rows.fnExactPageWholeSpec.pre6 enc Try.prog Try.f5 Rows.fnExactPageWholeRow.domain false) (Rows.fnExactPageWholeSpec.post enc Try.prog Try.f5 false true false false) := by
  refine returnsInHanded_of_change (C := Try.checked) own started (by kernel_rfl) Try.func5
    (ChangeSpec.witness6 (enc := enc) (C := Try.checked) false ⟨#[], #[.slice none 0 0], []⟩ 8 (by kernel_rfl) (by kernel_rfl) (by kernel_rfl) (by kernel_rfl)) ?_
  intro W base args ds gs before hval0 hW hcnd _
  have hval : ∀ (j : Nat) t v, Try.f5.params[j]? = some t → args[j]? = some v → Value.okWide Try.prog W .any base t v := hval0
  have hW' := hW
  obtain ⟨p, q, hA0, hV, rfl, hfz, hnd⟩ := hW
  have hA : DataW.TrodAll enc Try.prog W 0 (fun _ => true) true Try.f5.params.toList args.toList ds p := hA0
  rw [Try.params5] at hA hval
  obtain ⟨v0, vs0, d0, ds0, p0, q0, hargs, rfl, rfl, h0, r0⟩ := trodAll_cons hA
  obtain ⟨rfl, rfl, rfl⟩ := trodAll_nil r0
  obtain rfl : args = #[v0] := by cases args; simp_all
  obtain ⟨rfl, rfl⟩ := trodVars_none hV
  have k0 := h0
  have lt0 : ∀ x ∈ p0, x.block < W.heap.size := by obtain ⟨m, hm⟩ := k0; exact DataW.trod_lt m _ _ _ hm
  obtain ⟨x0, rd0, bd0⟩ := open_bytesB (hval 0 22 v0 rfl rfl) h0
  clear hA0 hval0
  refine (pageWhole_law v0 x0 W rd0 bd0).mono fun e W' ⟨he, hk⟩ => ?_
  have bel : Below W.heap.size W W' := hk.below (Nat.le_refl _) (fun _ _ => id)
  subst he
  exact ⟨_, rfl, _, _, _, [], _, [], hW', trodAll_mk1 (shut_bool Try.underlying4 _), (trodAll_cons_mk (Below.trod laidOut (by kernel_rfl) (of_decide_eq_true (by kernel_rfl)) k0 bel lt0) trodAll_mk0), rfl, bel.frame _, fun h => by cases h⟩
theorem over : Rows.fnExactPageWholeRow.holds Try.pinned (OpenSpec.ofChange Rows.fnExactPageWholeSpec) :=
  OpenClaim.holds_of_wide 5 Try.f5 rfl rfl rfl rfl rfl rfl rfl ⟨rfl, rfl, rfl, rfl, rfl⟩ rfl rfl rfl rfl rfl (by kernel_rfl) Try.func5 (by kernel_rfl)
    (of_decide_eq_true (by kernel_rfl)) (by unfold Func.isWrapper; first | (rw [if_pos (by decide +kernel)]; kernel_rfl) | (rw [if_neg (by decide +kernel)]; exact ⟨rfl, rfl⟩))
    (fun os started H enc _ => lifted os started H enc)
end Go.Proofs.Ytkmfkiojipkjhaa.fnExactPageWhole
namespace Go.Proofs.Ytkmfkiojipkjhaa
theorem pageWhole_proved : Rows.FnExactPageWholeSaid := fnExactPageWhole.over
#print axioms pageWhole_proved
end Go.Proofs.Ytkmfkiojipkjhaa
