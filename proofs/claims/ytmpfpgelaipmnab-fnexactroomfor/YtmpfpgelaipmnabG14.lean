import Derived.Test.YtmpfpgelaipmnabG07
import Derived.Test.YtmpfpgelaipmnabG00
import Derived.Test.YtmpfpgelaipmnabG09
import Derived.Test.YtmpfpgelaipmnabOpenF
import Derived.Deep.DeepCutAuto
namespace Go.Proofs.Ytmpfpgelaipmnab
set_option maxRecDepth 100000
set_option maxHeartbeats 16000000
open Go.RowKit
set_option linter.unusedVariables false
theorem roomFor_walk (v0 : Value) (bs0 : List Int) (x1 : FR) (s2 : Int) (s3 : Int) (w : World) (hv0 : Rd .i64 w v0 bs0) (hv1 : RdF 3 w x1) (hB1 : ∀ v ∈ x1.bs, IsI v) (hB2 : IsI s2) :
    Calls Try.prog 5 #[v0, x1.v, .int .i64 s2, .int .i64 s3] w fun e w' => e = .returned (.bool true) ∧ Same w w' := by
  obtain ⟨a0a, c0a, rfl⟩ := hv0.form
  have hm0 := hv0.1
  unfold maxLen at hm0
  have HV0 := (show Hid (Rd .i64 w (.slice a0a bs0.length c0a) bs0) from hv0)
  clear hv0
  obtain ⟨p1e, p1a, p1n, p1c, p1b⟩ := x1
  have hm1 : p1n ≤ maxLen := hv1.1
  unfold maxLen at hm1
  have hl1 : p1b.length = p1n * 3 := hv1.2.1
  have HV1 := (show Hid (RdF 3 w ⟨p1e, p1a, p1n, p1c, p1b⟩) from hv1)
  clear hv1
  have HB1 := (show Hid (∀ v ∈ p1b, IsI v) from hB1)
  clear hB1
  dsimp only [FR.v]
  have HB2 := (show Hid (IsI s2) from hB2)
  clear hB2
  go_enter Try.func5, Try.ntmps5
  have HKw : Hid (Same w w) := Kept.refl _ _
  by_cases hb0 : (1048576 : Int) < (bs0.length : Int)
  · go_wp2
    go_ret
    exact ⟨rfl, by first | exact Kept.refl _ _ | exact (Kept.refl _ _).alloc _ | exact ((Kept.refl _ _).alloc _).alloc _⟩
  go_wp2_with fail
  refine (szHoldS_any _ p1n _ 1048576 _ (by omega) (by omega) (by unfold maxLen; omega)).mono ?_
  rintro e w1 ⟨sz1, rfl, hr, hww⟩
  have hk : Same w w1 := by rw [hww]; exact Kept.refl _ _
  clear hww
  have hkk : Same w w1 := hk
  have hzw1 := hkk.size
  have HKw1 := (show Hid (Same w w1) from HKw.out.trans hkk)
  clear hkk hk
  rcases hr with ⟨rfl, _⟩ | ⟨hr, hr1⟩
  · go_wp2
    go_ret
    exact ⟨rfl, HKw1.out⟩
  have hp1 : p1n ≤ 1048576 := by omega
  have hsb1 : sz1 ≤ 1048576 := by omega
  clear hr
  go_wp2_with fail
  refine (toInt64S_any _ bs0 _ (by omega) (HV0.out.same HKw1.out)).mono ?_
  rintro e w2 ⟨gC0, rfl, hf, ho, hk⟩
  have hf : ∀ b, (Value.slice (some ⟨gC0, 0, none⟩) bs0.length bs0.length).ownBlock = some b → _ ≤ b := fun b hb => by rw [← (Option.some.inj hb : gC0 = b)]; exact hf
  have HFC0 := (show Hid (∀ b, (Value.slice (some ⟨gC0, 0, none⟩) bs0.length bs0.length).ownBlock = some b → w1.heap.size ≤ b ∧ b < w2.heap.size) from fun b hb => ⟨hf b hb, (ho.lt b hb).2⟩)
  have HC0w2 := (show Hid (Own 0 2 .i64 w2 (.slice (some ⟨gC0, 0, none⟩) bs0.length bs0.length) bs0) from ho)
  clear hf ho
  have hkk : Same w1 w2 := hk
  have hzw2 := hkk.size
  have HKw2 := (show Hid (Same w w2) from HKw1.out.trans hkk)
  clear hkk hk
  go_wp2_with fail
  refine (toHoldS_any ⟨p1e, p1a, p1n, p1c, p1b⟩ _ (by dsimp only; omega) (HV1.out.same HKw2.out)).mono ?_
  rintro e w3 ⟨⟨C1e, C1a, C1n, C1c, C1b⟩, rfl, hd, hn, hf, ho, hk⟩
  dsimp only at hd hn
  replace hd := hd.symm
  replace hn := hn.symm
  subst hd hn
  dsimp only [FR.v]
  have HFC1 := (show Hid (∀ b, FootL (FR.rows 3 ⟨C1e, C1a, p1n, C1c, p1b⟩) b → w2.heap.size ≤ b ∧ b < w3.heap.size) from fun b hb => ⟨hf b hb, ho.lt b hb⟩)
  have HC1w3 := (show Hid (OwnL w3 (FR.rows 3 ⟨C1e, C1a, p1n, C1c, p1b⟩)) from ho)
  clear hf ho
  have hkk : Same w2 w3 := hk
  have hzw3 := hkk.size
  have HC0w3 := hid (HC0w2.out.same hkk)
  have HKw3 := (show Hid (Same w w3) from HKw2.out.trans hkk)
  clear hkk hk
  go_wp2_with fail
  refine (specRoomFor_any _ bs0 ⟨C1e, C1a, p1n, C1c, p1b⟩ s2 s3 _ (HB2.out.2) (HC0w3.out.rd) (FR.own_rd HC1w3.out)).mono ?_
  rintro e w4 ⟨rfl, hk⟩
  try dsimp only
  obtain ⟨r0, hR⟩ : ∃ r, roomFor bs0 (tri p1b) s2 s3 = r := ⟨_, rfl⟩
  have HR : Hid (roomFor bs0 (tri p1b) s2 s3 = r0) := hR
  clear hR
  rw [HR.out]
  have hkk : Same w3 w4 := hk
  have hzw4 := hkk.size
  have HC0w4 := hid (HC0w3.out.same hkk)
  have HC1w4 := (show Hid (OwnL w4 (FR.rows 3 ⟨C1e, C1a, p1n, C1c, p1b⟩)) from HC1w3.out.same hkk)
  have HKw4 := (show Hid (Same w w4) from HKw3.out.trans hkk)
  clear hkk hk
  go_wp2_with fail
  refine (toInt64S_any _ bs0 _ (by omega) (HV0.out.same HKw4.out)).mono ?_
  rintro e w5 ⟨gX0, rfl, hf, ho, hk⟩
  have hf : ∀ b, (Value.slice (some ⟨gX0, 0, none⟩) bs0.length bs0.length).ownBlock = some b → _ ≤ b := fun b hb => by rw [← (Option.some.inj hb : gX0 = b)]; exact hf
  have HFX0 := (show Hid (∀ b, (Value.slice (some ⟨gX0, 0, none⟩) bs0.length bs0.length).ownBlock = some b → w4.heap.size ≤ b ∧ b < w5.heap.size) from fun b hb => ⟨hf b hb, (ho.lt b hb).2⟩)
  have HX0w5 := (show Hid (Own 0 2 .i64 w5 (.slice (some ⟨gX0, 0, none⟩) bs0.length bs0.length) bs0) from ho)
  clear hf ho
  have hkk : Same w4 w5 := hk
  have hzw5 := hkk.size
  have HKw5 := (show Hid (Same w w5) from HKw4.out.trans hkk)
  clear hkk hk
  go_wp2_with fail
  refine (toHoldS_any ⟨p1e, p1a, p1n, p1c, p1b⟩ _ (by dsimp only; omega) (HV1.out.same HKw5.out)).mono ?_
  rintro e w6 ⟨⟨X1e, X1a, X1n, X1c, X1b⟩, rfl, hd, hn, hf, ho, hk⟩
  dsimp only at hd hn
  replace hd := hd.symm
  replace hn := hn.symm
  subst hd hn
  dsimp only [FR.v]
  have HFX1 := (show Hid (∀ b, FootL (FR.rows 3 ⟨X1e, X1a, p1n, X1c, p1b⟩) b → w5.heap.size ≤ b ∧ b < w6.heap.size) from fun b hb => ⟨hf b hb, ho.lt b hb⟩)
  have HX1w6 := (show Hid (OwnL w6 (FR.rows 3 ⟨X1e, X1a, p1n, X1c, p1b⟩)) from ho)
  clear hf ho
  have hkk : Same w5 w6 := hk
  have hzw6 := hkk.size
  have HX0w6 := hid (HX0w5.out.same hkk)
  have HKw6 := (show Hid (Same w w6) from HKw5.out.trans hkk)
  clear hkk hk
  go_wp2_with fail
  refine (implRoomFor_any _ bs0 ⟨X1e, X1a, p1n, X1c, p1b⟩ s2 s3 _ (HB2.out.2) (HX0w6.out.rd) (FR.own_rd HX1w6.out)).mono ?_
  rintro e w7 ⟨rfl, hk⟩
  try dsimp only
  rw [HR.out]
  have hkk : Same w6 w7 := hk
  have hzw7 := hkk.size
  have HX0w7 := hid (HX0w6.out.same hkk)
  have HX1w7 := (show Hid (OwnL w7 (FR.rows 3 ⟨X1e, X1a, p1n, X1c, p1b⟩)) from HX1w6.out.same hkk)
  have HKw7 := (show Hid (Same w w7) from HKw6.out.trans hkk)
  clear hkk hk
  go_wp2_with fail
  refine (toInt64S_any _ bs0 _ (by omega) (HV0.out.same HKw7.out)).mono ?_
  rintro e w8 ⟨gD0, rfl, hf, ho, hk⟩
  have hf : ∀ b, (Value.slice (some ⟨gD0, 0, none⟩) bs0.length bs0.length).ownBlock = some b → _ ≤ b := fun b hb => by rw [← (Option.some.inj hb : gD0 = b)]; exact hf
  have HFD0 := (show Hid (∀ b, (Value.slice (some ⟨gD0, 0, none⟩) bs0.length bs0.length).ownBlock = some b → w7.heap.size ≤ b ∧ b < w8.heap.size) from fun b hb => ⟨hf b hb, (ho.lt b hb).2⟩)
  have HD0w8 := (show Hid (Own 0 2 .i64 w8 (.slice (some ⟨gD0, 0, none⟩) bs0.length bs0.length) bs0) from ho)
  clear hf ho
  have hkk : Same w7 w8 := hk
  have hzw8 := hkk.size
  have HX0w8 := hid (HX0w7.out.same hkk)
  have HX1w8 := (show Hid (OwnL w8 (FR.rows 3 ⟨X1e, X1a, p1n, X1c, p1b⟩)) from HX1w7.out.same hkk)
  have HKw8 := (show Hid (Same w w8) from HKw7.out.trans hkk)
  clear hkk hk
  go_wp2_with fail
  refine (eqInt64S_own 0 _ _ bs0 _ (by omega) HX0w8.out HD0w8.out).mono ?_
  rintro e w9 ⟨rfl, nn, hww⟩
  have hk : Same w8 w9 := by rw [hww]; exact (Kept.refl _ _).drewN _
  clear hww
  have hkk : Same w8 w9 := hk
  have hzw9 := hkk.size
  have HX0w9 := hid (HX0w8.out.same hkk)
  have HX1w9 := (show Hid (OwnL w9 (FR.rows 3 ⟨X1e, X1a, p1n, X1c, p1b⟩)) from HX1w8.out.same hkk)
  have HKw9 := (show Hid (Same w w9) from HKw8.out.trans hkk)
  clear hkk hk
  go_wp2_with fail
  refine (toHoldS_any ⟨p1e, p1a, p1n, p1c, p1b⟩ _ (by dsimp only; omega) (HV1.out.same HKw9.out)).mono ?_
  rintro e w10 ⟨⟨D1e, D1a, D1n, D1c, D1b⟩, rfl, hd, hn, hf, ho, hk⟩
  dsimp only at hd hn
  replace hd := hd.symm
  replace hn := hn.symm
  subst hd hn
  dsimp only [FR.v]
  have HFD1 := (show Hid (∀ b, FootL (FR.rows 3 ⟨D1e, D1a, p1n, D1c, p1b⟩) b → w9.heap.size ≤ b ∧ b < w10.heap.size) from fun b hb => ⟨hf b hb, ho.lt b hb⟩)
  have HD1w10 := (show Hid (OwnL w10 (FR.rows 3 ⟨D1e, D1a, p1n, D1c, p1b⟩)) from ho)
  clear hf ho
  have hkk : Same w9 w10 := hk
  have hzw10 := hkk.size
  have HX0w10 := hid (HX0w9.out.same hkk)
  have HX1w10 := (show Hid (OwnL w10 (FR.rows 3 ⟨X1e, X1a, p1n, X1c, p1b⟩)) from HX1w9.out.same hkk)
  have HKw10 := (show Hid (Same w w10) from HKw9.out.trans hkk)
  clear hkk hk
  go_wp2_with fail
  refine (eqHoldS_own ⟨X1e, X1a, p1n, X1c, p1b⟩ ⟨D1e, D1a, p1n, D1c, p1b⟩ _ (by dsimp only; omega) rfl HX1w10.out HD1w10.out).mono ?_
  rintro e w11 ⟨rfl, hk⟩
  have hkk : Same w10 w11 := hk
  have hzw11 := hkk.size
  have HX0w11 := hid (HX0w10.out.same hkk)
  have HX1w11 := (show Hid (OwnL w11 (FR.rows 3 ⟨X1e, X1a, p1n, X1c, p1b⟩)) from HX1w10.out.same hkk)
  have HKw11 := (show Hid (Same w w11) from HKw10.out.trans hkk)
  clear hkk hk
  go_wp2
  go_ret
  exact ⟨rfl, HKw11.out⟩
end Go.Proofs.Ytmpfpgelaipmnab

namespace Go.Proofs.Ytmpfpgelaipmnab.fnExactRoomFor
open Go.ChangeShapes Go.WideShapes Go.ChangeAt Go.RowKit
set_option linter.unusedVariables false
theorem own : ownKnob Try.prog.godebug = none := by kernel_rfl
theorem laidOut : laidOutB Try.prog = true := by kernel_rfl
set_option maxRecDepth 100000 in
theorem lifted (os : Os) (started : os.Started) (H : Type) (enc : TypeId × Value → H) :
    ReturnsInHanded {} Try.checked os 5 .any (Rows.fnExactRoomForSpec.pre6 enc Try.prog Try.f5 Rows.fnExactRoomForRow.domain false) (Rows.fnExactRoomForSpec.post enc Try.prog Try.f5 false true false false) := by
  refine returnsInHanded_of_change (C := Try.checked) own started (by kernel_rfl) Try.func5
    (ChangeSpec.witness6 (enc := enc) (C := Try.checked) false ⟨#[], #[.slice none 0 0, .slice none 0 0, .int .i64 0, .int .i64 0], []⟩ 8 (by kernel_rfl) (by kernel_rfl) (by kernel_rfl) (by kernel_rfl)) ?_
  intro W base args ds gs before hval0 hW hcnd _
  have hval : ∀ (j : Nat) t v, Try.f5.params[j]? = some t → args[j]? = some v → Value.okWide Try.prog W .any base t v := hval0
  have hW' := hW
  obtain ⟨p, q, hA0, hV, rfl, hfz, hnd⟩ := hW
  have hA : DataW.TrodAll enc Try.prog W 0 (fun _ => true) true Try.f5.params.toList args.toList ds p := hA0
  rw [Try.params5] at hA hval
  obtain ⟨v0, vs0, d0, ds0, p0, q0, hargs, rfl, rfl, h0, r0⟩ := trodAll_cons hA
  obtain ⟨v1, vs1, d1, ds1, p1, q1, rfl, rfl, rfl, h1, r1⟩ := trodAll_cons r0
  obtain ⟨v2, vs2, d2, ds2, p2, q2, rfl, rfl, rfl, h2, r2⟩ := trodAll_cons r1
  obtain ⟨v3, vs3, d3, ds3, p3, q3, rfl, rfl, rfl, h3, r3⟩ := trodAll_cons r2
  obtain ⟨rfl, rfl, rfl⟩ := trodAll_nil r3
  obtain rfl : args = #[v0, v1, v2, v3] := by cases args; simp_all
  obtain ⟨rfl, rfl⟩ := trodVars_none hV
  have k0 := h0
  have lt0 : ∀ x ∈ p0, x.block < W.heap.size := by obtain ⟨m, hm⟩ := k0; exact DataW.trod_lt m _ _ _ hm
  obtain ⟨x0, rd0⟩ := open_int64s (hval 0 30 v0 rfl rfl) h0
  have k1 := h1
  have lt1 : ∀ x ∈ p1, x.block < W.heap.size := by obtain ⟨m, hm⟩ := k1; exact DataW.trod_lt m _ _ _ hm
  obtain ⟨x1, rfl, rd1, bd1⟩ := open_holdS (hval 1 22 v1 rfl rfl) h1
  obtain ⟨a2, rfl, rfl, rfl, w2⟩ := open_int Try.underlying2 (hval 2 2 v2 rfl rfl) h2
  obtain ⟨a3, rfl, rfl, rfl, w3⟩ := open_int Try.underlying2 (hval 3 2 v3 rfl rfl) h3
  clear hA0 hval0
  refine (roomFor_walk v0 x0 x1 a2 a3 W rd0 rd1 bd1 (int_bounds w2)).mono fun e W' ⟨he, hk⟩ => ?_
  have bel : Below W.heap.size W W' := hk.below (Nat.le_refl _) (fun _ _ => id)
  subst he
  exact ⟨_, rfl, _, _, _, [], _, [], hW', trodAll_mk1 (shut_bool Try.underlying4 _), (trodAll_cons_mk (Below.trod laidOut (by kernel_rfl) (of_decide_eq_true (by kernel_rfl)) k0 bel lt0) (trodAll_cons_mk (Below.trod laidOut (by kernel_rfl) (of_decide_eq_true (by kernel_rfl)) k1 bel lt1) (trodAll_cons_mk (shut_int Try.underlying2 w2) (trodAll_cons_mk (shut_int Try.underlying2 w3) trodAll_mk0)))), rfl, bel.frame _, fun h => by cases h⟩
theorem over : Rows.fnExactRoomForRow.holds Try.pinned (OpenSpec.ofChange Rows.fnExactRoomForSpec) :=
  OpenClaim.holds_of_wide 5 Try.f5 rfl rfl rfl rfl rfl rfl rfl ⟨rfl, rfl, rfl, rfl, rfl⟩ rfl rfl rfl rfl rfl (by kernel_rfl) Try.func5 (by kernel_rfl)
    (of_decide_eq_true (by kernel_rfl)) (by unfold Func.isWrapper; first | (rw [if_pos (by decide +kernel)]; kernel_rfl) | (rw [if_neg (by decide +kernel)]; exact ⟨rfl, rfl⟩))
    (fun os started H enc _ => lifted os started H enc)
end Go.Proofs.Ytmpfpgelaipmnab.fnExactRoomFor
namespace Go.Proofs.Ytmpfpgelaipmnab
theorem roomFor_proved : Rows.FnExactRoomForSaid := fnExactRoomFor.over
#print axioms roomFor_proved
end Go.Proofs.Ytmpfpgelaipmnab
