/-
  The law over FreshId (by tools/lawgen.py).
-/
import Derived.Test.YtagcefbnhpkdiabFreshL
import Derived.Deep.DeepCutAuto
namespace Go.Proofs.Ytagcefbnhpkdiab
set_option maxRecDepth 100000
set_option maxHeartbeats 16000000
open Go.RowKit
set_option linter.unusedVariables false

theorem freshId_walk (v0 : Value) (bs0 : List Int) (x1 : FR) (x2 : FR) (s3 : Int) (s4 : Int) (w : World) (hv0 : Rd .i64 w v0 bs0) (hv1 : RdF 3 w x1) (hB1 : ∀ v ∈ x1.bs, IsI v) (hv2 : RdF 3 w x2) (hB2 : ∀ v ∈ x2.bs, IsI v) :
    Calls Try.prog 6 #[v0, x1.v, x2.v, .int .i64 s3, .int .i64 s4] w fun e w' => e = .returned (.bool true) ∧ Same w w' := by
  obtain ⟨a0a, c0a, rfl⟩ := hv0.form
  have hm0 := hv0.1
  unfold maxLen at hm0
  have HV0 := (show Hid (Rd .i64 w (.slice a0a bs0.length c0a) bs0) from hv0)
  clear hv0
  obtain ⟨p1e, p1a, p1n, p1c, p1b⟩ := x1
  have hm1 : p1n ≤ maxLen := hv1.1
  unfold maxLen at hm1
  have hl1 : p1b.length = p1n * 3 := hv1.2.1
  have HV1 := (show Hid (RdF 3 w ⟨p1e, p1a, p1n, p1c, p1b⟩) from hv1)
  clear hv1
  have HB1 := (show Hid (∀ v ∈ p1b, IsI v) from hB1)
  clear hB1
  dsimp only [FR.v]
  obtain ⟨p2e, p2a, p2n, p2c, p2b⟩ := x2
  have hm2 : p2n ≤ maxLen := hv2.1
  unfold maxLen at hm2
  have hl2 : p2b.length = p2n * 3 := hv2.2.1
  have HV2 := (show Hid (RdF 3 w ⟨p2e, p2a, p2n, p2c, p2b⟩) from hv2)
  clear hv2
  have HB2 := (show Hid (∀ v ∈ p2b, IsI v) from hB2)
  clear hB2
  dsimp only [FR.v]
  go_enter Try.func6, Try.ntmps6
  have HKw : Hid (Same w w) := Kept.refl _ _
  by_cases hb0 : (1048576 : Int) < (bs0.length : Int)
  · go_wp2
    go_ret
    exact ⟨rfl, by first | exact Kept.refl _ _ | exact (Kept.refl _ _).alloc _ | exact ((Kept.refl _ _).alloc _).alloc _⟩
  go_wp2_with fail
  refine (szHoldS_any _ p1n _ 1048576 _ (by omega) (by omega) (by unfold maxLen; omega)).mono ?_
  rintro e w1 ⟨sz1, rfl, hr, hww⟩
  have hk : Same w w1 := by rw [hww]; exact Kept.refl _ _
  clear hww
  have hkk : Same w w1 := hk
  have hzw1 := hkk.size
  have HKw1 := (show Hid (Same w w1) from HKw.out.trans hkk)
  clear hkk hk
  rcases hr with ⟨rfl, _⟩ | ⟨hr, hr1⟩
  · go_wp2
    go_ret
    exact ⟨rfl, HKw1.out⟩
  have hp1 : p1n ≤ 1048576 := by omega
  have hsb1 : sz1 ≤ 1048576 := by omega
  clear hr
  go_wp2_with fail
  refine (szLockS_any _ p2n _ sz1 _ (by omega) (by omega) (by unfold maxLen; omega)).mono ?_
  rintro e w2 ⟨sz2, rfl, hr, hww⟩
  have hk : Same w1 w2 := by rw [hww]; exact Kept.refl _ _
  clear hww
  have hkk : Same w1 w2 := hk
  have hzw2 := hkk.size
  have HKw2 := (show Hid (Same w w2) from HKw1.out.trans hkk)
  clear hkk hk
  rcases hr with ⟨rfl, _⟩ | ⟨hr, hr2⟩
  · go_wp2
    go_ret
    exact ⟨rfl, HKw2.out⟩
  have hp2 : p2n ≤ 1048576 := by omega
  have hsb2 : sz2 ≤ 1048576 := by omega
  clear hr
  go_wp2_with fail
  refine (toInt64S_any _ bs0 _ (by omega) (HV0.out.same HKw2.out)).mono ?_
  rintro e w3 ⟨gC0, rfl, hf, ho, hk⟩
  have hf : ∀ b, (Value.slice (some ⟨gC0, 0, none⟩) bs0.length bs0.length).ownBlock = some b → _ ≤ b := fun b hb => by rw [← (Option.some.inj hb : gC0 = b)]; exact hf
  have HFC0 := (show Hid (∀ b, (Value.slice (some ⟨gC0, 0, none⟩) bs0.length bs0.length).ownBlock = some b → w2.heap.size ≤ b ∧ b < w3.heap.size) from fun b hb => ⟨hf b hb, (ho.lt b hb).2⟩)
  have HC0w3 := (show Hid (Own 0 2 .i64 w3 (.slice (some ⟨gC0, 0, none⟩) bs0.length bs0.length) bs0) from ho)
  clear hf ho
  have hkk : Same w2 w3 := hk
  have hzw3 := hkk.size
  have HKw3 := (show Hid (Same w w3) from HKw2.out.trans hkk)
  clear hkk hk
  go_wp2_with fail
  refine (toHoldS_any ⟨p1e, p1a, p1n, p1c, p1b⟩ _ (by dsimp only; omega) (HV1.out.same HKw3.out)).mono ?_
  rintro e w4 ⟨⟨C1e, C1a, C1n, C1c, C1b⟩, rfl, hd, hn, hf, ho, hk⟩
  dsimp only at hd hn
  replace hd := hd.symm
  replace hn := hn.symm
  subst hd hn
  dsimp only [FR.v]
  have HFC1 := (show Hid (∀ b, FootL (FR.rows 3 ⟨C1e, C1a, p1n, C1c, p1b⟩) b → w3.heap.size ≤ b ∧ b < w4.heap.size) from fun b hb => ⟨hf b hb, ho.lt b hb⟩)
  have HC1w4 := (show Hid (OwnL w4 (FR.rows 3 ⟨C1e, C1a, p1n, C1c, p1b⟩)) from ho)
  clear hf ho
  have hkk : Same w3 w4 := hk
  have hzw4 := hkk.size
  have HC0w4 := hid (HC0w3.out.same hkk)
  have HKw4 := (show Hid (Same w w4) from HKw3.out.trans hkk)
  clear hkk hk
  go_wp2_with fail
  refine (toLockS_any ⟨p2e, p2a, p2n, p2c, p2b⟩ _ (by dsimp only; omega) (HV2.out.same HKw4.out)).mono ?_
  rintro e w5 ⟨⟨C2e, C2a, C2n, C2c, C2b⟩, rfl, hd, hn, hf, ho, hk⟩
  dsimp only at hd hn
  replace hd := hd.symm
  replace hn := hn.symm
  subst hd hn
  dsimp only [FR.v]
  have HFC2 := (show Hid (∀ b, FootL (FR.rows 3 ⟨C2e, C2a, p2n, C2c, p2b⟩) b → w4.heap.size ≤ b ∧ b < w5.heap.size) from fun b hb => ⟨hf b hb, ho.lt b hb⟩)
  have HC2w5 := (show Hid (OwnL w5 (FR.rows 3 ⟨C2e, C2a, p2n, C2c, p2b⟩)) from ho)
  clear hf ho
  have hkk : Same w4 w5 := hk
  have hzw5 := hkk.size
  have HC0w5 := hid (HC0w4.out.same hkk)
  have HC1w5 := (show Hid (OwnL w5 (FR.rows 3 ⟨C1e, C1a, p1n, C1c, p1b⟩)) from HC1w4.out.same hkk)
  have HKw5 := (show Hid (Same w w5) from HKw4.out.trans hkk)
  clear hkk hk
  go_wp2_with fail
  refine (specFreshId_any _ bs0 ⟨C1e, C1a, p1n, C1c, p1b⟩ ⟨C2e, C2a, p2n, C2c, p2b⟩ s3 s4 _ (HC0w5.out.rd) (FR.own_rd HC1w5.out) (FR.own_rd HC2w5.out)).mono ?_
  rintro e w6 ⟨rfl, hk⟩
  try dsimp only
  obtain ⟨r0, hR⟩ : ∃ r, freshI bs0 (tri p1b) (tri p2b) s3 s4 = r := ⟨_, rfl⟩
  have HR : Hid (freshI bs0 (tri p1b) (tri p2b) s3 s4 = r0) := hR
  clear hR
  rw [HR.out]
  have hkk : Same w5 w6 := hk
  have hzw6 := hkk.size
  have HC0w6 := hid (HC0w5.out.same hkk)
  have HC1w6 := (show Hid (OwnL w6 (FR.rows 3 ⟨C1e, C1a, p1n, C1c, p1b⟩)) from HC1w5.out.same hkk)
  have HC2w6 := (show Hid (OwnL w6 (FR.rows 3 ⟨C2e, C2a, p2n, C2c, p2b⟩)) from HC2w5.out.same hkk)
  have HKw6 := (show Hid (Same w w6) from HKw5.out.trans hkk)
  clear hkk hk
  go_wp2_with fail
  refine (toInt64S_any _ bs0 _ (by omega) (HV0.out.same HKw6.out)).mono ?_
  rintro e w7 ⟨gX0, rfl, hf, ho, hk⟩
  have hf : ∀ b, (Value.slice (some ⟨gX0, 0, none⟩) bs0.length bs0.length).ownBlock = some b → _ ≤ b := fun b hb => by rw [← (Option.some.inj hb : gX0 = b)]; exact hf
  have HFX0 := (show Hid (∀ b, (Value.slice (some ⟨gX0, 0, none⟩) bs0.length bs0.length).ownBlock = some b → w6.heap.size ≤ b ∧ b < w7.heap.size) from fun b hb => ⟨hf b hb, (ho.lt b hb).2⟩)
  have HX0w7 := (show Hid (Own 0 2 .i64 w7 (.slice (some ⟨gX0, 0, none⟩) bs0.length bs0.length) bs0) from ho)
  clear hf ho
  have hkk : Same w6 w7 := hk
  have hzw7 := hkk.size
  have HKw7 := (show Hid (Same w w7) from HKw6.out.trans hkk)
  clear hkk hk
  go_wp2_with fail
  refine (toHoldS_any ⟨p1e, p1a, p1n, p1c, p1b⟩ _ (by dsimp only; omega) (HV1.out.same HKw7.out)).mono ?_
  rintro e w8 ⟨⟨X1e, X1a, X1n, X1c, X1b⟩, rfl, hd, hn, hf, ho, hk⟩
  dsimp only at hd hn
  replace hd := hd.symm
  replace hn := hn.symm
  subst hd hn
  dsimp only [FR.v]
  have HFX1 := (show Hid (∀ b, FootL (FR.rows 3 ⟨X1e, X1a, p1n, X1c, p1b⟩) b → w7.heap.size ≤ b ∧ b < w8.heap.size) from fun b hb => ⟨hf b hb, ho.lt b hb⟩)
  have HX1w8 := (show Hid (OwnL w8 (FR.rows 3 ⟨X1e, X1a, p1n, X1c, p1b⟩)) from ho)
  clear hf ho
  have hkk : Same w7 w8 := hk
  have hzw8 := hkk.size
  have HX0w8 := hid (HX0w7.out.same hkk)
  have HKw8 := (show Hid (Same w w8) from HKw7.out.trans hkk)
  clear hkk hk
  go_wp2_with fail
  refine (toLockS_any ⟨p2e, p2a, p2n, p2c, p2b⟩ _ (by dsimp only; omega) (HV2.out.same HKw8.out)).mono ?_
  rintro e w9 ⟨⟨X2e, X2a, X2n, X2c, X2b⟩, rfl, hd, hn, hf, ho, hk⟩
  dsimp only at hd hn
  replace hd := hd.symm
  replace hn := hn.symm
  subst hd hn
  dsimp only [FR.v]
  have HFX2 := (show Hid (∀ b, FootL (FR.rows 3 ⟨X2e, X2a, p2n, X2c, p2b⟩) b → w8.heap.size ≤ b ∧ b < w9.heap.size) from fun b hb => ⟨hf b hb, ho.lt b hb⟩)
  have HX2w9 := (show Hid (OwnL w9 (FR.rows 3 ⟨X2e, X2a, p2n, X2c, p2b⟩)) from ho)
  clear hf ho
  have hkk : Same w8 w9 := hk
  have hzw9 := hkk.size
  have HX0w9 := hid (HX0w8.out.same hkk)
  have HX1w9 := (show Hid (OwnL w9 (FR.rows 3 ⟨X1e, X1a, p1n, X1c, p1b⟩)) from HX1w8.out.same hkk)
  have HKw9 := (show Hid (Same w w9) from HKw8.out.trans hkk)
  clear hkk hk
  go_wp2_with fail
  refine (implFreshId_any _ bs0 ⟨X1e, X1a, p1n, X1c, p1b⟩ ⟨X2e, X2a, p2n, X2c, p2b⟩ s3 s4 _ (HX0w9.out.rd) (FR.own_rd HX1w9.out) (FR.own_rd HX2w9.out)).mono ?_
  rintro e w10 ⟨rfl, hk⟩
  try dsimp only
  rw [HR.out]
  have hkk : Same w9 w10 := hk
  have hzw10 := hkk.size
  have HX0w10 := hid (HX0w9.out.same hkk)
  have HX1w10 := (show Hid (OwnL w10 (FR.rows 3 ⟨X1e, X1a, p1n, X1c, p1b⟩)) from HX1w9.out.same hkk)
  have HX2w10 := (show Hid (OwnL w10 (FR.rows 3 ⟨X2e, X2a, p2n, X2c, p2b⟩)) from HX2w9.out.same hkk)
  have HKw10 := (show Hid (Same w w10) from HKw9.out.trans hkk)
  clear hkk hk
  go_wp2_with fail
  refine (toInt64S_any _ bs0 _ (by omega) (HV0.out.same HKw10.out)).mono ?_
  rintro e w11 ⟨gD0, rfl, hf, ho, hk⟩
  have hf : ∀ b, (Value.slice (some ⟨gD0, 0, none⟩) bs0.length bs0.length).ownBlock = some b → _ ≤ b := fun b hb => by rw [← (Option.some.inj hb : gD0 = b)]; exact hf
  have HFD0 := (show Hid (∀ b, (Value.slice (some ⟨gD0, 0, none⟩) bs0.length bs0.length).ownBlock = some b → w10.heap.size ≤ b ∧ b < w11.heap.size) from fun b hb => ⟨hf b hb, (ho.lt b hb).2⟩)
  have HD0w11 := (show Hid (Own 0 2 .i64 w11 (.slice (some ⟨gD0, 0, none⟩) bs0.length bs0.length) bs0) from ho)
  clear hf ho
  have hkk : Same w10 w11 := hk
  have hzw11 := hkk.size
  have HX0w11 := hid (HX0w10.out.same hkk)
  have HX1w11 := (show Hid (OwnL w11 (FR.rows 3 ⟨X1e, X1a, p1n, X1c, p1b⟩)) from HX1w10.out.same hkk)
  have HX2w11 := (show Hid (OwnL w11 (FR.rows 3 ⟨X2e, X2a, p2n, X2c, p2b⟩)) from HX2w10.out.same hkk)
  have HKw11 := (show Hid (Same w w11) from HKw10.out.trans hkk)
  clear hkk hk
  go_wp2_with fail
  refine (eqInt64S_own 0 _ _ bs0 _ (by omega) HX0w11.out HD0w11.out).mono ?_
  rintro e w12 ⟨rfl, nn, hww⟩
  have hk : Same w11 w12 := by rw [hww]; exact (Kept.refl _ _).drewN _
  clear hww
  have hkk : Same w11 w12 := hk
  have hzw12 := hkk.size
  have HX0w12 := hid (HX0w11.out.same hkk)
  have HX1w12 := (show Hid (OwnL w12 (FR.rows 3 ⟨X1e, X1a, p1n, X1c, p1b⟩)) from HX1w11.out.same hkk)
  have HX2w12 := (show Hid (OwnL w12 (FR.rows 3 ⟨X2e, X2a, p2n, X2c, p2b⟩)) from HX2w11.out.same hkk)
  have HKw12 := (show Hid (Same w w12) from HKw11.out.trans hkk)
  clear hkk hk
  go_wp2_with fail
  refine (toHoldS_any ⟨p1e, p1a, p1n, p1c, p1b⟩ _ (by dsimp only; omega) (HV1.out.same HKw12.out)).mono ?_
  rintro e w13 ⟨⟨D1e, D1a, D1n, D1c, D1b⟩, rfl, hd, hn, hf, ho, hk⟩
  dsimp only at hd hn
  replace hd := hd.symm
  replace hn := hn.symm
  subst hd hn
  dsimp only [FR.v]
  have HFD1 := (show Hid (∀ b, FootL (FR.rows 3 ⟨D1e, D1a, p1n, D1c, p1b⟩) b → w12.heap.size ≤ b ∧ b < w13.heap.size) from fun b hb => ⟨hf b hb, ho.lt b hb⟩)
  have HD1w13 := (show Hid (OwnL w13 (FR.rows 3 ⟨D1e, D1a, p1n, D1c, p1b⟩)) from ho)
  clear hf ho
  have hkk : Same w12 w13 := hk
  have hzw13 := hkk.size
  have HX0w13 := hid (HX0w12.out.same hkk)
  have HX1w13 := (show Hid (OwnL w13 (FR.rows 3 ⟨X1e, X1a, p1n, X1c, p1b⟩)) from HX1w12.out.same hkk)
  have HX2w13 := (show Hid (OwnL w13 (FR.rows 3 ⟨X2e, X2a, p2n, X2c, p2b⟩)) from HX2w12.out.same hkk)
  have HKw13 := (show Hid (Same w w13) from HKw12.out.trans hkk)
  clear hkk hk
  go_wp2_with fail
  refine (eqHoldS_own ⟨X1e, X1a, p1n, X1c, p1b⟩ ⟨D1e, D1a, p1n, D1c, p1b⟩ _ (by dsimp only; omega) rfl HX1w13.out HD1w13.out).mono ?_
  rintro e w14 ⟨rfl, hk⟩
  have hkk : Same w13 w14 := hk
  have hzw14 := hkk.size
  have HX0w14 := hid (HX0w13.out.same hkk)
  have HX1w14 := (show Hid (OwnL w14 (FR.rows 3 ⟨X1e, X1a, p1n, X1c, p1b⟩)) from HX1w13.out.same hkk)
  have HX2w14 := (show Hid (OwnL w14 (FR.rows 3 ⟨X2e, X2a, p2n, X2c, p2b⟩)) from HX2w13.out.same hkk)
  have HKw14 := (show Hid (Same w w14) from HKw13.out.trans hkk)
  clear hkk hk
  go_wp2_with fail
  refine (toLockS_any ⟨p2e, p2a, p2n, p2c, p2b⟩ _ (by dsimp only; omega) (HV2.out.same HKw14.out)).mono ?_
  rintro e w15 ⟨⟨D2e, D2a, D2n, D2c, D2b⟩, rfl, hd, hn, hf, ho, hk⟩
  dsimp only at hd hn
  replace hd := hd.symm
  replace hn := hn.symm
  subst hd hn
  dsimp only [FR.v]
  have HFD2 := (show Hid (∀ b, FootL (FR.rows 3 ⟨D2e, D2a, p2n, D2c, p2b⟩) b → w14.heap.size ≤ b ∧ b < w15.heap.size) from fun b hb => ⟨hf b hb, ho.lt b hb⟩)
  have HD2w15 := (show Hid (OwnL w15 (FR.rows 3 ⟨D2e, D2a, p2n, D2c, p2b⟩)) from ho)
  clear hf ho
  have hkk : Same w14 w15 := hk
  have hzw15 := hkk.size
  have HX0w15 := hid (HX0w14.out.same hkk)
  have HX1w15 := (show Hid (OwnL w15 (FR.rows 3 ⟨X1e, X1a, p1n, X1c, p1b⟩)) from HX1w14.out.same hkk)
  have HX2w15 := (show Hid (OwnL w15 (FR.rows 3 ⟨X2e, X2a, p2n, X2c, p2b⟩)) from HX2w14.out.same hkk)
  have HKw15 := (show Hid (Same w w15) from HKw14.out.trans hkk)
  clear hkk hk
  go_wp2_with fail
  refine (eqLockS_own ⟨X2e, X2a, p2n, X2c, p2b⟩ ⟨D2e, D2a, p2n, D2c, p2b⟩ _ (by dsimp only; omega) rfl HX2w15.out HD2w15.out).mono ?_
  rintro e w16 ⟨rfl, hk⟩
  have hkk : Same w15 w16 := hk
  have hzw16 := hkk.size
  have HX0w16 := hid (HX0w15.out.same hkk)
  have HX1w16 := (show Hid (OwnL w16 (FR.rows 3 ⟨X1e, X1a, p1n, X1c, p1b⟩)) from HX1w15.out.same hkk)
  have HX2w16 := (show Hid (OwnL w16 (FR.rows 3 ⟨X2e, X2a, p2n, X2c, p2b⟩)) from HX2w15.out.same hkk)
  have HKw16 := (show Hid (Same w w16) from HKw15.out.trans hkk)
  clear hkk hk
  go_wp2
  go_ret
  exact ⟨rfl, HKw16.out⟩
end Go.Proofs.Ytagcefbnhpkdiab
