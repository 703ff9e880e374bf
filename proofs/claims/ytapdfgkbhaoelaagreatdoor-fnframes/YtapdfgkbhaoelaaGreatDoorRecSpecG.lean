import Derived.Test.YtapdfgkbhaoelaaGreatDoorExtraG
namespace Go.Proofs.YtapdfgkbhaoelaaGreatDoor
set_option maxRecDepth 100000
set_option maxHeartbeats 8000000
set_option linter.unusedVariables false
set_option linter.unusedSimpArgs false
open Go.RowKit
def spB (k : Int) (bu au bK EX bT bP bG bS fB fA bU TB : Bool) (PF : Int) : Int :=
 if (!bK) = true then 1 else if EX = true then 2 else if (decide (k ≤ 5) && !bT) = true then 3 else if (!bP) = true then 4 else if (((k == 1 || k == 2) || k == 8) && !bG || (k == 1 || k == 2) && !bS) = true then 5 else if (!fB || !fA || (k == 1) && !bu && !au) = true then 6 else if ((k == 2) && !bU) = true then 7 else if ((k == 7) && !TB) = true then 8 else if ((k == 8) && !(PF == 0)) = true then 9 else 0
theorem jdl (k t p g s : Int) (bu : Bool) (ba : Option Addr) (bn bc : Nat) (au : Bool) (aa : Option Addr) (an ac : Nat) (u n : Int) (ta : Option Addr) (tn tc : Nat) (da : Option Addr) (dn dc : Nat) (ia : Option Addr) (im ic : Nat) (w : World) (EX TB : Bool) (PF : Int) (hb : bn ≤ maxLen) (ha : an ≤ maxLen)
  (hE : ∀ wx, Same w wx → Calls Tryz.prog 33 #[.agg #[Q1 k, Q1 t, Q1 p, Q1 g, Q1 s, .bool bu, .slice ba bn bc, .bool au, .slice aa an ac, Q1 u, Q1 n, .slice ta tn tc, .slice da dn dc, .slice ia im ic]] wx fun e w' => e = .returned (.bool EX) ∧ Same wx w')
  (hT : ∀ wx, Same w wx → Calls Tryz.prog 35 #[.agg #[Q1 k, Q1 t, Q1 p, Q1 g, Q1 s, .bool bu, .slice ba bn bc, .bool au, .slice aa an ac, Q1 u, Q1 n, .slice ta tn tc, .slice da dn dc, .slice ia im ic]] wx fun e w' => e = .returned (.bool TB) ∧ Same wx w')
  (hP : k = 8 → ∀ wx, Same w wx → Calls Tryz.prog 36 #[.slice ia im ic, Q1 g] wx fun e w' => e = .returned (Q1 PF) ∧ Same wx w') :
  Calls Tryz.prog 7 #[.agg #[Q1 k, Q1 t, Q1 p, Q1 g, Q1 s, .bool bu, .slice ba bn bc, .bool au, .slice aa an ac, Q1 u, Q1 n, .slice ta tn tc, .slice da dn dc, .slice ia im ic]] w fun e w' => e = .returned (Q1 (spB k bu au (inB k 1 8) EX (inB t 1 2147483647) (inB p 0 1099511627776) (inB g 0 15) (inB s 0 31) (QN bu bn) (QN au an) (inB u 0 1099511627776) TB PF)) ∧ Same w w' := by
 have hB := fun wx => Xp bu ba bn bc wx hb;have hA := fun wx => Xp au aa an ac wx ha;have HP := (show Hid ((k == 8) = true → ∀ wx, Same w wx → _) from fun h => hP (by simpa using h));clear hP hb ha;obtain ⟨aP, HX⟩ := new1 w [Q1 k, Q1 t, Q1 p, Q1 g, Q1 s, .bool bu, .slice ba bn bc, .bool au, .slice aa an ac, Q1 u, Q1 n, .slice ta tn tc, .slice da dn dc, .slice ia im ic] 28;unfold spB;obtain ⟨bK, q1⟩ : ∃ b, inB k 1 8 = b := ⟨_, rfl⟩;obtain ⟨bT, q2⟩ : ∃ b, inB t 1 2147483647 = b := ⟨_, rfl⟩;obtain ⟨bP, q3⟩ : ∃ b, inB p 0 1099511627776 = b := ⟨_, rfl⟩;obtain ⟨bG, q4⟩ : ∃ b, inB g 0 15 = b := ⟨_, rfl⟩;obtain ⟨bS, q5⟩ : ∃ b, inB s 0 31 = b := ⟨_, rfl⟩;obtain ⟨bU, q6⟩ : ∃ b, inB u 0 1099511627776 = b := ⟨_, rfl⟩;obtain ⟨pz, q7, q8⟩ := Wx PF;rw [q1, q2, q3, q4, q5, q6, q7];generalize QN bu bn = fB at *;generalize QN au an = fA at *;obtain ⟨c1, k1⟩ : ∃ b, (k == 1) = b := ⟨_, rfl⟩;obtain ⟨c2, k2⟩ : ∃ b, (k == 2) = b := ⟨_, rfl⟩;obtain ⟨c7, k7⟩ : ∃ b, (k == 7) = b := ⟨_, rfl⟩;obtain ⟨c8, k8⟩ : ∃ b, (k == 8) = b := ⟨_, rfl⟩;obtain ⟨le, kp⟩ : ∃ b, decide (k ≤ 5) = b := ⟨_, rfl⟩;rw [k8] at HP;rw [k1, k2, k7, k8, kp];obtain ⟨ch, s9⟩ : ∃ b, (c1 || c2) = b := ⟨_, rfl⟩;rw [s9];obtain ⟨A1, a1⟩ : ∃ b, (!bK) = b := ⟨_, rfl⟩;obtain ⟨A3, a3⟩ : ∃ b, (le && !bT) = b := ⟨_, rfl⟩;obtain ⟨A4, a4⟩ : ∃ b, (!bP) = b := ⟨_, rfl⟩;obtain ⟨A5, a5⟩ : ∃ b, ((ch || c8) && !bG || ch && !bS) = b := ⟨_, rfl⟩;obtain ⟨A6, a6⟩ : ∃ b, (!fB || !fA || c1 && !bu && !au) = b := ⟨_, rfl⟩;obtain ⟨A7, a7⟩ : ∃ b, (c2 && !bU) = b := ⟨_, rfl⟩;obtain ⟨A8, a8⟩ : ∃ b, (c7 && !TB) = b := ⟨_, rfl⟩;obtain ⟨A9, a9⟩ : ∃ b, (c8 && !pz) = b := ⟨_, rfl⟩;rw [a1, a3, a4, a5, a6, a7, a8, a9];have H1 := hid a1;have H3 := hid a3;have H4 := hid a4;have H5 := hid a5;have H6 := hid a6;have H7 := hid a7;have H8 := hid a8;have H9 := hid a9;have HC := hid s9;clear s9 a1 a3 a4 a5 a6 a7 a8 a9;obtain ⟨w1, hw⟩ : ∃ z, w.alloc (.cells #[Q1 k, Q1 t, Q1 p, Q1 g, Q1 s, .bool bu, .slice ba bn bc, .bool au, .slice aa an ac, Q1 u, Q1 n, .slice ta tn tc, .slice da dn dc, .slice ia im ic] 28) = z := ⟨_, rfl⟩;dsimp only [List.toArray] at aP HX;rw [hw] at aP HX;obtain ⟨z0, z1, z2, z3, z4, z5, z6, z7, z8, z9, bV, bW, bX, bY⟩ := HX.out.all14
 go_enter Tryz.func7, Tryz.ntmps7
 go_upto_region 1 with fail
 try rw [hw]
 clear hw;have HK : Hid (Same w1 w1) := kZ0
 go_cut [3] (fun v wx => v = .bool ch ∧ Hid (Same w1 wx))
 case first =>
  cases c1 <;> cases c2
  all_goals
   go_wp2_with fail
   go_meet
   case rel => exact ⟨by rw [← HC.out]; rfl, HK⟩
 case rest =>
 obtain ⟨rfl, hk⟩ := hcut;replace HK := hk;clear hk z0 z1 z2 z3 z4 z5 z6 z7 z8 z9 bV bW bX bY;obtain ⟨z0, z1, z2, z3, z4, z5, z6, z7, z8, z9, bV, bW, bX, bY⟩ := (HX.out.same HK.out).all14
 go_upto_region 2 with fail
 go_cut [15] (fun v wx => v = .bool A1 ∧ Hid (Same w1 wx))
 case first =>
  cases bK
  all_goals
   go_wp2_with (go_at_call 32; refine (Qh _ _ _ _).mono ?_; rintro e wq ⟨rfl, hk⟩; replace HK := hid (HK.out.trans hk); clear hk; obtain ⟨z0, z1, z2, z3, z4, z5, z6, z7, z8, z9, bV, bW, bX, bY⟩ := (HX.out.same HK.out).all14)
   go_meet
   case rel => exact ⟨by rw [← H1.out]; rfl, HK⟩
 case rest =>
 obtain ⟨rfl, hk⟩ := hcut;replace HK := hk;clear hk z0 z1 z2 z3 z4 z5 z6 z7 z8 z9 bV bW bX bY;obtain ⟨z0, z1, z2, z3, z4, z5, z6, z7, z8, z9, bV, bW, bX, bY⟩ := (HX.out.same HK.out).all14
 cases A1
 case true =>
  go_wp2;go_ret;exact ⟨by simp, aP.out.trans HK.out⟩
 go_upto_region 4 with fail
 go_cut [17] (fun v wx => v = .bool EX ∧ Hid (Same w1 wx))
 case first =>
  go_wp2_with (go_at_call 33; refine (hE _ (aP.out.trans HK.out)).mono ?_; rintro e wq ⟨rfl, hk⟩; replace HK := hid (HK.out.trans hk); clear hk; obtain ⟨z0, z1, z2, z3, z4, z5, z6, z7, z8, z9, bV, bW, bX, bY⟩ := (HX.out.same HK.out).all14)
  go_meet
  case rel => exact ⟨rfl, HK⟩
 case rest =>
 obtain ⟨rfl, hk⟩ := hcut;replace HK := hk;clear hk z0 z1 z2 z3 z4 z5 z6 z7 z8 z9 bV bW bX bY;obtain ⟨z0, z1, z2, z3, z4, z5, z6, z7, z8, z9, bV, bW, bX, bY⟩ := (HX.out.same HK.out).all14
 cases EX
 case true =>
  go_wp2;go_ret;exact ⟨by simp, aP.out.trans HK.out⟩
 go_upto_region 6 with fail
 go_cut [26] (fun v wx => v = .bool A3 ∧ Hid (Same w1 wx))
 case first =>
  cases le <;> cases bT
  all_goals
   go_wp2_with (go_at_call 32; refine (Qh _ _ _ _).mono ?_; rintro e wq ⟨rfl, hk⟩; replace HK := hid (HK.out.trans hk); clear hk; obtain ⟨z0, z1, z2, z3, z4, z5, z6, z7, z8, z9, bV, bW, bX, bY⟩ := (HX.out.same HK.out).all14)
   go_meet
   case rel => exact ⟨by rw [← H3.out]; rfl, HK⟩
 case rest =>
 obtain ⟨rfl, hk⟩ := hcut;replace HK := hk;clear hk z0 z1 z2 z3 z4 z5 z6 z7 z8 z9 bV bW bX bY;obtain ⟨z0, z1, z2, z3, z4, z5, z6, z7, z8, z9, bV, bW, bX, bY⟩ := (HX.out.same HK.out).all14
 cases A3
 case true =>
  go_wp2;go_ret;exact ⟨by simp, aP.out.trans HK.out⟩
 go_upto_region 8 with fail
 go_cut [30] (fun v wx => v = .bool A4 ∧ Hid (Same w1 wx))
 case first =>
  cases bP
  all_goals
   go_wp2_with (go_at_call 32; refine (Qh _ _ _ _).mono ?_; rintro e wq ⟨rfl, hk⟩; replace HK := hid (HK.out.trans hk); clear hk; obtain ⟨z0, z1, z2, z3, z4, z5, z6, z7, z8, z9, bV, bW, bX, bY⟩ := (HX.out.same HK.out).all14)
   go_meet
   case rel => exact ⟨by rw [← H4.out]; rfl, HK⟩
 case rest =>
 obtain ⟨rfl, hk⟩ := hcut;replace HK := hk;clear hk z0 z1 z2 z3 z4 z5 z6 z7 z8 z9 bV bW bX bY;obtain ⟨z0, z1, z2, z3, z4, z5, z6, z7, z8, z9, bV, bW, bX, bY⟩ := (HX.out.same HK.out).all14
 cases A4
 case true =>
  go_wp2;go_ret;exact ⟨by simp, aP.out.trans HK.out⟩
 go_upto_region 10 with fail
 go_cut [51] (fun v wx => v = .bool A5 ∧ Hid (Same w1 wx))
 case first =>
  cases ch <;> cases c8 <;> cases bG <;> cases bS
  all_goals
   go_wp2_with (go_at_call 32; refine (Qh _ _ _ _).mono ?_; rintro e wq ⟨rfl, hk⟩; replace HK := hid (HK.out.trans hk); clear hk; obtain ⟨z0, z1, z2, z3, z4, z5, z6, z7, z8, z9, bV, bW, bX, bY⟩ := (HX.out.same HK.out).all14)
   go_meet
   case rel => exact ⟨by rw [← H5.out]; rfl, HK⟩
 case rest =>
 obtain ⟨rfl, hk⟩ := hcut;replace HK := hk;clear hk z0 z1 z2 z3 z4 z5 z6 z7 z8 z9 bV bW bX bY;obtain ⟨z0, z1, z2, z3, z4, z5, z6, z7, z8, z9, bV, bW, bX, bY⟩ := (HX.out.same HK.out).all14
 cases A5
 case true =>
  go_wp2;go_ret;exact ⟨by simp, aP.out.trans HK.out⟩
 go_upto_region 12 with fail
 go_cut [78] (fun v wx => v = .bool A6 ∧ Hid (Same w1 wx))
 case first =>
  obtain ⟨b2, dJ⟩ : ∃ b, bu = b := ⟨_, rfl⟩;obtain ⟨a2, Jc⟩ : ∃ b, au = b := ⟨_, rfl⟩;have Ep := hid dJ;have Bu := hid Jc;clear dJ Jc;rw [Ep.out] at z5 hB;rw [Bu.out] at z7 hA
  cases fB <;> cases fA <;> cases c1 <;> cases b2 <;> cases a2
  all_goals
   go_wp2_with (go_at_call 34; (first | (with_reducible refine (hB _).mono ?_) | (with_reducible refine (hA _).mono ?_)); rintro e wq ⟨rfl, hk⟩; replace HK := hid (HK.out.trans hk); clear hk; obtain ⟨z0, z1, z2, z3, z4, z5, z6, z7, z8, z9, bV, bW, bX, bY⟩ := (HX.out.same HK.out).all14; rw [Ep.out] at z5; rw [Bu.out] at z7)
   go_meet
   case rel => exact ⟨by rw [← H6.out, Ep.out, Bu.out]; rfl, HK⟩
 case rest =>
 obtain ⟨rfl, hk⟩ := hcut;replace HK := hk;clear hk z0 z1 z2 z3 z4 z5 z6 z7 z8 z9 bV bW bX bY;obtain ⟨z0, z1, z2, z3, z4, z5, z6, z7, z8, z9, bV, bW, bX, bY⟩ := (HX.out.same HK.out).all14
 cases A6
 case true =>
  go_wp2;go_ret;exact ⟨by simp, aP.out.trans HK.out⟩
 go_upto_region 14 with fail
 go_cut [87] (fun v wx => v = .bool A7 ∧ Hid (Same w1 wx))
 case first =>
  cases c2 <;> cases bU
  all_goals
   go_wp2_with (go_at_call 32; refine (Qh _ _ _ _).mono ?_; rintro e wq ⟨rfl, hk⟩; replace HK := hid (HK.out.trans hk); clear hk; obtain ⟨z0, z1, z2, z3, z4, z5, z6, z7, z8, z9, bV, bW, bX, bY⟩ := (HX.out.same HK.out).all14)
   go_meet
   case rel => exact ⟨by rw [← H7.out]; rfl, HK⟩
 case rest =>
 obtain ⟨rfl, hk⟩ := hcut;replace HK := hk;clear hk z0 z1 z2 z3 z4 z5 z6 z7 z8 z9 bV bW bX bY;obtain ⟨z0, z1, z2, z3, z4, z5, z6, z7, z8, z9, bV, bW, bX, bY⟩ := (HX.out.same HK.out).all14
 cases A7
 case true =>
  go_wp2;go_ret;exact ⟨by simp, aP.out.trans HK.out⟩
 go_upto_region 16 with fail
 go_cut [95] (fun v wx => v = .bool A8 ∧ Hid (Same w1 wx))
 case first =>
  cases c7 <;> cases TB
  all_goals
   go_wp2_with (go_at_call 35; refine (hT _ (aP.out.trans HK.out)).mono ?_; rintro e wq ⟨rfl, hk⟩; replace HK := hid (HK.out.trans hk); clear hk; obtain ⟨z0, z1, z2, z3, z4, z5, z6, z7, z8, z9, bV, bW, bX, bY⟩ := (HX.out.same HK.out).all14)
   go_meet
   case rel => exact ⟨by rw [← H8.out]; rfl, HK⟩
 case rest =>
 obtain ⟨rfl, hk⟩ := hcut;replace HK := hk;clear hk z0 z1 z2 z3 z4 z5 z6 z7 z8 z9 bV bW bX bY;obtain ⟨z0, z1, z2, z3, z4, z5, z6, z7, z8, z9, bV, bW, bX, bY⟩ := (HX.out.same HK.out).all14
 cases A8
 case true =>
  go_wp2;go_ret;exact ⟨by simp, aP.out.trans HK.out⟩
 go_upto_region 18 with fail
 go_cut [106] (fun v wx => v = .bool A9 ∧ Hid (Same w1 wx))
 case first =>
  cases c8 <;> cases pz
  all_goals
   go_wp2_with (go_at_call 36; refine (HP.out rfl _ (aP.out.trans HK.out)).mono ?_; rintro e wq ⟨rfl, hk⟩; replace HK := hid (HK.out.trans hk); clear hk; obtain ⟨z0, z1, z2, z3, z4, z5, z6, z7, z8, z9, bV, bW, bX, bY⟩ := (HX.out.same HK.out).all14)
   go_meet
   case rel => exact ⟨by rw [← H9.out]; rfl, HK⟩
 case rest =>
 obtain ⟨rfl, hk⟩ := hcut;replace HK := hk;clear hk z0 z1 z2 z3 z4 z5 z6 z7 z8 z9 bV bW bX bY;obtain ⟨z0, z1, z2, z3, z4, z5, z6, z7, z8, z9, bV, bW, bX, bY⟩ := (HX.out.same HK.out).all14
 cases A9
 case true =>
  go_wp2;go_ret;exact ⟨by simp, aP.out.trans HK.out⟩
 go_wp2;go_ret;exact ⟨by simp, aP.out.trans HK.out⟩
end Go.Proofs.YtapdfgkbhaoelaaGreatDoor
