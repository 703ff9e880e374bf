import Derived.Test.YtapdfgkbhaoelaaGreatDoorSpecSmall4
namespace Go.Proofs.YtapdfgkbhaoelaaGreatDoor
set_option maxRecDepth 100000
set_option maxHeartbeats 8000000
set_option linter.unusedVariables false
set_option linter.unusedSimpArgs false
open Go.RowKit
def exB (ow c1 c2 c7 c8 t p g s u n eb ea zt zd zi : Bool) : Bool :=
 (!ow && (!t || !p)) || ((!(c1 || c2) && (!s || !ea) || !(c1 || c2) && !c8 && !g) || ((!c1 && !eb || !c2 && !u) || ((!c7 && (!n || !zt || !zd)) || (!c8 && !zi))))
theorem Wx (x : Int) : ∃ b, (x == 0) = b ∧ (x != 0) = !b := ⟨_, rfl, rfl⟩
theorem jce (n : Nat) : n = 0 ∨ ((0 : Int) < (n : Int) ∧ Hid (decide (n = 0) = false)) := by
 by_cases h : n = 0
 ·exact .inl h
 ·exact .inr ⟨by omega, decide_eq_false h⟩
theorem Zb (k t p g s : Int) (bu : Bool) (ba : Option Addr) (bn bc : Nat) (au : Bool) (aa : Option Addr) (an ac : Nat) (u n : Int) (ta : Option Addr) (tn tc : Nat) (da : Option Addr) (dn dc : Nat) (ia : Option Addr) (im ic : Nat) (w : World) (hb : bn ≤ maxLen) (ha : an ≤ maxLen) (ht : tn ≤ maxLen) (hd : dn ≤ maxLen) (hi : im ≤ maxLen) :
  Calls Tryz.prog 33 #[.agg #[Q1 k, Q1 t, Q1 p, Q1 g, Q1 s, .bool bu, .slice ba bn bc, .bool au, .slice aa an ac, Q1 u, Q1 n, .slice ta tn tc, .slice da dn dc, .slice ia im ic]] w fun e w' => e = .returned (.bool (exB (decide (1 ≤ k) && decide (k ≤ 5)) (k == 1) (k == 2) (k == 7) (k == 8) (t == 0) (p == 0) (g == 0) (s == 0) (u == 0) (n == 0) (Qn bu bn) (Qn au an) (decide (tn = 0)) (decide (dn = 0)) (decide (im = 0)))) ∧ Same w w' := by
 have hB := fun wx => VP bu ba bn bc wx hb;have hA := fun wx => VP au aa an ac wx ha;unfold maxLen at ht hd hi;obtain ⟨HK, HX⟩ := new1 w [Q1 k, Q1 t, Q1 p, Q1 g, Q1 s, .bool bu, .slice ba bn bc, .bool au, .slice aa an ac, Q1 u, Q1 n, .slice ta tn tc, .slice da dn dc, .slice ia im ic] 28;obtain ⟨qt, e4, f4⟩ := Wx t;obtain ⟨qp, e5, f5⟩ := Wx p;obtain ⟨qg, e6, f6⟩ := Wx g;obtain ⟨qs, e7, f7⟩ := Wx s;obtain ⟨qu, e8, f8⟩ := Wx u;obtain ⟨qn, e9, f9⟩ := Wx n;rw [e4, e5, e6, e7, e8, e9];clear e4 e5 e6 e7 e8 e9;generalize Qn bu bn = eb at *;generalize Qn au an = ea at *;obtain ⟨c1, k1⟩ : ∃ b, (k == 1) = b := ⟨_, rfl⟩;obtain ⟨c2, k2⟩ : ∃ b, (k == 2) = b := ⟨_, rfl⟩;obtain ⟨c7, k7⟩ : ∃ b, (k == 7) = b := ⟨_, rfl⟩;obtain ⟨c8, k8⟩ : ∃ b, (k == 8) = b := ⟨_, rfl⟩;obtain ⟨o1, ko⟩ : ∃ b, decide (1 ≤ k) = b := ⟨_, rfl⟩;obtain ⟨o5, kp⟩ : ∃ b, decide (k ≤ 5) = b := ⟨_, rfl⟩;rw [k1, k2, k7, k8, ko, kp]
 have m1 : (k != 1) = !c1 := by rw [← k1]; rfl
 have m2 : (k != 2) = !c2 := by rw [← k2]; rfl
 have m7 : (k != 7) = !c7 := by rw [← k7]; rfl
 have m8 : (k != 8) = !c8 := by rw [← k8]; rfl
 unfold exB;obtain ⟨ch, s9⟩ : ∃ b, (c1 || c2) = b := ⟨_, rfl⟩;obtain ⟨ow, how⟩ : ∃ b, (o1 && o5) = b := ⟨_, rfl⟩;rw [s9, how];obtain ⟨A1, a1⟩ : ∃ b, (!ow && (!qt || !qp)) = b := ⟨_, rfl⟩;obtain ⟨A2, a2⟩ : ∃ b, (!ch && (!qs || !ea) || !ch && !c8 && !qg) = b := ⟨_, rfl⟩;obtain ⟨A3, a3⟩ : ∃ b, (!c1 && !eb || !c2 && !qu) = b := ⟨_, rfl⟩;obtain ⟨A4, a4⟩ : ∃ b, (!c7 && (!qn || !decide (tn = 0) || !decide (dn = 0))) = b := ⟨_, rfl⟩;obtain ⟨A5, a5⟩ : ∃ b, (!c8 && !decide (im = 0)) = b := ⟨_, rfl⟩;rw [a1, a2, a3, a4, a5];have H1 := hid a1;have H2 := hid a2;have H3 := hid a3;have H4 := hid a4;have H5 := hid a5;have HC := hid s9;have HO := hid how;clear s9 how a1 a2 a3 a4 a5;obtain ⟨w1, hw⟩ : ∃ z, w.alloc (.cells #[Q1 k, Q1 t, Q1 p, Q1 g, Q1 s, .bool bu, .slice ba bn bc, .bool au, .slice aa an ac, Q1 u, Q1 n, .slice ta tn tc, .slice da dn dc, .slice ia im ic] 28) = z := ⟨_, rfl⟩;dsimp only [List.toArray] at HK HX;rw [hw] at HK HX;have fV := HX;obtain ⟨z0, z1, z2, z3, z4, z5, z6, z7, z8, z9, bV, bW, bX, bY⟩ := HX.out.all14
 go_enter Tryz.func33, Tryz.ntmps33
 go_upto_region 1 with fail
 try rw [hw]
 clear hw
 go_cut [3] (fun v wx => v = .bool ch ∧ w1 = wx)
 case first =>
  cases c1 <;> cases c2
  all_goals
   go_wp2_with fail
   go_meet
   case rel => exact ⟨by rw [← HC.out]; rfl, rfl⟩
 case rest =>
 obtain ⟨rfl, rfl⟩ := hcut
 go_upto_region 2 with fail
 go_cut [4] (fun v wx => v = .bool ow ∧ w1 = wx)
 case first =>
  cases o1 <;> cases o5
  all_goals
   go_wp2_with fail
   go_meet
   case rel => exact ⟨by rw [← HO.out]; rfl, rfl⟩
 case rest =>
 obtain ⟨rfl, rfl⟩ := hcut
 go_upto_region 3 with fail
 go_cut [32] (fun v wx => v = .bool A1 ∧ w1 = wx)
 case first =>
  cases ow <;> cases qt <;> cases qp
  all_goals
   go_wp2_with fail
   go_meet
   case rel => exact ⟨by rw [← H1.out]; first | rfl | simp_all [Hid], rfl⟩
 case rest =>
 obtain ⟨rfl, rfl⟩ := hcut
 cases A1
 case true =>
  go_wp2;go_ret;exact ⟨by simp, HK.out⟩
 go_upto_region 5 with fail
 go_cut [59] (fun v wx => v = .bool A2 ∧ Hid (Same w1 wx))
 case first =>
  cases ch <;> cases qs <;> cases ea <;> cases c8 <;> cases qg
  all_goals
   go_wp2_with (go_at_call 80; refine (hA _).mono ?_; rintro e wq ⟨rfl, hk⟩; obtain ⟨y0, y1, y2, y3, y4, y5, y6, y7, y8, y9, FQ, Hq, IK, Fx⟩ := (fV.out.same hk).all14)
   go_meet
   case rel => first | exact ⟨by rw [← H2.out]; first | rfl | simp_all [Hid], hid hk⟩ | exact ⟨by rw [← H2.out]; first | rfl | simp_all [Hid], hid kZ0⟩
 case rest =>
 obtain ⟨rfl, hk⟩ := hcut;clear z0 z1 z2 z3 z4 z5 z6 z7 z8 z9 bV bW bX bY;replace HK := hid (HK.out.trans hk.out);replace fV := hid (fV.out.same hk.out);clear hk;obtain ⟨z0, z1, z2, z3, z4, z5, z6, z7, z8, z9, bV, bW, bX, bY⟩ := fV.out.all14
 cases A2
 case true =>
  go_wp2;go_ret;exact ⟨by simp, HK.out⟩
 go_upto_region 7 with fail
 go_cut [78] (fun v wx => v = .bool A3 ∧ Hid (Same wc wx))
 case first =>
  cases c1 <;> cases eb <;> cases c2 <;> cases qu
  all_goals
   go_wp2_with (go_at_call 80; refine (hB _).mono ?_; rintro e wq ⟨rfl, hk⟩; obtain ⟨y0, y1, y2, y3, y4, y5, y6, y7, y8, y9, FQ, Hq, IK, Fx⟩ := (fV.out.same hk).all14)
   go_meet
   case rel => first | exact ⟨by rw [← H3.out]; first | rfl | simp_all [Hid], hid hk⟩ | exact ⟨by rw [← H3.out]; first | rfl | simp_all [Hid], hid kZ0⟩
 case rest =>
 obtain ⟨rfl, hk⟩ := hcut;clear z0 z1 z2 z3 z4 z5 z6 z7 z8 z9 bV bW bX bY;replace HK := hid (HK.out.trans hk.out);replace fV := hid (fV.out.same hk.out);clear hk;obtain ⟨z0, z1, z2, z3, z4, z5, z6, z7, z8, z9, bV, bW, bX, bY⟩ := fV.out.all14
 cases A3
 case true =>
  go_wp2;go_ret;exact ⟨by simp, HK.out⟩
 go_upto_region 9 with fail
 go_cut [98] (fun v wx => v = .bool A4 ∧ wc = wx)
 case first =>
  cases c7 <;> cases qn <;> rcases jce tn with rfl | ⟨f1, r1⟩ <;> rcases jce dn with rfl | ⟨f2, r2⟩
  all_goals
   go_wp2_with fail
   go_meet
   case rel => exact ⟨by rw [← H4.out]; first | rfl | simp_all [Hid], rfl⟩
 case rest =>
 obtain ⟨rfl, rfl⟩ := hcut
 cases A4
 case true =>
  go_wp2;go_ret;exact ⟨by simp, HK.out⟩
 cases c8 <;> rcases jce im with rfl | ⟨f1, r1⟩
 all_goals
  go_wp2;go_ret;exact ⟨by rw [← H5.out]; first | rfl | simp_all [Hid], HK.out⟩
end Go.Proofs.YtapdfgkbhaoelaaGreatDoor
