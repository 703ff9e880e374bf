import Derived.Test.YtapdfgkbhaoelaaGreatDoorG01
namespace Go.Proofs.YtapdfgkbhaoelaaGreatDoor
set_option maxRecDepth 100000
set_option maxHeartbeats 16000000
set_option linter.unusedVariables false
set_option linter.unusedSimpArgs false
open Go.RowKit
theorem UB (x y : StPageRecord) (w : World) (cC : IsB x.data.bs) (B2 : IsB y.data.bs) (hx : StPageRecord.rd w x) (hy : StPageRecord.rd w y) :
  Calls Tryz.prog 97 #[x.val, y.val] w fun e w' => e = .returned (.bool (x.used == y.used && decide (x.data.bs = y.data.bs))) ∧ Same w w' := by
 obtain ⟨xu, ⟨xe, xa, xc, xb⟩⟩ := x;obtain ⟨yu, ⟨ye, ya, yc, yb⟩⟩ := y;dsimp only [StPageRecord.val, BS.v, StPageRecord.rd] at *
 by_cases hu : xu = yu
 ·subst hu
  have hE : (xu == xu && decide (xb = yb)) = decide (xb = yb) := by simp
  rw [hE];have hc := SH (.slice xa xb.length xc) (.slice ya yb.length yc) xb yb ((w.alloc (.cells #[.bool xu, .slice xa xb.length xc] 24)).alloc (.cells #[.bool xu, .slice ya yb.length yc] 24)) cC B2 (hx.same ((kZ0.alloc _).alloc _)) (hy.same ((kZ0.alloc _).alloc _));generalize decide (xb = yb) = B at *;clear hE hx hy cC B2
  go_enter Tryz.func97, Tryz.ntmps97
  go_wp2_with (go_at_call 29; refine hc.mono ?_; rintro e w1 ⟨rfl, ah⟩)
  go_ret;exact ⟨rfl, ((kZ0.alloc _).alloc _).trans ah⟩
 ·have hE : (xu == yu && decide (xb = yb)) = false := by simp [hu]
  rw [hE];clear hE hx hy cC B2
  cases xu <;> cases yu <;> first | exact absurd rfl hu | skip
  all_goals
   go_enter Tryz.func97, Tryz.ntmps97
   go_wp2;go_ret;exact ⟨rfl, (kZ0.alloc _).alloc _⟩
def Xo (y x : StLogRecord) : Bool := decide (y.kind = x.kind ∧ y.txn = x.txn ∧ y.prev = x.prev ∧ y.page = x.page ∧ y.slot = x.slot ∧ (y.before.used == x.before.used && decide (y.before.data.bs = x.before.data.bs)) = true ∧ (y.after.used == x.after.used && decide (y.after.data.bs = x.after.data.bs)) = true ∧ y.uN = x.uN ∧ y.nT = x.nT ∧ decide (y.txns.bs = x.txns.bs) = true ∧ decide (y.dirty.bs = x.dirty.bs) = true ∧ decide (y.image.bs = x.image.bs) = true)
theorem Yq (y x : StLogRecord) : Xo y x = true ↔ y.dat = x.dat := by
 simp only [Xo, StLogRecord.dat, StPageRecord.dat, Prod.mk.injEq, Bool.and_eq_true, beq_iff_eq, decide_eq_true_eq]
theorem UO {a b : Int} (h : ¬ a = b) : (a == b) = false := by simp [h]
theorem jai (y x : StLogRecord) (w : World) (hy : StLogRecord.rd w y) (hx : StLogRecord.rd w x) (dQ : IsB y.before.data.bs ∧ IsB y.after.data.bs ∧ IsB y.image.bs) (Ap : IsB x.before.data.bs ∧ IsB x.after.data.bs ∧ IsB x.image.bs)
  (hT : ∀ wx, Same w wx → Calls Tryz.prog 98 #[y.txns.v, x.txns.v] wx fun e w' => e = .returned (.bool (decide (y.txns.bs = x.txns.bs))) ∧ Same wx w')
  (hD : ∀ wx, Same w wx → Calls Tryz.prog 99 #[y.dirty.v, x.dirty.v] wx fun e w' => e = .returned (.bool (decide (y.dirty.bs = x.dirty.bs))) ∧ Same wx w') :
  Calls Tryz.prog 59 #[y.val, x.val] w fun e w' => e = .returned (.bool (Xo y x)) ∧ Same w w' := by
 obtain ⟨yk, yt, yp, yg, ys, ⟨yq, ⟨yE, ya, yc, yb⟩⟩, ⟨yr, ⟨yF, yA, yC, yB⟩⟩, yu, yn, ⟨yG, yd, ye, yf, yh⟩, ⟨yH, yi, yj, yl, ym⟩, ⟨yI, yv, yw, yz⟩⟩ := y;obtain ⟨xk, xt, xp, xg, xs, ⟨xq, ⟨xE, xa, xc, xb⟩⟩, ⟨xr, ⟨xF, xA, xC, xB⟩⟩, xu, xn, ⟨xG, xd, xe, xf, xh⟩, ⟨xH, xi, xj, xl, xm⟩, ⟨xI, xv, xw, xz⟩⟩ := x;dsimp only [StLogRecord.val, StPageRecord.val, BS.v, FR.v, StLogRecord.rd, StPageRecord.rd] at *;have hb := fun wx (h : Same w wx) => UB ⟨yq, ⟨yE, ya, yc, yb⟩⟩ ⟨xq, ⟨xE, xa, xc, xb⟩⟩ wx dQ.1 Ap.1 (hy.1.same h) (hx.1.same h);have ha := fun wx (h : Same w wx) => UB ⟨yr, ⟨yF, yA, yC, yB⟩⟩ ⟨xr, ⟨xF, xA, xC, xB⟩⟩ wx dQ.2.1 Ap.2.1 (hy.2.1.same h) (hx.2.1.same h);have hi := fun wx (h : Same w wx) => SH _ _ yz xz wx dQ.2.2 Ap.2.2 (hy.2.2.2.2.same h) (hx.2.2.2.2.same h);dsimp only [StPageRecord.val, BS.v] at hb ha;unfold Xo;dsimp only;clear hy hx dQ Ap;generalize (yq == xq && decide (yb = xb)) = Bb at *;generalize (yr == xr && decide (yB = xB)) = Ba at *;generalize decide (yh = xh) = Bt at *;generalize decide (ym = xm) = Bd at *;generalize decide (yz = xz) = Bi at *;have HN : Hid (¬ (yk = xk ∧ yt = xt ∧ yp = xp ∧ yg = xg ∧ ys = xs ∧ Bb = true ∧ Ba = true ∧ yu = xu ∧ yn = xn ∧ Bt = true ∧ Bd = true ∧ Bi = true) → decide (yk = xk ∧ yt = xt ∧ yp = xp ∧ yg = xg ∧ ys = xs ∧ Bb = true ∧ Ba = true ∧ yu = xu ∧ yn = xn ∧ Bt = true ∧ Bd = true ∧ Bi = true) = false) := decide_eq_false;have HY : Hid ((yk = xk ∧ yt = xt ∧ yp = xp ∧ yg = xg ∧ ys = xs ∧ Bb = true ∧ Ba = true ∧ yu = xu ∧ yn = xn ∧ Bt = true ∧ Bd = true ∧ Bi = true) → decide (yk = xk ∧ yt = xt ∧ yp = xp ∧ yg = xg ∧ ys = xs ∧ Bb = true ∧ Ba = true ∧ yu = xu ∧ yn = xn ∧ Bt = true ∧ Bd = true ∧ Bi = true) = true) := decide_eq_true;generalize decide (yk = xk ∧ yt = xt ∧ yp = xp ∧ yg = xg ∧ ys = xs ∧ Bb = true ∧ Ba = true ∧ yu = xu ∧ yn = xn ∧ Bt = true ∧ Bd = true ∧ Bi = true) = R at *;obtain ⟨HK, HA, HB⟩ := new2 w [Q1 yk, Q1 yt, Q1 yp, Q1 yg, Q1 ys, .bool yq, .slice ya yb.length yc, .bool yr, .slice yA yB.length yC, Q1 yu, Q1 yn, .slice yd ye yf, .slice yi yj yl, .slice yv yz.length yw] 28 [Q1 xk, Q1 xt, Q1 xp, Q1 xg, Q1 xs, .bool xq, .slice xa xb.length xc, .bool xr, .slice xA xB.length xC, Q1 xu, Q1 xn, .slice xd xe xf, .slice xi xj xl, .slice xv xz.length xw] 28
 go_enter Tryz.func59, Tryz.ntmps59
 by_cases e : yk = xk
 rotate_left
 ·have e' := UO e; go_wp2; go_ret; exact ⟨by rw [HN.out (fun h => e h.1)]; rfl, HK.out⟩
 subst e
 by_cases e : yt = xt
 rotate_left
 ·have e' := UO e; go_wp2; go_ret; exact ⟨by rw [HN.out (fun h => e h.2.1)]; rfl, HK.out⟩
 subst e
 by_cases e : yp = xp
 rotate_left
 ·have e' := UO e; go_wp2; go_ret; exact ⟨by rw [HN.out (fun h => e h.2.2.1)]; rfl, HK.out⟩
 subst e
 by_cases e : yg = xg
 rotate_left
 ·have e' := UO e; go_wp2; go_ret; exact ⟨by rw [HN.out (fun h => e h.2.2.2.1)]; rfl, HK.out⟩
 subst e
 by_cases e : ys = xs
 rotate_left
 ·have e' := UO e; go_wp2; go_ret; exact ⟨by rw [HN.out (fun h => e h.2.2.2.2.1)]; rfl, HK.out⟩
 subst e
 go_wp2_with fail
 refine (hb _ HK.out).mono ?_;rintro e w1 ⟨rfl, hk⟩;replace HK := hid (HK.out.trans hk);replace HA := hid (HA.out.same hk);replace HB := hid (HB.out.same hk);clear hk;obtain ⟨c0, c1, c2, c3, c4, c5, c6, c7, c8, c9, c10, c11, c12, c13⟩ := HA.out.all14;obtain ⟨d0, d1, d2, d3, d4, d5, d6, d7, d8, d9, ef, ek, dW, eu⟩ := HB.out.all14
 cases Bb
 ·go_wp2; go_ret; exact ⟨by rw [HN.out (fun h => nomatch h.2.2.2.2.2.1)]; rfl, HK.out⟩
 go_wp2_with fail
 refine (ha _ HK.out).mono ?_;rintro e w2 ⟨rfl, hk⟩;replace HK := hid (HK.out.trans hk);replace HA := hid (HA.out.same hk);replace HB := hid (HB.out.same hk);clear hk;clear c0 c1 c2 c3 c4 c5 c6 c7 c8 c9 c10 c11 c12 c13 d0 d1 d2 d3 d4 d5 d6 d7 d8 d9 ef ek dW eu;obtain ⟨c0, c1, c2, c3, c4, c5, c6, c7, c8, c9, c10, c11, c12, c13⟩ := HA.out.all14;obtain ⟨d0, d1, d2, d3, d4, d5, d6, d7, d8, d9, ef, ek, dW, eu⟩ := HB.out.all14
 cases Ba
 ·go_wp2; go_ret; exact ⟨by rw [HN.out (fun h => nomatch h.2.2.2.2.2.2.1)]; rfl, HK.out⟩
 by_cases e : yu = xu
 rotate_left
 ·have e' := UO e; go_wp2; go_ret; exact ⟨by rw [HN.out (fun h => e h.2.2.2.2.2.2.2.1)]; rfl, HK.out⟩
 subst e
 by_cases e : yn = xn
 rotate_left
 ·have e' := UO e; go_wp2; go_ret; exact ⟨by rw [HN.out (fun h => e h.2.2.2.2.2.2.2.2.1)]; rfl, HK.out⟩
 subst e
 go_wp2_with fail
 refine (hT _ HK.out).mono ?_;rintro e w3 ⟨rfl, hk⟩;replace HK := hid (HK.out.trans hk);replace HA := hid (HA.out.same hk);replace HB := hid (HB.out.same hk);clear hk;clear c0 c1 c2 c3 c4 c5 c6 c7 c8 c9 c10 c11 c12 c13 d0 d1 d2 d3 d4 d5 d6 d7 d8 d9 ef ek dW eu;obtain ⟨c0, c1, c2, c3, c4, c5, c6, c7, c8, c9, c10, c11, c12, c13⟩ := HA.out.all14;obtain ⟨d0, d1, d2, d3, d4, d5, d6, d7, d8, d9, ef, ek, dW, eu⟩ := HB.out.all14
 cases Bt
 ·go_wp2; go_ret; exact ⟨by rw [HN.out (fun h => nomatch h.2.2.2.2.2.2.2.2.2.1)]; rfl, HK.out⟩
 go_wp2_with fail
 refine (hD _ HK.out).mono ?_;rintro e w4 ⟨rfl, hk⟩;replace HK := hid (HK.out.trans hk);replace HA := hid (HA.out.same hk);replace HB := hid (HB.out.same hk);clear hk;clear c0 c1 c2 c3 c4 c5 c6 c7 c8 c9 c10 c11 c12 c13 d0 d1 d2 d3 d4 d5 d6 d7 d8 d9 ef ek dW eu;obtain ⟨c0, c1, c2, c3, c4, c5, c6, c7, c8, c9, c10, c11, c12, c13⟩ := HA.out.all14;obtain ⟨d0, d1, d2, d3, d4, d5, d6, d7, d8, d9, ef, ek, dW, eu⟩ := HB.out.all14
 cases Bd
 ·go_wp2; go_ret; exact ⟨by rw [HN.out (fun h => nomatch h.2.2.2.2.2.2.2.2.2.2.1)]; rfl, HK.out⟩
 go_wp2_with fail
 refine (hi _ HK.out).mono ?_;rintro e w5 ⟨rfl, hk⟩;replace HK := hid (HK.out.trans hk);replace HA := hid (HA.out.same hk);replace HB := hid (HB.out.same hk);clear hk;clear c0 c1 c2 c3 c4 c5 c6 c7 c8 c9 c10 c11 c12 c13 d0 d1 d2 d3 d4 d5 d6 d7 d8 d9 ef ek dW eu;obtain ⟨c0, c1, c2, c3, c4, c5, c6, c7, c8, c9, c10, c11, c12, c13⟩ := HA.out.all14;obtain ⟨d0, d1, d2, d3, d4, d5, d6, d7, d8, d9, ef, ek, dW, eu⟩ := HB.out.all14
 cases Bi
 ·go_wp2; go_ret; exact ⟨by rw [HN.out (fun h => nomatch h.2.2.2.2.2.2.2.2.2.2.2)]; rfl, HK.out⟩
 go_wp2;go_ret;exact ⟨by rw [HY.out (by simp)]; rfl, HK.out⟩
end Go.Proofs.YtapdfgkbhaoelaaGreatDoor
