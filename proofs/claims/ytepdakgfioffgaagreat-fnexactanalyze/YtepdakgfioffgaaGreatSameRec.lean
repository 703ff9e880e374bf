import Derived.Test.YtepdakgfioffgaaGreatG04
namespace Go.Proofs.YtepdakgfioffgaaGreat
set_option maxRecDepth 100000
set_option maxHeartbeats 16000000
set_option linter.unusedVariables false
set_option linter.unusedSimpArgs false
open Go.RowKit
theorem sameSlots_any (x y : StPageRecord) (w : World) (eg : IsB x.data.bs) (uD : IsB y.data.bs) (hx : StPageRecord.rd w x) (hy : StPageRecord.rd w y) :
  Calls Tryz.prog 94 #[x.val, y.val] w fun e w' => e = .returned (.bool (x.used == y.used && decide (x.data.bs = y.data.bs))) ∧ Same w w' := by
 obtain ⟨xu, ⟨xe, xa, xc, xb⟩⟩ := x
 obtain ⟨yu, ⟨ye, ya, yc, yb⟩⟩ := y
 dsimp only [StPageRecord.val, BS.v, StPageRecord.rd] at *
 by_cases hu : xu = yu
 ·subst hu
  have hE : (xu == xu && decide (xb = yb)) = decide (xb = yb) := by simp
  rw [hE]
  have hc := bytesEq_any (.slice xa xb.length xc) (.slice ya yb.length yc) xb yb ((w.alloc (.cells #[.bool xu, .slice xa xb.length xc] 47)).alloc (.cells #[.bool xu, .slice ya yb.length yc] 47)) eg uD (hx.same (((Kept.refl _ _).alloc _).alloc _)) (hy.same (((Kept.refl _ _).alloc _).alloc _))
  generalize decide (xb = yb) = B at *
  clear hE hx hy eg uD
  go_enter Tryz.func94, Tryz.ntmps94
  go_wp2_with (go_at_call 97; refine hc.mono ?_; rintro e w1 ⟨rfl, bg⟩)
  go_ret
  exact ⟨rfl, (((Kept.refl _ _).alloc _).alloc _).trans bg⟩
 ·have hE : (xu == yu && decide (xb = yb)) = false := by simp [hu]
  rw [hE]
  clear hE hx hy eg uD
  cases xu <;> cases yu <;> first | exact absurd rfl hu | skip
  all_goals
   go_enter Tryz.func94, Tryz.ntmps94
   go_wp2
   go_ret
   exact ⟨rfl, ((Kept.refl _ _).alloc _).alloc _⟩
theorem sameRecords_1 (bm cr br bv bD : Int) (bP : Bool) (bW : Option Addr) (bR bT : Nat) (cD : Bool) (cB : Option Addr) (cC cz : Nat) (fb ez : Int) (dD : Option Addr) (dz dB : Nat) (cM : Option Addr) (cQ cL : Nat) (cU : Option Addr) (cW cX : Nat) (eG gn eB ew ey : Int) (bX : Bool) (bS : Option Addr) (bQ bV : Nat) (cF : Bool) (cE : Option Addr) (cG cH : Nat) (j3 jY : Int) (dA : Option Addr) (dC dx : Nat) (cO : Option Addr) (cP cN : Nat) (cT : Option Addr) (cR cV : Nat) (w : World) (gG : bm = eG) (jx : ¬ cr = gn) :
  Calls Tryz.prog 74 #[.agg #[.int .i64 bm, .int .i64 cr, .int .i64 br, .int .i64 bv, .int .i64 bD, .bool bP, .slice bW bR bT, .bool cD, .slice cB cC cz, .int .i64 fb, .int .i64 ez, .slice dD dz dB, .slice cM cQ cL, .slice cU cW cX], .agg #[.int .i64 eG, .int .i64 gn, .int .i64 eB, .int .i64 ew, .int .i64 ey, .bool bX, .slice bS bQ bV, .bool cF, .slice cE cG cH, .int .i64 j3, .int .i64 jY, .slice dA dC dx, .slice cO cP cN, .slice cT cR cV]] w fun e w' => e = .returned (.bool false) ∧ Same w w' := by
 subst gG
 obtain ⟨bk, ji, cv⟩ := new2 w [.int .i64 bm, .int .i64 cr, .int .i64 br, .int .i64 bv, .int .i64 bD, .bool bP, .slice bW bR bT, .bool cD, .slice cB cC cz, .int .i64 fb, .int .i64 ez, .slice dD dz dB, .slice cM cQ cL, .slice cU cW cX] 49 [.int .i64 bm, .int .i64 gn, .int .i64 eB, .int .i64 ew, .int .i64 ey, .bool bX, .slice bS bQ bV, .bool cF, .slice cE cG cH, .int .i64 j3, .int .i64 jY, .slice dA dC dx, .slice cO cP cN, .slice cT cR cV] 49
 go_enter Tryz.func74, Tryz.ntmps74
 go_wp2
 go_ret
 exact ⟨rfl, bk.out⟩
theorem sameRecords_2 (bm cr br bv bD : Int) (bP : Bool) (bW : Option Addr) (bR bT : Nat) (cD : Bool) (cB : Option Addr) (cC cz : Nat) (fb ez : Int) (dD : Option Addr) (dz dB : Nat) (cM : Option Addr) (cQ cL : Nat) (cU : Option Addr) (cW cX : Nat) (eG gn eB ew ey : Int) (bX : Bool) (bS : Option Addr) (bQ bV : Nat) (cF : Bool) (cE : Option Addr) (cG cH : Nat) (j3 jY : Int) (dA : Option Addr) (dC dx : Nat) (cO : Option Addr) (cP cN : Nat) (cT : Option Addr) (cR cV : Nat) (w : World) (gG : bm = eG) (jx : cr = gn) (ig : ¬ br = eB) :
  Calls Tryz.prog 74 #[.agg #[.int .i64 bm, .int .i64 cr, .int .i64 br, .int .i64 bv, .int .i64 bD, .bool bP, .slice bW bR bT, .bool cD, .slice cB cC cz, .int .i64 fb, .int .i64 ez, .slice dD dz dB, .slice cM cQ cL, .slice cU cW cX], .agg #[.int .i64 eG, .int .i64 gn, .int .i64 eB, .int .i64 ew, .int .i64 ey, .bool bX, .slice bS bQ bV, .bool cF, .slice cE cG cH, .int .i64 j3, .int .i64 jY, .slice dA dC dx, .slice cO cP cN, .slice cT cR cV]] w fun e w' => e = .returned (.bool false) ∧ Same w w' := by
 subst gG
 subst jx
 obtain ⟨bk, ji, cv⟩ := new2 w [.int .i64 bm, .int .i64 cr, .int .i64 br, .int .i64 bv, .int .i64 bD, .bool bP, .slice bW bR bT, .bool cD, .slice cB cC cz, .int .i64 fb, .int .i64 ez, .slice dD dz dB, .slice cM cQ cL, .slice cU cW cX] 49 [.int .i64 bm, .int .i64 cr, .int .i64 eB, .int .i64 ew, .int .i64 ey, .bool bX, .slice bS bQ bV, .bool cF, .slice cE cG cH, .int .i64 j3, .int .i64 jY, .slice dA dC dx, .slice cO cP cN, .slice cT cR cV] 49
 go_enter Tryz.func74, Tryz.ntmps74
 go_wp2
 go_ret
 exact ⟨rfl, bk.out⟩
theorem sameRecords_3 (bm cr br bv bD : Int) (bP : Bool) (bW : Option Addr) (bR bT : Nat) (cD : Bool) (cB : Option Addr) (cC cz : Nat) (fb ez : Int) (dD : Option Addr) (dz dB : Nat) (cM : Option Addr) (cQ cL : Nat) (cU : Option Addr) (cW cX : Nat) (eG gn eB ew ey : Int) (bX : Bool) (bS : Option Addr) (bQ bV : Nat) (cF : Bool) (cE : Option Addr) (cG cH : Nat) (j3 jY : Int) (dA : Option Addr) (dC dx : Nat) (cO : Option Addr) (cP cN : Nat) (cT : Option Addr) (cR cV : Nat) (w : World) (gG : bm = eG) (jx : cr = gn) (ig : br = eB) (iA : ¬ bv = ew) :
  Calls Tryz.prog 74 #[.agg #[.int .i64 bm, .int .i64 cr, .int .i64 br, .int .i64 bv, .int .i64 bD, .bool bP, .slice bW bR bT, .bool cD, .slice cB cC cz, .int .i64 fb, .int .i64 ez, .slice dD dz dB, .slice cM cQ cL, .slice cU cW cX], .agg #[.int .i64 eG, .int .i64 gn, .int .i64 eB, .int .i64 ew, .int .i64 ey, .bool bX, .slice bS bQ bV, .bool cF, .slice cE cG cH, .int .i64 j3, .int .i64 jY, .slice dA dC dx, .slice cO cP cN, .slice cT cR cV]] w fun e w' => e = .returned (.bool false) ∧ Same w w' := by
 subst gG
 subst jx
 subst ig
 obtain ⟨bk, ji, cv⟩ := new2 w [.int .i64 bm, .int .i64 cr, .int .i64 br, .int .i64 bv, .int .i64 bD, .bool bP, .slice bW bR bT, .bool cD, .slice cB cC cz, .int .i64 fb, .int .i64 ez, .slice dD dz dB, .slice cM cQ cL, .slice cU cW cX] 49 [.int .i64 bm, .int .i64 cr, .int .i64 br, .int .i64 ew, .int .i64 ey, .bool bX, .slice bS bQ bV, .bool cF, .slice cE cG cH, .int .i64 j3, .int .i64 jY, .slice dA dC dx, .slice cO cP cN, .slice cT cR cV] 49
 go_enter Tryz.func74, Tryz.ntmps74
 go_wp2
 go_ret
 exact ⟨rfl, bk.out⟩
theorem sameRecords_4 (bm cr br bv bD : Int) (bP : Bool) (bW : Option Addr) (bR bT : Nat) (cD : Bool) (cB : Option Addr) (cC cz : Nat) (fb ez : Int) (dD : Option Addr) (dz dB : Nat) (cM : Option Addr) (cQ cL : Nat) (cU : Option Addr) (cW cX : Nat) (eG gn eB ew ey : Int) (bX : Bool) (bS : Option Addr) (bQ bV : Nat) (cF : Bool) (cE : Option Addr) (cG cH : Nat) (j3 jY : Int) (dA : Option Addr) (dC dx : Nat) (cO : Option Addr) (cP cN : Nat) (cT : Option Addr) (cR cV : Nat) (w : World) (gG : bm = eG) (jx : cr = gn) (ig : br = eB) (iA : bv = ew) (i9 : ¬ bD = ey) :
  Calls Tryz.prog 74 #[.agg #[.int .i64 bm, .int .i64 cr, .int .i64 br, .int .i64 bv, .int .i64 bD, .bool bP, .slice bW bR bT, .bool cD, .slice cB cC cz, .int .i64 fb, .int .i64 ez, .slice dD dz dB, .slice cM cQ cL, .slice cU cW cX], .agg #[.int .i64 eG, .int .i64 gn, .int .i64 eB, .int .i64 ew, .int .i64 ey, .bool bX, .slice bS bQ bV, .bool cF, .slice cE cG cH, .int .i64 j3, .int .i64 jY, .slice dA dC dx, .slice cO cP cN, .slice cT cR cV]] w fun e w' => e = .returned (.bool false) ∧ Same w w' := by
 subst gG
 subst jx
 subst ig
 subst iA
 obtain ⟨bk, ji, cv⟩ := new2 w [.int .i64 bm, .int .i64 cr, .int .i64 br, .int .i64 bv, .int .i64 bD, .bool bP, .slice bW bR bT, .bool cD, .slice cB cC cz, .int .i64 fb, .int .i64 ez, .slice dD dz dB, .slice cM cQ cL, .slice cU cW cX] 49 [.int .i64 bm, .int .i64 cr, .int .i64 br, .int .i64 bv, .int .i64 ey, .bool bX, .slice bS bQ bV, .bool cF, .slice cE cG cH, .int .i64 j3, .int .i64 jY, .slice dA dC dx, .slice cO cP cN, .slice cT cR cV] 49
 go_enter Tryz.func74, Tryz.ntmps74
 go_wp2
 go_ret
 exact ⟨rfl, bk.out⟩
theorem sameRecords_5 (bm cr br bv bD : Int) (bP : Bool) (bW : Option Addr) (bR bT : Nat) (cD : Bool) (cB : Option Addr) (cC cz : Nat) (fb ez : Int) (dD : Option Addr) (dz dB : Nat) (cM : Option Addr) (cQ cL : Nat) (cU : Option Addr) (cW cX : Nat) (eG gn eB ew ey : Int) (bX : Bool) (bS : Option Addr) (bQ bV : Nat) (cF : Bool) (cE : Option Addr) (cG cH : Nat) (j3 jY : Int) (dA : Option Addr) (dC dx : Nat) (cO : Option Addr) (cP cN : Nat) (cT : Option Addr) (cR cV : Nat) (w : World) (gG : bm = eG) (jx : cr = gn) (ig : br = eB) (iA : bv = ew) (i9 : bD = ey) (al : ∀ wx, Same w wx → Calls Tryz.prog 94 #[.agg #[.bool bP, .slice bW bR bT], .agg #[.bool bX, .slice bS bQ bV]] wx fun e w' => e = .returned (.bool false) ∧ Same wx w') :
  Calls Tryz.prog 74 #[.agg #[.int .i64 bm, .int .i64 cr, .int .i64 br, .int .i64 bv, .int .i64 bD, .bool bP, .slice bW bR bT, .bool cD, .slice cB cC cz, .int .i64 fb, .int .i64 ez, .slice dD dz dB, .slice cM cQ cL, .slice cU cW cX], .agg #[.int .i64 eG, .int .i64 gn, .int .i64 eB, .int .i64 ew, .int .i64 ey, .bool bX, .slice bS bQ bV, .bool cF, .slice cE cG cH, .int .i64 j3, .int .i64 jY, .slice dA dC dx, .slice cO cP cN, .slice cT cR cV]] w fun e w' => e = .returned (.bool false) ∧ Same w w' := by
 subst gG
 subst jx
 subst ig
 subst iA
 subst i9
 obtain ⟨bk, ji, cv⟩ := new2 w [.int .i64 bm, .int .i64 cr, .int .i64 br, .int .i64 bv, .int .i64 bD, .bool bP, .slice bW bR bT, .bool cD, .slice cB cC cz, .int .i64 fb, .int .i64 ez, .slice dD dz dB, .slice cM cQ cL, .slice cU cW cX] 49 [.int .i64 bm, .int .i64 cr, .int .i64 br, .int .i64 bv, .int .i64 bD, .bool bX, .slice bS bQ bV, .bool cF, .slice cE cG cH, .int .i64 j3, .int .i64 jY, .slice dA dC dx, .slice cO cP cN, .slice cT cR cV] 49
 go_enter Tryz.func74, Tryz.ntmps74
 go_wp2_with fail
 refine (al _ bk.out).mono ?_
 rintro e w1 ⟨rfl, hk⟩
 have bq := hid (bk.out.trans hk)
 have fz := hid (ji.out.same hk)
 have bG := hid (cv.out.same hk)
 clear hk bk ji cv
 have mA := fz.out.c7
 have mB := fz.out.c8
 have mS := fz.out.c9
 have kR := fz.out.c10
 have kN := fz.out.c11
 have kT := fz.out.c12
 have kJ := fz.out.c13
 have mx := bG.out.c7
 have mr := bG.out.c8
 have ms := bG.out.c9
 have kY := bG.out.c10
 have kM := bG.out.c11
 have kX := bG.out.c12
 have kP := bG.out.c13
 go_wp2
 go_ret
 exact ⟨rfl, bq.out⟩
theorem sameRecords_6 (bm cr br bv bD : Int) (bP : Bool) (bW : Option Addr) (bR bT : Nat) (cD : Bool) (cB : Option Addr) (cC cz : Nat) (fb ez : Int) (dD : Option Addr) (dz dB : Nat) (cM : Option Addr) (cQ cL : Nat) (cU : Option Addr) (cW cX : Nat) (eG gn eB ew ey : Int) (bX : Bool) (bS : Option Addr) (bQ bV : Nat) (cF : Bool) (cE : Option Addr) (cG cH : Nat) (j3 jY : Int) (dA : Option Addr) (dC dx : Nat) (cO : Option Addr) (cP cN : Nat) (cT : Option Addr) (cR cV : Nat) (w : World) (gG : bm = eG) (jx : cr = gn) (ig : br = eB) (iA : bv = ew) (i9 : bD = ey) (al : ∀ wx, Same w wx → Calls Tryz.prog 94 #[.agg #[.bool bP, .slice bW bR bT], .agg #[.bool bX, .slice bS bQ bV]] wx fun e w' => e = .returned (.bool true) ∧ Same wx w') (aG : ∀ wx, Same w wx → Calls Tryz.prog 94 #[.agg #[.bool cD, .slice cB cC cz], .agg #[.bool cF, .slice cE cG cH]] wx fun e w' => e = .returned (.bool false) ∧ Same wx w') :
  Calls Tryz.prog 74 #[.agg #[.int .i64 bm, .int .i64 cr, .int .i64 br, .int .i64 bv, .int .i64 bD, .bool bP, .slice bW bR bT, .bool cD, .slice cB cC cz, .int .i64 fb, .int .i64 ez, .slice dD dz dB, .slice cM cQ cL, .slice cU cW cX], .agg #[.int .i64 eG, .int .i64 gn, .int .i64 eB, .int .i64 ew, .int .i64 ey, .bool bX, .slice bS bQ bV, .bool cF, .slice cE cG cH, .int .i64 j3, .int .i64 jY, .slice dA dC dx, .slice cO cP cN, .slice cT cR cV]] w fun e w' => e = .returned (.bool false) ∧ Same w w' := by
 subst gG
 subst jx
 subst ig
 subst iA
 subst i9
 obtain ⟨bk, ji, cv⟩ := new2 w [.int .i64 bm, .int .i64 cr, .int .i64 br, .int .i64 bv, .int .i64 bD, .bool bP, .slice bW bR bT, .bool cD, .slice cB cC cz, .int .i64 fb, .int .i64 ez, .slice dD dz dB, .slice cM cQ cL, .slice cU cW cX] 49 [.int .i64 bm, .int .i64 cr, .int .i64 br, .int .i64 bv, .int .i64 bD, .bool bX, .slice bS bQ bV, .bool cF, .slice cE cG cH, .int .i64 j3, .int .i64 jY, .slice dA dC dx, .slice cO cP cN, .slice cT cR cV] 49
 go_enter Tryz.func74, Tryz.ntmps74
 go_wp2_with fail
 refine (al _ bk.out).mono ?_
 rintro e w1 ⟨rfl, hk⟩
 have bq := hid (bk.out.trans hk)
 have fz := hid (ji.out.same hk)
 have bG := hid (cv.out.same hk)
 clear hk bk ji cv
 have mA := fz.out.c7
 have mB := fz.out.c8
 have mS := fz.out.c9
 have kR := fz.out.c10
 have kN := fz.out.c11
 have kT := fz.out.c12
 have kJ := fz.out.c13
 have mx := bG.out.c7
 have mr := bG.out.c8
 have ms := bG.out.c9
 have kY := bG.out.c10
 have kM := bG.out.c11
 have kX := bG.out.c12
 have kP := bG.out.c13
 go_wp2_with fail
 refine (aG _ bq.out).mono ?_
 rintro e w2 ⟨rfl, hk⟩
 have cw := hid (bq.out.trans hk)
 have fJ := hid (fz.out.same hk)
 have cx := hid (bG.out.same hk)
 clear hk bq fz bG
 have np := fJ.out.c9
 have lN := fJ.out.c10
 have lG := fJ.out.c11
 have lM := fJ.out.c12
 have lK := fJ.out.c13
 have nm := cx.out.c9
 have lF := cx.out.c10
 have lP := cx.out.c11
 have lH := cx.out.c12
 have lE := cx.out.c13
 go_wp2
 go_ret
 exact ⟨rfl, cw.out⟩
theorem sameRecords_7 (bm cr br bv bD : Int) (bP : Bool) (bW : Option Addr) (bR bT : Nat) (cD : Bool) (cB : Option Addr) (cC cz : Nat) (fb ez : Int) (dD : Option Addr) (dz dB : Nat) (cM : Option Addr) (cQ cL : Nat) (cU : Option Addr) (cW cX : Nat) (eG gn eB ew ey : Int) (bX : Bool) (bS : Option Addr) (bQ bV : Nat) (cF : Bool) (cE : Option Addr) (cG cH : Nat) (j3 jY : Int) (dA : Option Addr) (dC dx : Nat) (cO : Option Addr) (cP cN : Nat) (cT : Option Addr) (cR cV : Nat) (w : World) (gG : bm = eG) (jx : cr = gn) (ig : br = eB) (iA : bv = ew) (i9 : bD = ey) (tY : ¬ fb = j3) (al : ∀ wx, Same w wx → Calls Tryz.prog 94 #[.agg #[.bool bP, .slice bW bR bT], .agg #[.bool bX, .slice bS bQ bV]] wx fun e w' => e = .returned (.bool true) ∧ Same wx w') (aG : ∀ wx, Same w wx → Calls Tryz.prog 94 #[.agg #[.bool cD, .slice cB cC cz], .agg #[.bool cF, .slice cE cG cH]] wx fun e w' => e = .returned (.bool true) ∧ Same wx w') :
  Calls Tryz.prog 74 #[.agg #[.int .i64 bm, .int .i64 cr, .int .i64 br, .int .i64 bv, .int .i64 bD, .bool bP, .slice bW bR bT, .bool cD, .slice cB cC cz, .int .i64 fb, .int .i64 ez, .slice dD dz dB, .slice cM cQ cL, .slice cU cW cX], .agg #[.int .i64 eG, .int .i64 gn, .int .i64 eB, .int .i64 ew, .int .i64 ey, .bool bX, .slice bS bQ bV, .bool cF, .slice cE cG cH, .int .i64 j3, .int .i64 jY, .slice dA dC dx, .slice cO cP cN, .slice cT cR cV]] w fun e w' => e = .returned (.bool false) ∧ Same w w' := by
 subst gG
 subst jx
 subst ig
 subst iA
 subst i9
 obtain ⟨bk, ji, cv⟩ := new2 w [.int .i64 bm, .int .i64 cr, .int .i64 br, .int .i64 bv, .int .i64 bD, .bool bP, .slice bW bR bT, .bool cD, .slice cB cC cz, .int .i64 fb, .int .i64 ez, .slice dD dz dB, .slice cM cQ cL, .slice cU cW cX] 49 [.int .i64 bm, .int .i64 cr, .int .i64 br, .int .i64 bv, .int .i64 bD, .bool bX, .slice bS bQ bV, .bool cF, .slice cE cG cH, .int .i64 j3, .int .i64 jY, .slice dA dC dx, .slice cO cP cN, .slice cT cR cV] 49
 go_enter Tryz.func74, Tryz.ntmps74
 go_wp2_with fail
 refine (al _ bk.out).mono ?_
 rintro e w1 ⟨rfl, hk⟩
 have bq := hid (bk.out.trans hk)
 have fz := hid (ji.out.same hk)
 have bG := hid (cv.out.same hk)
 clear hk bk ji cv
 have mA := fz.out.c7
 have mB := fz.out.c8
 have mS := fz.out.c9
 have kR := fz.out.c10
 have kN := fz.out.c11
 have kT := fz.out.c12
 have kJ := fz.out.c13
 have mx := bG.out.c7
 have mr := bG.out.c8
 have ms := bG.out.c9
 have kY := bG.out.c10
 have kM := bG.out.c11
 have kX := bG.out.c12
 have kP := bG.out.c13
 go_wp2_with fail
 refine (aG _ bq.out).mono ?_
 rintro e w2 ⟨rfl, hk⟩
 have cw := hid (bq.out.trans hk)
 have fJ := hid (fz.out.same hk)
 have cx := hid (bG.out.same hk)
 clear hk bq fz bG
 have np := fJ.out.c9
 have lN := fJ.out.c10
 have lG := fJ.out.c11
 have lM := fJ.out.c12
 have lK := fJ.out.c13
 have nm := cx.out.c9
 have lF := cx.out.c10
 have lP := cx.out.c11
 have lH := cx.out.c12
 have lE := cx.out.c13
 go_wp2
 go_ret
 exact ⟨rfl, cw.out⟩
theorem sameRecords_8 (bm cr br bv bD : Int) (bP : Bool) (bW : Option Addr) (bR bT : Nat) (cD : Bool) (cB : Option Addr) (cC cz : Nat) (fb ez : Int) (dD : Option Addr) (dz dB : Nat) (cM : Option Addr) (cQ cL : Nat) (cU : Option Addr) (cW cX : Nat) (eG gn eB ew ey : Int) (bX : Bool) (bS : Option Addr) (bQ bV : Nat) (cF : Bool) (cE : Option Addr) (cG cH : Nat) (j3 jY : Int) (dA : Option Addr) (dC dx : Nat) (cO : Option Addr) (cP cN : Nat) (cT : Option Addr) (cR cV : Nat) (w : World) (gG : bm = eG) (jx : cr = gn) (ig : br = eB) (iA : bv = ew) (i9 : bD = ey) (tY : fb = j3) (xA : ¬ ez = jY) (al : ∀ wx, Same w wx → Calls Tryz.prog 94 #[.agg #[.bool bP, .slice bW bR bT], .agg #[.bool bX, .slice bS bQ bV]] wx fun e w' => e = .returned (.bool true) ∧ Same wx w') (aG : ∀ wx, Same w wx → Calls Tryz.prog 94 #[.agg #[.bool cD, .slice cB cC cz], .agg #[.bool cF, .slice cE cG cH]] wx fun e w' => e = .returned (.bool true) ∧ Same wx w') :
  Calls Tryz.prog 74 #[.agg #[.int .i64 bm, .int .i64 cr, .int .i64 br, .int .i64 bv, .int .i64 bD, .bool bP, .slice bW bR bT, .bool cD, .slice cB cC cz, .int .i64 fb, .int .i64 ez, .slice dD dz dB, .slice cM cQ cL, .slice cU cW cX], .agg #[.int .i64 eG, .int .i64 gn, .int .i64 eB, .int .i64 ew, .int .i64 ey, .bool bX, .slice bS bQ bV, .bool cF, .slice cE cG cH, .int .i64 j3, .int .i64 jY, .slice dA dC dx, .slice cO cP cN, .slice cT cR cV]] w fun e w' => e = .returned (.bool false) ∧ Same w w' := by
 subst gG
 subst jx
 subst ig
 subst iA
 subst i9
 subst tY
 obtain ⟨bk, ji, cv⟩ := new2 w [.int .i64 bm, .int .i64 cr, .int .i64 br, .int .i64 bv, .int .i64 bD, .bool bP, .slice bW bR bT, .bool cD, .slice cB cC cz, .int .i64 fb, .int .i64 ez, .slice dD dz dB, .slice cM cQ cL, .slice cU cW cX] 49 [.int .i64 bm, .int .i64 cr, .int .i64 br, .int .i64 bv, .int .i64 bD, .bool bX, .slice bS bQ bV, .bool cF, .slice cE cG cH, .int .i64 fb, .int .i64 jY, .slice dA dC dx, .slice cO cP cN, .slice cT cR cV] 49
 go_enter Tryz.func74, Tryz.ntmps74
 go_wp2_with fail
 refine (al _ bk.out).mono ?_
 rintro e w1 ⟨rfl, hk⟩
 have bq := hid (bk.out.trans hk)
 have fz := hid (ji.out.same hk)
 have bG := hid (cv.out.same hk)
 clear hk bk ji cv
 have mA := fz.out.c7
 have mB := fz.out.c8
 have mS := fz.out.c9
 have kR := fz.out.c10
 have kN := fz.out.c11
 have kT := fz.out.c12
 have kJ := fz.out.c13
 have mx := bG.out.c7
 have mr := bG.out.c8
 have ms := bG.out.c9
 have kY := bG.out.c10
 have kM := bG.out.c11
 have kX := bG.out.c12
 have kP := bG.out.c13
 go_wp2_with fail
 refine (aG _ bq.out).mono ?_
 rintro e w2 ⟨rfl, hk⟩
 have cw := hid (bq.out.trans hk)
 have fJ := hid (fz.out.same hk)
 have cx := hid (bG.out.same hk)
 clear hk bq fz bG
 have np := fJ.out.c9
 have lN := fJ.out.c10
 have lG := fJ.out.c11
 have lM := fJ.out.c12
 have lK := fJ.out.c13
 have nm := cx.out.c9
 have lF := cx.out.c10
 have lP := cx.out.c11
 have lH := cx.out.c12
 have lE := cx.out.c13
 go_wp2
 go_ret
 exact ⟨rfl, cw.out⟩
theorem sameRecords_9 (bm cr br bv bD : Int) (bP : Bool) (bW : Option Addr) (bR bT : Nat) (cD : Bool) (cB : Option Addr) (cC cz : Nat) (fb ez : Int) (dD : Option Addr) (dz dB : Nat) (cM : Option Addr) (cQ cL : Nat) (cU : Option Addr) (cW cX : Nat) (eG gn eB ew ey : Int) (bX : Bool) (bS : Option Addr) (bQ bV : Nat) (cF : Bool) (cE : Option Addr) (cG cH : Nat) (j3 jY : Int) (dA : Option Addr) (dC dx : Nat) (cO : Option Addr) (cP cN : Nat) (cT : Option Addr) (cR cV : Nat) (w : World) (gG : bm = eG) (jx : cr = gn) (ig : br = eB) (iA : bv = ew) (i9 : bD = ey) (tY : fb = j3) (xA : ez = jY) (al : ∀ wx, Same w wx → Calls Tryz.prog 94 #[.agg #[.bool bP, .slice bW bR bT], .agg #[.bool bX, .slice bS bQ bV]] wx fun e w' => e = .returned (.bool true) ∧ Same wx w') (aG : ∀ wx, Same w wx → Calls Tryz.prog 94 #[.agg #[.bool cD, .slice cB cC cz], .agg #[.bool cF, .slice cE cG cH]] wx fun e w' => e = .returned (.bool true) ∧ Same wx w') (dW : ∀ wx, Same w wx → Calls Tryz.prog 95 #[.slice dD dz dB, .slice dA dC dx] wx fun e w' => e = .returned (.bool false) ∧ Same wx w') :
  Calls Tryz.prog 74 #[.agg #[.int .i64 bm, .int .i64 cr, .int .i64 br, .int .i64 bv, .int .i64 bD, .bool bP, .slice bW bR bT, .bool cD, .slice cB cC cz, .int .i64 fb, .int .i64 ez, .slice dD dz dB, .slice cM cQ cL, .slice cU cW cX], .agg #[.int .i64 eG, .int .i64 gn, .int .i64 eB, .int .i64 ew, .int .i64 ey, .bool bX, .slice bS bQ bV, .bool cF, .slice cE cG cH, .int .i64 j3, .int .i64 jY, .slice dA dC dx, .slice cO cP cN, .slice cT cR cV]] w fun e w' => e = .returned (.bool false) ∧ Same w w' := by
 subst gG
 subst jx
 subst ig
 subst iA
 subst i9
 subst tY
 subst xA
 obtain ⟨bk, ji, cv⟩ := new2 w [.int .i64 bm, .int .i64 cr, .int .i64 br, .int .i64 bv, .int .i64 bD, .bool bP, .slice bW bR bT, .bool cD, .slice cB cC cz, .int .i64 fb, .int .i64 ez, .slice dD dz dB, .slice cM cQ cL, .slice cU cW cX] 49 [.int .i64 bm, .int .i64 cr, .int .i64 br, .int .i64 bv, .int .i64 bD, .bool bX, .slice bS bQ bV, .bool cF, .slice cE cG cH, .int .i64 fb, .int .i64 ez, .slice dA dC dx, .slice cO cP cN, .slice cT cR cV] 49
 go_enter Tryz.func74, Tryz.ntmps74
 go_wp2_with fail
 refine (al _ bk.out).mono ?_
 rintro e w1 ⟨rfl, hk⟩
 have bq := hid (bk.out.trans hk)
 have fz := hid (ji.out.same hk)
 have bG := hid (cv.out.same hk)
 clear hk bk ji cv
 have mA := fz.out.c7
 have mB := fz.out.c8
 have mS := fz.out.c9
 have kR := fz.out.c10
 have kN := fz.out.c11
 have kT := fz.out.c12
 have kJ := fz.out.c13
 have mx := bG.out.c7
 have mr := bG.out.c8
 have ms := bG.out.c9
 have kY := bG.out.c10
 have kM := bG.out.c11
 have kX := bG.out.c12
 have kP := bG.out.c13
 go_wp2_with fail
 refine (aG _ bq.out).mono ?_
 rintro e w2 ⟨rfl, hk⟩
 have cw := hid (bq.out.trans hk)
 have fJ := hid (fz.out.same hk)
 have cx := hid (bG.out.same hk)
 clear hk bq fz bG
 have np := fJ.out.c9
 have lN := fJ.out.c10
 have lG := fJ.out.c11
 have lM := fJ.out.c12
 have lK := fJ.out.c13
 have nm := cx.out.c9
 have lF := cx.out.c10
 have lP := cx.out.c11
 have lH := cx.out.c12
 have lE := cx.out.c13
 go_wp2_with fail
 refine (dW _ cw.out).mono ?_
 rintro e w3 ⟨rfl, hk⟩
 have dZ := hid (cw.out.trans hk)
 have oK := hid (fJ.out.same hk)
 have gv := hid (cx.out.same hk)
 clear hk cw fJ cx
 have pd := oK.out.c12
 have pC := oK.out.c13
 have pz := gv.out.c12
 have pA := gv.out.c13
 go_wp2
 go_ret
 exact ⟨rfl, dZ.out⟩
theorem sameRecords_10 (bm cr br bv bD : Int) (bP : Bool) (bW : Option Addr) (bR bT : Nat) (cD : Bool) (cB : Option Addr) (cC cz : Nat) (fb ez : Int) (dD : Option Addr) (dz dB : Nat) (cM : Option Addr) (cQ cL : Nat) (cU : Option Addr) (cW cX : Nat) (eG gn eB ew ey : Int) (bX : Bool) (bS : Option Addr) (bQ bV : Nat) (cF : Bool) (cE : Option Addr) (cG cH : Nat) (j3 jY : Int) (dA : Option Addr) (dC dx : Nat) (cO : Option Addr) (cP cN : Nat) (cT : Option Addr) (cR cV : Nat) (w : World) (gG : bm = eG) (jx : cr = gn) (ig : br = eB) (iA : bv = ew) (i9 : bD = ey) (tY : fb = j3) (xA : ez = jY) (al : ∀ wx, Same w wx → Calls Tryz.prog 94 #[.agg #[.bool bP, .slice bW bR bT], .agg #[.bool bX, .slice bS bQ bV]] wx fun e w' => e = .returned (.bool true) ∧ Same wx w') (aG : ∀ wx, Same w wx → Calls Tryz.prog 94 #[.agg #[.bool cD, .slice cB cC cz], .agg #[.bool cF, .slice cE cG cH]] wx fun e w' => e = .returned (.bool true) ∧ Same wx w') (dW : ∀ wx, Same w wx → Calls Tryz.prog 95 #[.slice dD dz dB, .slice dA dC dx] wx fun e w' => e = .returned (.bool true) ∧ Same wx w') (dQ : ∀ wx, Same w wx → Calls Tryz.prog 96 #[.slice cM cQ cL, .slice cO cP cN] wx fun e w' => e = .returned (.bool false) ∧ Same wx w') :
  Calls Tryz.prog 74 #[.agg #[.int .i64 bm, .int .i64 cr, .int .i64 br, .int .i64 bv, .int .i64 bD, .bool bP, .slice bW bR bT, .bool cD, .slice cB cC cz, .int .i64 fb, .int .i64 ez, .slice dD dz dB, .slice cM cQ cL, .slice cU cW cX], .agg #[.int .i64 eG, .int .i64 gn, .int .i64 eB, .int .i64 ew, .int .i64 ey, .bool bX, .slice bS bQ bV, .bool cF, .slice cE cG cH, .int .i64 j3, .int .i64 jY, .slice dA dC dx, .slice cO cP cN, .slice cT cR cV]] w fun e w' => e = .returned (.bool false) ∧ Same w w' := by
 subst gG
 subst jx
 subst ig
 subst iA
 subst i9
 subst tY
 subst xA
 obtain ⟨bk, ji, cv⟩ := new2 w [.int .i64 bm, .int .i64 cr, .int .i64 br, .int .i64 bv, .int .i64 bD, .bool bP, .slice bW bR bT, .bool cD, .slice cB cC cz, .int .i64 fb, .int .i64 ez, .slice dD dz dB, .slice cM cQ cL, .slice cU cW cX] 49 [.int .i64 bm, .int .i64 cr, .int .i64 br, .int .i64 bv, .int .i64 bD, .bool bX, .slice bS bQ bV, .bool cF, .slice cE cG cH, .int .i64 fb, .int .i64 ez, .slice dA dC dx, .slice cO cP cN, .slice cT cR cV] 49
 go_enter Tryz.func74, Tryz.ntmps74
 go_wp2_with fail
 refine (al _ bk.out).mono ?_
 rintro e w1 ⟨rfl, hk⟩
 have bq := hid (bk.out.trans hk)
 have fz := hid (ji.out.same hk)
 have bG := hid (cv.out.same hk)
 clear hk bk ji cv
 have mA := fz.out.c7
 have mB := fz.out.c8
 have mS := fz.out.c9
 have kR := fz.out.c10
 have kN := fz.out.c11
 have kT := fz.out.c12
 have kJ := fz.out.c13
 have mx := bG.out.c7
 have mr := bG.out.c8
 have ms := bG.out.c9
 have kY := bG.out.c10
 have kM := bG.out.c11
 have kX := bG.out.c12
 have kP := bG.out.c13
 go_wp2_with fail
 refine (aG _ bq.out).mono ?_
 rintro e w2 ⟨rfl, hk⟩
 have cw := hid (bq.out.trans hk)
 have fJ := hid (fz.out.same hk)
 have cx := hid (bG.out.same hk)
 clear hk bq fz bG
 have np := fJ.out.c9
 have lN := fJ.out.c10
 have lG := fJ.out.c11
 have lM := fJ.out.c12
 have lK := fJ.out.c13
 have nm := cx.out.c9
 have lF := cx.out.c10
 have lP := cx.out.c11
 have lH := cx.out.c12
 have lE := cx.out.c13
 go_wp2_with fail
 refine (dW _ cw.out).mono ?_
 rintro e w3 ⟨rfl, hk⟩
 have dZ := hid (cw.out.trans hk)
 have oK := hid (fJ.out.same hk)
 have gv := hid (cx.out.same hk)
 clear hk cw fJ cx
 have pd := oK.out.c12
 have pC := oK.out.c13
 have pz := gv.out.c12
 have pA := gv.out.c13
 go_wp2_with fail
 refine (dQ _ dZ.out).mono ?_
 rintro e w4 ⟨rfl, hk⟩
 have fA := hid (dZ.out.trans hk)
 have uB := hid (oK.out.same hk)
 have i5 := hid (gv.out.same hk)
 clear hk dZ oK gv
 have se := uB.out.c13
 have rB := i5.out.c13
 go_wp2
 go_ret
 exact ⟨rfl, fA.out⟩
theorem sameRecords_11 (bm cr br bv bD : Int) (bP : Bool) (bW : Option Addr) (bR bT : Nat) (cD : Bool) (cB : Option Addr) (cC cz : Nat) (fb ez : Int) (dD : Option Addr) (dz dB : Nat) (cM : Option Addr) (cQ cL : Nat) (cU : Option Addr) (cW cX : Nat) (eG gn eB ew ey : Int) (bX : Bool) (bS : Option Addr) (bQ bV : Nat) (cF : Bool) (cE : Option Addr) (cG cH : Nat) (j3 jY : Int) (dA : Option Addr) (dC dx : Nat) (cO : Option Addr) (cP cN : Nat) (cT : Option Addr) (cR cV : Nat) (w : World) (gG : bm = eG) (jx : cr = gn) (ig : br = eB) (iA : bv = ew) (i9 : bD = ey) (tY : fb = j3) (xA : ez = jY) (al : ∀ wx, Same w wx → Calls Tryz.prog 94 #[.agg #[.bool bP, .slice bW bR bT], .agg #[.bool bX, .slice bS bQ bV]] wx fun e w' => e = .returned (.bool true) ∧ Same wx w') (aG : ∀ wx, Same w wx → Calls Tryz.prog 94 #[.agg #[.bool cD, .slice cB cC cz], .agg #[.bool cF, .slice cE cG cH]] wx fun e w' => e = .returned (.bool true) ∧ Same wx w') (dW : ∀ wx, Same w wx → Calls Tryz.prog 95 #[.slice dD dz dB, .slice dA dC dx] wx fun e w' => e = .returned (.bool true) ∧ Same wx w') (dQ : ∀ wx, Same w wx → Calls Tryz.prog 96 #[.slice cM cQ cL, .slice cO cP cN] wx fun e w' => e = .returned (.bool true) ∧ Same wx w') (eS : ∀ wx, Same w wx → Calls Tryz.prog 97 #[.slice cU cW cX, .slice cT cR cV] wx fun e w' => e = .returned (.bool false) ∧ Same wx w') :
  Calls Tryz.prog 74 #[.agg #[.int .i64 bm, .int .i64 cr, .int .i64 br, .int .i64 bv, .int .i64 bD, .bool bP, .slice bW bR bT, .bool cD, .slice cB cC cz, .int .i64 fb, .int .i64 ez, .slice dD dz dB, .slice cM cQ cL, .slice cU cW cX], .agg #[.int .i64 eG, .int .i64 gn, .int .i64 eB, .int .i64 ew, .int .i64 ey, .bool bX, .slice bS bQ bV, .bool cF, .slice cE cG cH, .int .i64 j3, .int .i64 jY, .slice dA dC dx, .slice cO cP cN, .slice cT cR cV]] w fun e w' => e = .returned (.bool false) ∧ Same w w' := by
 subst gG
 subst jx
 subst ig
 subst iA
 subst i9
 subst tY
 subst xA
 obtain ⟨bk, ji, cv⟩ := new2 w [.int .i64 bm, .int .i64 cr, .int .i64 br, .int .i64 bv, .int .i64 bD, .bool bP, .slice bW bR bT, .bool cD, .slice cB cC cz, .int .i64 fb, .int .i64 ez, .slice dD dz dB, .slice cM cQ cL, .slice cU cW cX] 49 [.int .i64 bm, .int .i64 cr, .int .i64 br, .int .i64 bv, .int .i64 bD, .bool bX, .slice bS bQ bV, .bool cF, .slice cE cG cH, .int .i64 fb, .int .i64 ez, .slice dA dC dx, .slice cO cP cN, .slice cT cR cV] 49
 go_enter Tryz.func74, Tryz.ntmps74
 go_wp2_with fail
 refine (al _ bk.out).mono ?_
 rintro e w1 ⟨rfl, hk⟩
 have bq := hid (bk.out.trans hk)
 have fz := hid (ji.out.same hk)
 have bG := hid (cv.out.same hk)
 clear hk bk ji cv
 have mA := fz.out.c7
 have mB := fz.out.c8
 have mS := fz.out.c9
 have kR := fz.out.c10
 have kN := fz.out.c11
 have kT := fz.out.c12
 have kJ := fz.out.c13
 have mx := bG.out.c7
 have mr := bG.out.c8
 have ms := bG.out.c9
 have kY := bG.out.c10
 have kM := bG.out.c11
 have kX := bG.out.c12
 have kP := bG.out.c13
 go_wp2_with fail
 refine (aG _ bq.out).mono ?_
 rintro e w2 ⟨rfl, hk⟩
 have cw := hid (bq.out.trans hk)
 have fJ := hid (fz.out.same hk)
 have cx := hid (bG.out.same hk)
 clear hk bq fz bG
 have np := fJ.out.c9
 have lN := fJ.out.c10
 have lG := fJ.out.c11
 have lM := fJ.out.c12
 have lK := fJ.out.c13
 have nm := cx.out.c9
 have lF := cx.out.c10
 have lP := cx.out.c11
 have lH := cx.out.c12
 have lE := cx.out.c13
 go_wp2_with fail
 refine (dW _ cw.out).mono ?_
 rintro e w3 ⟨rfl, hk⟩
 have dZ := hid (cw.out.trans hk)
 have oK := hid (fJ.out.same hk)
 have gv := hid (cx.out.same hk)
 clear hk cw fJ cx
 have pd := oK.out.c12
 have pC := oK.out.c13
 have pz := gv.out.c12
 have pA := gv.out.c13
 go_wp2_with fail
 refine (dQ _ dZ.out).mono ?_
 rintro e w4 ⟨rfl, hk⟩
 have fA := hid (dZ.out.trans hk)
 have uB := hid (oK.out.same hk)
 have i5 := hid (gv.out.same hk)
 clear hk dZ oK gv
 have se := uB.out.c13
 have rB := i5.out.c13
 go_wp2_with fail
 refine (eS _ fA.out).mono ?_
 rintro e w5 ⟨rfl, hk⟩
 have fM := hid (fA.out.trans hk)
 have Bm := hid (uB.out.same hk)
 have jQ := hid (i5.out.same hk)
 clear hk fA uB i5
 go_wp2
 go_ret
 exact ⟨rfl, fM.out⟩
theorem sameRecords_12 (bm cr br bv bD : Int) (bP : Bool) (bW : Option Addr) (bR bT : Nat) (cD : Bool) (cB : Option Addr) (cC cz : Nat) (fb ez : Int) (dD : Option Addr) (dz dB : Nat) (cM : Option Addr) (cQ cL : Nat) (cU : Option Addr) (cW cX : Nat) (eG gn eB ew ey : Int) (bX : Bool) (bS : Option Addr) (bQ bV : Nat) (cF : Bool) (cE : Option Addr) (cG cH : Nat) (j3 jY : Int) (dA : Option Addr) (dC dx : Nat) (cO : Option Addr) (cP cN : Nat) (cT : Option Addr) (cR cV : Nat) (w : World) (gG : bm = eG) (jx : cr = gn) (ig : br = eB) (iA : bv = ew) (i9 : bD = ey) (tY : fb = j3) (xA : ez = jY) (al : ∀ wx, Same w wx → Calls Tryz.prog 94 #[.agg #[.bool bP, .slice bW bR bT], .agg #[.bool bX, .slice bS bQ bV]] wx fun e w' => e = .returned (.bool true) ∧ Same wx w') (aG : ∀ wx, Same w wx → Calls Tryz.prog 94 #[.agg #[.bool cD, .slice cB cC cz], .agg #[.bool cF, .slice cE cG cH]] wx fun e w' => e = .returned (.bool true) ∧ Same wx w') (dW : ∀ wx, Same w wx → Calls Tryz.prog 95 #[.slice dD dz dB, .slice dA dC dx] wx fun e w' => e = .returned (.bool true) ∧ Same wx w') (dQ : ∀ wx, Same w wx → Calls Tryz.prog 96 #[.slice cM cQ cL, .slice cO cP cN] wx fun e w' => e = .returned (.bool true) ∧ Same wx w') (eS : ∀ wx, Same w wx → Calls Tryz.prog 97 #[.slice cU cW cX, .slice cT cR cV] wx fun e w' => e = .returned (.bool true) ∧ Same wx w') :
  Calls Tryz.prog 74 #[.agg #[.int .i64 bm, .int .i64 cr, .int .i64 br, .int .i64 bv, .int .i64 bD, .bool bP, .slice bW bR bT, .bool cD, .slice cB cC cz, .int .i64 fb, .int .i64 ez, .slice dD dz dB, .slice cM cQ cL, .slice cU cW cX], .agg #[.int .i64 eG, .int .i64 gn, .int .i64 eB, .int .i64 ew, .int .i64 ey, .bool bX, .slice bS bQ bV, .bool cF, .slice cE cG cH, .int .i64 j3, .int .i64 jY, .slice dA dC dx, .slice cO cP cN, .slice cT cR cV]] w fun e w' => e = .returned (.bool true) ∧ Same w w' := by
 subst gG
 subst jx
 subst ig
 subst iA
 subst i9
 subst tY
 subst xA
 obtain ⟨bk, ji, cv⟩ := new2 w [.int .i64 bm, .int .i64 cr, .int .i64 br, .int .i64 bv, .int .i64 bD, .bool bP, .slice bW bR bT, .bool cD, .slice cB cC cz, .int .i64 fb, .int .i64 ez, .slice dD dz dB, .slice cM cQ cL, .slice cU cW cX] 49 [.int .i64 bm, .int .i64 cr, .int .i64 br, .int .i64 bv, .int .i64 bD, .bool bX, .slice bS bQ bV, .bool cF, .slice cE cG cH, .int .i64 fb, .int .i64 ez, .slice dA dC dx, .slice cO cP cN, .slice cT cR cV] 49
 go_enter Tryz.func74, Tryz.ntmps74
 go_wp2_with fail
 refine (al _ bk.out).mono ?_
 rintro e w1 ⟨rfl, hk⟩
 have bq := hid (bk.out.trans hk)
 have fz := hid (ji.out.same hk)
 have bG := hid (cv.out.same hk)
 clear hk bk ji cv
 have mA := fz.out.c7
 have mB := fz.out.c8
 have mS := fz.out.c9
 have kR := fz.out.c10
 have kN := fz.out.c11
 have kT := fz.out.c12
 have kJ := fz.out.c13
 have mx := bG.out.c7
 have mr := bG.out.c8
 have ms := bG.out.c9
 have kY := bG.out.c10
 have kM := bG.out.c11
 have kX := bG.out.c12
 have kP := bG.out.c13
 go_wp2_with fail
 refine (aG _ bq.out).mono ?_
 rintro e w2 ⟨rfl, hk⟩
 have cw := hid (bq.out.trans hk)
 have fJ := hid (fz.out.same hk)
 have cx := hid (bG.out.same hk)
 clear hk bq fz bG
 have np := fJ.out.c9
 have lN := fJ.out.c10
 have lG := fJ.out.c11
 have lM := fJ.out.c12
 have lK := fJ.out.c13
 have nm := cx.out.c9
 have lF := cx.out.c10
 have lP := cx.out.c11
 have lH := cx.out.c12
 have lE := cx.out.c13
 go_wp2_with fail
 refine (dW _ cw.out).mono ?_
 rintro e w3 ⟨rfl, hk⟩
 have dZ := hid (cw.out.trans hk)
 have oK := hid (fJ.out.same hk)
 have gv := hid (cx.out.same hk)
 clear hk cw fJ cx
 have pd := oK.out.c12
 have pC := oK.out.c13
 have pz := gv.out.c12
 have pA := gv.out.c13
 go_wp2_with fail
 refine (dQ _ dZ.out).mono ?_
 rintro e w4 ⟨rfl, hk⟩
 have fA := hid (dZ.out.trans hk)
 have uB := hid (oK.out.same hk)
 have i5 := hid (gv.out.same hk)
 clear hk dZ oK gv
 have se := uB.out.c13
 have rB := i5.out.c13
 go_wp2_with fail
 refine (eS _ fA.out).mono ?_
 rintro e w5 ⟨rfl, hk⟩
 have fM := hid (fA.out.trans hk)
 have Bm := hid (uB.out.same hk)
 have jQ := hid (i5.out.same hk)
 clear hk fA uB i5
 go_wp2
 go_ret
 exact ⟨rfl, fM.out⟩
end Go.Proofs.YtepdakgfioffgaaGreat
