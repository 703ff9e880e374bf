import Derived.Test.YtepdakgfioffgaaGreatG01
import Derived.Test.YtepdakgfioffgaaGreatG00
import Derived.Deep.DeepCutAuto
namespace Go.Proofs.YtepdakgfioffgaaGreat
set_option maxRecDepth 100000
set_option maxHeartbeats 16000000
set_option linter.unusedVariables false
set_option linter.unusedSimpArgs false
open Go.RowKit
structure StLogRecord where
 kind : Int
 txn : Int
 prev : Int
 page : Int
 slot : Int
 before : StPageRecord
 after : StPageRecord
 uN : Int
 nT : Int
 txns : FR
 dirty : FR
 image : BS
def StLogRecord.val (x : StLogRecord) : Value := .agg #[.int .i64 x.kind, .int .i64 x.txn, .int .i64 x.prev, .int .i64 x.page, .int .i64 x.slot, .bool x.before.used, x.before.data.v, .bool x.after.used, x.after.data.v, .int .i64 x.uN, .int .i64 x.nT, x.txns.v, x.dirty.v, x.image.v]
def StLogRecord.rows (x : StLogRecord) : List Row := x.before.rows ++ (x.after.rows ++ ((x.txns).rows 4 ++ ((x.dirty).rows 2 ++ (x.image.rows))))
def StLogRecord.dat (x : StLogRecord) : Int × Int × Int × Int × Int × (Bool × List Int) × (Bool × List Int) × Int × Int × List Int × List Int × List Int := (x.kind, x.txn, x.prev, x.page, x.slot, x.before.dat, x.after.dat, x.uN, x.nT, x.txns.bs, x.dirty.bs, x.image.bs)
def StLogRecord.size (x : StLogRecord) : Int := x.before.size + x.after.size + (x.txns.bs.length : Int) + (x.dirty.bs.length : Int) + (x.image.bs.length : Int)
theorem StLogRecord.size_le (x : StLogRecord) : 0 ≤ x.size := by
 unfold StLogRecord.size
 have h0 := x.before.size_le
 have h1 := x.after.size_le
 omega
def StLogRecord.marked (x : StLogRecord) (k : Int) : StLogRecord := ⟨x.kind, x.txn, x.prev, x.page, x.slot, x.before.marked (k), x.after.marked (k + x.before.size), x.uN, x.nT, x.txns.marked (k + x.before.size + x.after.size), x.dirty.marked (k + x.before.size + x.after.size + (x.txns.bs.length : Int)), x.image.marked (k + x.before.size + x.after.size + (x.txns.bs.length : Int) + (x.dirty.bs.length : Int))⟩
theorem StLogRecord.foot_marked (x : StLogRecord) (k : Int) (b : Nat) : FootL (x.marked k).rows b ↔ FootL x.rows b := by
 simp only [StLogRecord.rows, FootL_append]
 exact or_congr (StPageRecord.foot_marked _ _ b) (or_congr (StPageRecord.foot_marked _ _ b) (or_congr (FR.foot_marked 4 _ _ b) (or_congr (FR.foot_marked 2 _ _ b) (BS.foot_marked _ _ b))))
def StLogRecord.rd (w : World) (x : StLogRecord) : Prop := StPageRecord.rd w x.before ∧ StPageRecord.rd w x.after ∧ RdF 4 w x.txns ∧ RdF 2 w x.dirty ∧ Rd .u8 w x.image.v x.image.bs
theorem StLogRecord.rd.kept {R : Nat → Prop} {w w' : World} {x : StLogRecord} (h : StLogRecord.rd w x) (hk : Kept R w w') (hr : ∀ b, FootL x.rows b → ¬ R b) : StLogRecord.rd w' x :=
 ⟨StPageRecord.rd.kept (h.1) hk (fun b hb => hr b ((FootL_append _ _ _).2 (.inl hb))), StPageRecord.rd.kept (h.2.1) hk (fun b hb => hr b ((FootL_append _ _ _).2 (.inr ((FootL_append _ _ _).2 (.inl hb))))), RdF.kept (h.2.2.1) hk (fun b hb => hr b ((FootL_append _ _ _).2 (.inr ((FootL_append _ _ _).2 (.inr ((FootL_append _ _ _).2 (.inl ((FootL_one _ _).2 hb)))))))), RdF.kept (h.2.2.2.1) hk (fun b hb => hr b ((FootL_append _ _ _).2 (.inr ((FootL_append _ _ _).2 (.inr ((FootL_append _ _ _).2 (.inr ((FootL_append _ _ _).2 (.inl ((FootL_one _ _).2 hb)))))))))), Rd.kept (h.2.2.2.2) hk (fun b hb => hr b ((FootL_append _ _ _).2 (.inr ((FootL_append _ _ _).2 (.inr ((FootL_append _ _ _).2 (.inr ((FootL_append _ _ _).2 (.inr (((footL_ints _ _ _ _ _).2 hb)))))))))))⟩
theorem StLogRecord.rd.same {w w' : World} {x : StLogRecord} (h : StLogRecord.rd w x) (hk : Same w w') : StLogRecord.rd w' x := h.kept hk (fun _ _ => id)
theorem StLogRecord.own_rd {w : World} {x : StLogRecord} (h : OwnL w x.rows) : StLogRecord.rd w x :=
 ⟨(StPageRecord.own_rd h.left), (StPageRecord.own_rd h.right.left), (FR.own_rd h.right.right.left), (FR.own_rd h.right.right.right.left), (OwnL.of_one h.right.right.right.right).rd⟩
def StLogRecord.szs (x : StLogRecord) : Int := x.before.szs + x.after.szs + (x.txns.n : Int) + (x.dirty.n : Int) + (x.image.bs.length : Int)
theorem StLogRecord.szs_le (x : StLogRecord) : 0 ≤ x.szs := by
 unfold StLogRecord.szs
 have h0 := x.before.szs_le
 have h1 := x.after.szs_le
 omega
theorem eqLogRecord_own (x y : StLogRecord) (w : World) (hn : x.size ≤ 1125899906842624) (hd : x.dat = y.dat) (ha : OwnL w x.rows) (hb : OwnL w y.rows) :
  Calls Tryz.prog 84 #[x.val, y.val] w fun e w' => e = .returned (.bool true) ∧ Same w w' := by
 obtain ⟨bm, cr, br, bv, bD, ⟨jS, ⟨mz, gB, gA, fO⟩⟩, ⟨jT, ⟨mO, gx, gy, fN⟩⟩, fb, ez, ⟨qF, gZ, gF, ie, oP⟩, ⟨qu, hJ, gI, hU, ol⟩, ⟨zX, iu, ir, dT⟩⟩ := x
 obtain ⟨eG, gn, eB, ew, ey, ⟨U8, ⟨BO, uT, vg, T8⟩⟩, ⟨Vw, ⟨Cl, vf, ua, RN⟩⟩, j3, jY, ⟨Ez, uU, ts, ux, SB⟩, ⟨Eh, uM, sG, uQ, SJ⟩, ⟨HU, yK, Aa, SI⟩⟩ := y
 simp only [StLogRecord.dat, StPageRecord.dat, Prod.mk.injEq] at hd
 obtain ⟨rfl, rfl, rfl, rfl, rfl, ⟨rfl, rfl⟩, ⟨rfl, rfl⟩, rfl, rfl, rfl, rfl, rfl⟩ := hd
 simp only [StLogRecord.size, StPageRecord.size] at hn
 have yJ := (show Hid (OwnL w (StPageRecord.rows ⟨jS, ⟨mz, gB, gA, fO⟩⟩)) from ha.left)
 have yR := (show Hid (OwnL w (StPageRecord.rows ⟨jS, ⟨BO, uT, vg, fO⟩⟩)) from hb.left)
 have IR := (show Hid (OwnL w (StPageRecord.rows ⟨jT, ⟨mO, gx, gy, fN⟩⟩)) from ha.right.left)
 have Jl := (show Hid (OwnL w (StPageRecord.rows ⟨jT, ⟨Cl, vf, ua, fN⟩⟩)) from hb.right.left)
 have Je := (show Hid (OwnL w [⟨qF, 4, .slice gZ gF ie, gF, vals .i64 oP⟩]) from ha.right.right.left)
 have Jz := (show Hid (OwnL w [⟨Ez, 4, .slice uU ts ux, ts, vals .i64 oP⟩]) from hb.right.right.left)
 have T4 := (show Hid (OwnL w [⟨qu, 2, .slice hJ gI hU, gI, vals .i64 ol⟩]) from ha.right.right.right.left)
 have Se := (show Hid (OwnL w [⟨Eh, 2, .slice uM sG uQ, sG, vals .i64 ol⟩]) from hb.right.right.right.left)
 have Us := (show Hid (OwnL w [ints zX .u8 (.slice iu dT.length ir) dT]) from ha.right.right.right.right)
 have Tx := (show Hid (OwnL w [ints HU .u8 (.slice yK dT.length Aa) dT]) from hb.right.right.right.right)
 clear ha hb
 dsimp only [StLogRecord.val, StPageRecord.val, BS.v, FR.v]
 go_enter Tryz.func84, Tryz.ntmps84
 have ep : Same w ((w.alloc (.cells #[.int .i64 bm, .int .i64 cr, .int .i64 br, .int .i64 bv, .int .i64 bD, .bool jS, .slice gB fO.length gA, .bool jT, .slice gx fN.length gy, .int .i64 fb, .int .i64 ez, .slice gZ gF ie, .slice hJ gI hU, .slice iu dT.length ir] 49)).alloc (.cells #[.int .i64 bm, .int .i64 cr, .int .i64 br, .int .i64 bv, .int .i64 bD, .bool jS, .slice uT fO.length vg, .bool jT, .slice vf fN.length ua, .int .i64 fb, .int .i64 ez, .slice uU ts ux, .slice uM sG uQ, .slice yK dT.length Aa] 49)) := ((Kept.refl _ _).alloc _).alloc _
 have bk := (show Hid (Same w _) from ep)
 obtain ⟨_, mK, mR⟩ := new2 w [.int .i64 bm, .int .i64 cr, .int .i64 br, .int .i64 bv, .int .i64 bD, .bool jS, .slice gB fO.length gA, .bool jT, .slice gx fN.length gy, .int .i64 fb, .int .i64 ez, .slice gZ gF ie, .slice hJ gI hU, .slice iu dT.length ir] 49 [.int .i64 bm, .int .i64 cr, .int .i64 br, .int .i64 bv, .int .i64 bD, .bool jS, .slice uT fO.length vg, .bool jT, .slice vf fN.length ua, .int .i64 fb, .int .i64 ez, .slice uU ts ux, .slice uM sG uQ, .slice yK dT.length Aa] 49
 clear ep
 go_wp2_with fail
 refine (eqPageRecord_own ⟨jS, ⟨mz, gB, gA, fO⟩⟩ ⟨jS, ⟨BO, uT, vg, fO⟩⟩ _ (by simp only [StPageRecord.size]; omega) rfl (yJ.out.same bk.out) (yR.out.same bk.out)).mono ?_
 rintro e w1 ⟨rfl, hk⟩
 have bq := hid (bk.out.trans hk)
 have kr := hid (mK.out.same hk)
 have kp := hid (mR.out.same hk)
 clear hk bk mK mR
 have MQ := kr.out.c7
 have LS := kr.out.c8
 have OD := kr.out.c9
 have JH := kr.out.c10
 have Ji := kr.out.c11
 have Kf := kr.out.c12
 have Ht := kr.out.c13
 have QO := kp.out.c7
 have Nq := kp.out.c8
 have Ly := kp.out.c9
 have Hr := kp.out.c10
 have KF := kp.out.c11
 have Hp := kp.out.c12
 have Kz := kp.out.c13
 go_wp2_with fail
 refine (eqPageRecord_own ⟨jT, ⟨mO, gx, gy, fN⟩⟩ ⟨jT, ⟨Cl, vf, ua, fN⟩⟩ _ (by simp only [StPageRecord.size]; omega) rfl (IR.out.same bq.out) (Jl.out.same bq.out)).mono ?_
 rintro e w2 ⟨rfl, hk⟩
 have cw := hid (bq.out.trans hk)
 have mC := hid (kr.out.same hk)
 have mL := hid (kp.out.same hk)
 clear hk bq kr kp
 have PU := mC.out.c9
 have JY := mC.out.c10
 have F7 := mC.out.c11
 have Ix := mC.out.c12
 have I3 := mC.out.c13
 have Qn := mL.out.c9
 have Ha := mL.out.c10
 have Kh := mL.out.c11
 have FU := mL.out.c12
 have JV := mL.out.c13
 go_wp2_with fail
 refine (eqTxnEntryS_own ⟨qF, gZ, gF, ie, oP⟩ ⟨Ez, uU, ts, ux, oP⟩ _ (by dsimp only; omega) rfl (Je.out.same cw.out) (Jz.out.same cw.out)).mono ?_
 rintro e w3 ⟨rfl, hk⟩
 have dZ := hid (cw.out.trans hk)
 have sN := hid (mC.out.same hk)
 have rM := hid (mL.out.same hk)
 clear hk cw mC mL
 have H2 := sN.out.c12
 have GI := sN.out.c13
 have Ib := rM.out.c12
 have Gy := rM.out.c13
 go_wp2_with fail
 refine (eqDirtyEntryS_own ⟨qu, hJ, gI, hU, ol⟩ ⟨Eh, uM, sG, uQ, ol⟩ _ (by dsimp only; omega) rfl (T4.out.same dZ.out) (Se.out.same dZ.out)).mono ?_
 rintro e w4 ⟨rfl, hk⟩
 have fA := hid (dZ.out.trans hk)
 have zO := hid (sN.out.same hk)
 have Ae := hid (rM.out.same hk)
 clear hk dZ sN rM
 have Ic := zO.out.c13
 have GD := Ae.out.c13
 go_wp2_with fail
 refine (eqByteS_own 0 _ _ dT _ (by omega) (Us.out.of_one.same fA.out) (Tx.out.of_one.same fA.out)).mono ?_
 rintro e w5 ⟨rfl, nn, oJ⟩
 have hk : Same w4 w5 := by rw [oJ]; exact (Kept.refl _ _).drewN _
 clear oJ
 have fM := hid (fA.out.trans hk)
 have TX := hid (zO.out.same hk)
 have Ua := hid (Ae.out.same hk)
 clear hk fA zO Ae
 go_wp2
 go_ret
 exact ⟨rfl, fM.out⟩
theorem szLogRecord_any (x : StLogRecord) (left : Int) (w : World) (h0 : 0 ≤ left) (h1 : left ≤ 1048576) (ha : StLogRecord.rd w x) :
  Calls Tryz.prog 67 #[x.val, .int .i64 left] w fun e w' => ∃ r : Int, e = .returned (.int .i64 r) ∧ (r = -1 ∨ (r = left - x.szs ∧ 0 ≤ r)) ∧ Same w w' := by
 obtain ⟨bm, cr, br, bv, bD, ⟨jS, ⟨mz, gB, gA, fO⟩⟩, ⟨jT, ⟨mO, gx, gy, fN⟩⟩, fb, ez, ⟨qF, gZ, gF, ie, oP⟩, ⟨qu, hJ, gI, hU, ol⟩, ⟨zX, iu, ir, dT⟩⟩ := x
 have pf := (show Hid (StPageRecord.rd w ⟨jS, ⟨mz, gB, gA, fO⟩⟩) from ha.1)
 have KM := (show Hid (StPageRecord.rd w ⟨jT, ⟨mO, gx, gy, fN⟩⟩) from ha.2.1)
 have Sn : gF ≤ maxLen := (ha.2.2.1).1
 have SK : gI ≤ maxLen := (ha.2.2.2.1).1
 have SH : dT.length ≤ maxLen := (ha.2.2.2.2).1
 clear ha
 dsimp only [StLogRecord.val, StPageRecord.val, BS.v, FR.v]
 go_enter Tryz.func67, Tryz.ntmps67
 obtain ⟨bk, cv⟩ := new1 w [.int .i64 bm, .int .i64 cr, .int .i64 br, .int .i64 bv, .int .i64 bD, .bool jS, .slice gB fO.length gA, .bool jT, .slice gx fN.length gy, .int .i64 fb, .int .i64 ez, .slice gZ gF ie, .slice hJ gI hU, .slice iu dT.length ir] 82
 go_wp2_with fail
 refine (szPageRecord_any ⟨jS, ⟨mz, gB, gA, fO⟩⟩ left _ (by omega) (by omega) (pf.out.same bk.out)).mono ?_
 rintro e w1 ⟨r1, rfl, hr, hk⟩
 have rx := StPageRecord.szs_le ⟨jS, ⟨mz, gB, gA, fO⟩⟩
 have bq := hid (bk.out.trans hk)
 have bG := hid (cv.out.same hk)
 clear hk
 rcases hr with rfl | ⟨hr, pR⟩
 ·go_wp2
  go_ret
  exact ⟨_, rfl, .inl rfl, bq.out⟩
 have C0 : r1 ≤ 1048576 := by omega
 have nk := (show Hid (_ = _) from hr)
 clear hr
 have Ul := bG.out.c7
 have Sl := bG.out.c8
 have Oi := bG.out.c11
 have KS := bG.out.c12
 have Mg := bG.out.c13
 go_wp2_with fail
 refine (szPageRecord_any ⟨jT, ⟨mO, gx, gy, fN⟩⟩ r1 _ (by omega) (by omega) (KM.out.same bq.out)).mono ?_
 rintro e w2 ⟨r2, rfl, hr, hk⟩
 have IX := StPageRecord.szs_le ⟨jT, ⟨mO, gx, gy, fN⟩⟩
 have cw := hid (bq.out.trans hk)
 have cx := hid (bG.out.same hk)
 clear hk
 rcases hr with rfl | ⟨hr, jR⟩
 ·go_wp2
  go_ret
  exact ⟨_, rfl, .inl rfl, cw.out⟩
 have T1 : r2 ≤ 1048576 := by omega
 have i7 := (show Hid (_ = _) from hr)
 clear hr
 have dm := cx.out.c11
 have dp := cx.out.c12
 have dr := cx.out.c13
 go_wp2_with fail
 refine (szTxnEntryS_any _ _ _ r2 _ (by omega) (by omega) Sn).mono ?_
 rintro e w3 ⟨r3, rfl, hr, oJ⟩
 have hk : Same w2 w3 := by rw [oJ]; exact Kept.refl _ _
 clear oJ
 replace hr : r3 = -1 ∨ (r3 = r2 - gF ∧ 0 ≤ r3) := by omega
 have dZ := hid (cw.out.trans hk)
 have gv := hid (cx.out.same hk)
 clear hk
 rcases hr with rfl | ⟨hr, M3⟩
 ·go_wp2
  go_ret
  exact ⟨_, rfl, .inl rfl, dZ.out⟩
 have Tm : r3 ≤ 1048576 := by omega
 have mG := (show Hid (_ = _) from hr)
 clear hr
 have ek := gv.out.c12
 have eu := gv.out.c13
 go_wp2_with fail
 refine (szDirtyEntryS_any _ _ _ r3 _ (by omega) (by omega) SK).mono ?_
 rintro e w4 ⟨r4, rfl, hr, oJ⟩
 have hk : Same w3 w4 := by rw [oJ]; exact Kept.refl _ _
 clear oJ
 replace hr : r4 = -1 ∨ (r4 = r3 - gI ∧ 0 ≤ r4) := by omega
 have fA := hid (dZ.out.trans hk)
 have i5 := hid (gv.out.same hk)
 clear hk
 rcases hr with rfl | ⟨hr, Pk⟩
 ·go_wp2
  go_ret
  exact ⟨_, rfl, .inl rfl, fA.out⟩
 have UI : r4 ≤ 1048576 := by omega
 have qy := (show Hid (_ = _) from hr)
 clear hr
 have Nl := i5.out.c13
 go_wp2_with fail
 refine (szByteS_any _ _ _ r4 _ (by omega) (by omega) SH).mono ?_
 rintro e w5 ⟨r5, rfl, hr, oJ⟩
 have hk : Same w4 w5 := by rw [oJ]; exact Kept.refl _ _
 clear oJ
 replace hr : r5 = -1 ∨ (r5 = r4 - dT.length ∧ 0 ≤ r5) := by omega
 have fM := hid (fA.out.trans hk)
 have jQ := hid (i5.out.same hk)
 clear hk
 rcases hr with rfl | ⟨hr, yP⟩
 ·go_wp2
  go_ret
  exact ⟨_, rfl, .inl rfl, fM.out⟩
 have SO : r5 ≤ 1048576 := by omega
 have ma := (show Hid (_ = _) from hr)
 clear hr
 go_wp2
 go_ret
 exact ⟨_, rfl, .inr ⟨by have e1 := nk.out; have e2 := i7.out; have e3 := mG.out; have e4 := qy.out; have e5 := ma.out; simp only [StLogRecord.szs]; omega, yP⟩, fM.out⟩
theorem toLogRecord_any (x : StLogRecord) (w : World) (hn : x.szs ≤ 1073741824) (ha : StLogRecord.rd w x) :
  Calls Tryz.prog 72 #[x.val] w fun e w' => ∃ y : StLogRecord, e = .returned y.val ∧ y.dat = x.dat ∧ y.szs = x.szs ∧ (∀ b, FootL y.rows b → w.heap.size ≤ b) ∧ OwnL w' y.rows ∧ Same w w' := by
 obtain ⟨bm, cr, br, bv, bD, ⟨jS, ⟨mz, gB, gA, fO⟩⟩, ⟨jT, ⟨mO, gx, gy, fN⟩⟩, fb, ez, ⟨qF, gZ, gF, ie, oP⟩, ⟨qu, hJ, gI, hU, ol⟩, ⟨zX, iu, ir, dT⟩⟩ := x
 have pf := (show Hid (StPageRecord.rd w ⟨jS, ⟨mz, gB, gA, fO⟩⟩) from ha.1)
 have KM := (show Hid (StPageRecord.rd w ⟨jT, ⟨mO, gx, gy, fN⟩⟩) from ha.2.1)
 have Sj := (show Hid (RdF 4 w ⟨qF, gZ, gF, ie, oP⟩) from ha.2.2.1)
 have SE := (show Hid (RdF 2 w ⟨qu, hJ, gI, hU, ol⟩) from ha.2.2.2.1)
 have Rh := (show Hid (Rd .u8 w (.slice iu dT.length ir) dT) from ha.2.2.2.2)
 clear ha
 simp only [StLogRecord.szs] at hn
 have rx := StPageRecord.szs_le ⟨jS, ⟨mz, gB, gA, fO⟩⟩
 have IX := StPageRecord.szs_le ⟨jT, ⟨mO, gx, gy, fN⟩⟩
 dsimp only [StLogRecord.val, StPageRecord.val, BS.v, FR.v]
 go_enter Tryz.func72, Tryz.ntmps72
 have ep : Same w (((w.alloc (.cells #[.int .i64 bm, .int .i64 cr, .int .i64 br, .int .i64 bv, .int .i64 bD, .bool jS, .slice gB fO.length gA, .bool jT, .slice gx fN.length gy, .int .i64 fb, .int .i64 ez, .slice gZ gF ie, .slice hJ gI hU, .slice iu dT.length ir] 82)).alloc (.cells #[.int .i64 0, .int .i64 0, .int .i64 0, .int .i64 0, .int .i64 0, .bool false, .slice none 0 0, .bool false, .slice none 0 0, .int .i64 0, .int .i64 0, .slice none 0 0, .slice none 0 0, .slice none 0 0] 49)).alloc (.cells #[.int .i64 bm, .int .i64 cr, .int .i64 br, .int .i64 bv, .int .i64 bD, .bool false, .slice none 0 0, .bool false, .slice none 0 0, .int .i64 0, .int .i64 0, .slice none 0 0, .slice none 0 0, .slice none 0 0] 49)) := (((Kept.refl _ _).alloc _).alloc _).alloc _
 have b0 : Blk (((w.alloc (.cells #[.int .i64 bm, .int .i64 cr, .int .i64 br, .int .i64 bv, .int .i64 bD, .bool jS, .slice gB fO.length gA, .bool jT, .slice gx fN.length gy, .int .i64 fb, .int .i64 ez, .slice gZ gF ie, .slice hJ gI hU, .slice iu dT.length ir] 82)).alloc (.cells #[.int .i64 0, .int .i64 0, .int .i64 0, .int .i64 0, .int .i64 0, .bool false, .slice none 0 0, .bool false, .slice none 0 0, .int .i64 0, .int .i64 0, .slice none 0 0, .slice none 0 0, .slice none 0 0] 49)).alloc (.cells #[.int .i64 bm, .int .i64 cr, .int .i64 br, .int .i64 bv, .int .i64 bD, .bool false, .slice none 0 0, .bool false, .slice none 0 0, .int .i64 0, .int .i64 0, .slice none 0 0, .slice none 0 0, .slice none 0 0] 49)) (w.heap.size) 82 [.int .i64 bm, .int .i64 cr, .int .i64 br, .int .i64 bv, .int .i64 bD, .bool jS, .slice gB fO.length gA, .bool jT, .slice gx fN.length gy, .int .i64 fb, .int .i64 ez, .slice gZ gF ie, .slice hJ gI hU, .slice iu dT.length ir] := ((Blk.new w #[.int .i64 bm, .int .i64 cr, .int .i64 br, .int .i64 bv, .int .i64 bD, .bool jS, .slice gB fO.length gA, .bool jT, .slice gx fN.length gy, .int .i64 fb, .int .i64 ez, .slice gZ gF ie, .slice hJ gI hU, .slice iu dT.length ir] 82).alloc _).alloc _
 have b1 : Blk (((w.alloc (.cells #[.int .i64 bm, .int .i64 cr, .int .i64 br, .int .i64 bv, .int .i64 bD, .bool jS, .slice gB fO.length gA, .bool jT, .slice gx fN.length gy, .int .i64 fb, .int .i64 ez, .slice gZ gF ie, .slice hJ gI hU, .slice iu dT.length ir] 82)).alloc (.cells #[.int .i64 0, .int .i64 0, .int .i64 0, .int .i64 0, .int .i64 0, .bool false, .slice none 0 0, .bool false, .slice none 0 0, .int .i64 0, .int .i64 0, .slice none 0 0, .slice none 0 0, .slice none 0 0] 49)).alloc (.cells #[.int .i64 bm, .int .i64 cr, .int .i64 br, .int .i64 bv, .int .i64 bD, .bool false, .slice none 0 0, .bool false, .slice none 0 0, .int .i64 0, .int .i64 0, .slice none 0 0, .slice none 0 0, .slice none 0 0] 49)) (w.heap.size + 1) 49 [.int .i64 0, .int .i64 0, .int .i64 0, .int .i64 0, .int .i64 0, .bool false, .slice none 0 0, .bool false, .slice none 0 0, .int .i64 0, .int .i64 0, .slice none 0 0, .slice none 0 0, .slice none 0 0] := by have h := (Blk.new (w.alloc (.cells #[.int .i64 bm, .int .i64 cr, .int .i64 br, .int .i64 bv, .int .i64 bD, .bool jS, .slice gB fO.length gA, .bool jT, .slice gx fN.length gy, .int .i64 fb, .int .i64 ez, .slice gZ gF ie, .slice hJ gI hU, .slice iu dT.length ir] 82)) #[.int .i64 0, .int .i64 0, .int .i64 0, .int .i64 0, .int .i64 0, .bool false, .slice none 0 0, .bool false, .slice none 0 0, .int .i64 0, .int .i64 0, .slice none 0 0, .slice none 0 0, .slice none 0 0] 49).alloc (.cells #[.int .i64 bm, .int .i64 cr, .int .i64 br, .int .i64 bv, .int .i64 bD, .bool false, .slice none 0 0, .bool false, .slice none 0 0, .int .i64 0, .int .i64 0, .slice none 0 0, .slice none 0 0, .slice none 0 0] 49); rwa [World.size_alloc] at h
 have b2 : Blk (((w.alloc (.cells #[.int .i64 bm, .int .i64 cr, .int .i64 br, .int .i64 bv, .int .i64 bD, .bool jS, .slice gB fO.length gA, .bool jT, .slice gx fN.length gy, .int .i64 fb, .int .i64 ez, .slice gZ gF ie, .slice hJ gI hU, .slice iu dT.length ir] 82)).alloc (.cells #[.int .i64 0, .int .i64 0, .int .i64 0, .int .i64 0, .int .i64 0, .bool false, .slice none 0 0, .bool false, .slice none 0 0, .int .i64 0, .int .i64 0, .slice none 0 0, .slice none 0 0, .slice none 0 0] 49)).alloc (.cells #[.int .i64 bm, .int .i64 cr, .int .i64 br, .int .i64 bv, .int .i64 bD, .bool false, .slice none 0 0, .bool false, .slice none 0 0, .int .i64 0, .int .i64 0, .slice none 0 0, .slice none 0 0, .slice none 0 0] 49)) (w.heap.size + 1 + 1) 49 [.int .i64 bm, .int .i64 cr, .int .i64 br, .int .i64 bv, .int .i64 bD, .bool false, .slice none 0 0, .bool false, .slice none 0 0, .int .i64 0, .int .i64 0, .slice none 0 0, .slice none 0 0, .slice none 0 0] := by have h := Blk.new ((w.alloc (.cells #[.int .i64 bm, .int .i64 cr, .int .i64 br, .int .i64 bv, .int .i64 bD, .bool jS, .slice gB fO.length gA, .bool jT, .slice gx fN.length gy, .int .i64 fb, .int .i64 ez, .slice gZ gF ie, .slice hJ gI hU, .slice iu dT.length ir] 82)).alloc (.cells #[.int .i64 0, .int .i64 0, .int .i64 0, .int .i64 0, .int .i64 0, .bool false, .slice none 0 0, .bool false, .slice none 0 0, .int .i64 0, .int .i64 0, .slice none 0 0, .slice none 0 0, .slice none 0 0] 49)) #[.int .i64 bm, .int .i64 cr, .int .i64 br, .int .i64 bv, .int .i64 bD, .bool false, .slice none 0 0, .bool false, .slice none 0 0, .int .i64 0, .int .i64 0, .slice none 0 0, .slice none 0 0, .slice none 0 0] 49; rwa [World.size_alloc, World.size_alloc] at h
 have i1 : (((w.alloc (.cells #[.int .i64 bm, .int .i64 cr, .int .i64 br, .int .i64 bv, .int .i64 bD, .bool jS, .slice gB fO.length gA, .bool jT, .slice gx fN.length gy, .int .i64 fb, .int .i64 ez, .slice gZ gF ie, .slice hJ gI hU, .slice iu dT.length ir] 82)).alloc (.cells #[.int .i64 0, .int .i64 0, .int .i64 0, .int .i64 0, .int .i64 0, .bool false, .slice none 0 0, .bool false, .slice none 0 0, .int .i64 0, .int .i64 0, .slice none 0 0, .slice none 0 0, .slice none 0 0] 49)).alloc (.cells #[.int .i64 bm, .int .i64 cr, .int .i64 br, .int .i64 bv, .int .i64 bD, .bool false, .slice none 0 0, .bool false, .slice none 0 0, .int .i64 0, .int .i64 0, .slice none 0 0, .slice none 0 0, .slice none 0 0] 49)).heap.size = w.heap.size + 1 + 1 + 1 := by simp only [World.size_alloc]
 go_wp2_with fail
 refine (toPageRecord_any ⟨jS, ⟨mz, gB, gA, fO⟩⟩ _ (by omega) (pf.out.same ep)).mono ?_
 rintro e w1 ⟨⟨cK, ⟨dq, bM, bK, bL⟩⟩, rfl, jB, j9, hg, O0, hk⟩
 have ry := (show Hid (StPageRecord.szs ⟨cK, ⟨dq, bM, bK, bL⟩⟩ = StPageRecord.szs ⟨jS, ⟨mz, gB, gA, fO⟩⟩) from j9)
 clear j9
 have F0 : ∀ b, FootL (StPageRecord.rows ⟨cK, ⟨dq, bM, bK, bL⟩⟩) b → w.heap.size + 1 + 1 < b := fun b hb => by have h := hg b hb; omega
 dsimp only [StPageRecord.val, BS.v]
 have bg : Same w w1 := ep.trans hk
 replace b0 : Blk w1 (w.heap.size) 82 [.int .i64 bm, .int .i64 cr, .int .i64 br, .int .i64 bv, .int .i64 bD, .bool jS, .slice gB fO.length gA, .bool jT, .slice gx fN.length gy, .int .i64 fb, .int .i64 ez, .slice gZ gF ie, .slice hJ gI hU, .slice iu dT.length ir] := b0.same hk
 replace b1 : Blk w1 (w.heap.size + 1) 49 [.int .i64 0, .int .i64 0, .int .i64 0, .int .i64 0, .int .i64 0, .bool false, .slice none 0 0, .bool false, .slice none 0 0, .int .i64 0, .int .i64 0, .slice none 0 0, .slice none 0 0, .slice none 0 0] := b1.same hk
 replace b2 : Blk w1 (w.heap.size + 1 + 1) 49 [.int .i64 bm, .int .i64 cr, .int .i64 br, .int .i64 bv, .int .i64 bD, .bool false, .slice none 0 0, .bool false, .slice none 0 0, .int .i64 0, .int .i64 0, .slice none 0 0, .slice none 0 0, .slice none 0 0] := b2.same hk
 replace i1 : w.heap.size + 1 + 1 + 1 ≤ w1.heap.size := by have := hk.size; omega
 clear hk hg
 have xQ := b0.c0
 have qg := b1.c0
 have vJ : w1.frozen? ⟨w.heap.size + 1, 0, none⟩ = false := b1.frozen 0
 have vr := b2.c0
 have wD : w1.frozen? ⟨w.heap.size + 1 + 1, 0, none⟩ = false := b2.frozen 0
 have wL := b0.c1
 have qf := b1.c1
 have vG : w1.frozen? ⟨w.heap.size + 1, 1, none⟩ = false := b1.frozen 1
 have vC := b2.c1
 have vl : w1.frozen? ⟨w.heap.size + 1 + 1, 1, none⟩ = false := b2.frozen 1
 have A5 := b0.c2
 have vL := b1.c2
 have DD : w1.frozen? ⟨w.heap.size + 1, 2, none⟩ = false := b1.frozen 2
 have B8 := b2.c2
 have D5 : w1.frozen? ⟨w.heap.size + 1 + 1, 2, none⟩ = false := b2.frozen 2
 have En := b0.c3
 have wC := b1.c3
 have BR : w1.frozen? ⟨w.heap.size + 1, 3, none⟩ = false := b1.frozen 3
 have Cp := b2.c3
 have CU : w1.frozen? ⟨w.heap.size + 1 + 1, 3, none⟩ = false := b2.frozen 3
 have BQ := b0.c4
 have xi := b1.c4
 have Db : w1.frozen? ⟨w.heap.size + 1, 4, none⟩ = false := b1.frozen 4
 have CQ := b2.c4
 have Dg : w1.frozen? ⟨w.heap.size + 1 + 1, 4, none⟩ = false := b2.frozen 4
 have El := b0.c5
 have wo := b1.c5
 have Cv : w1.frozen? ⟨w.heap.size + 1, 5, none⟩ = false := b1.frozen 5
 have Dw := b2.c5
 have Dj : w1.frozen? ⟨w.heap.size + 1 + 1, 5, none⟩ = false := b2.frozen 5
 have C3 := b0.c6
 have xo := b1.c6
 have Ck : w1.frozen? ⟨w.heap.size + 1, 6, none⟩ = false := b1.frozen 6
 have C4 := b2.c6
 have C6 : w1.frozen? ⟨w.heap.size + 1 + 1, 6, none⟩ = false := b2.frozen 6
 have B7 := b0.c7
 have xJ := b1.c7
 have DL : w1.frozen? ⟨w.heap.size + 1, 7, none⟩ = false := b1.frozen 7
 have BA := b2.c7
 have Bn : w1.frozen? ⟨w.heap.size + 1 + 1, 7, none⟩ = false := b2.frozen 7
 have Ce := b0.c8
 have vD := b1.c8
 have Du : w1.frozen? ⟨w.heap.size + 1, 8, none⟩ = false := b1.frozen 8
 have A4 := b2.c8
 have CJ : w1.frozen? ⟨w.heap.size + 1 + 1, 8, none⟩ = false := b2.frozen 8
 have Ex := b0.c9
 have xd := b1.c9
 have Dv : w1.frozen? ⟨w.heap.size + 1, 9, none⟩ = false := b1.frozen 9
 have D1 := b2.c9
 have Ca : w1.frozen? ⟨w.heap.size + 1 + 1, 9, none⟩ = false := b2.frozen 9
 have yD := b0.c10
 have sX := b1.c10
 have zy : w1.frozen? ⟨w.heap.size + 1, 10, none⟩ = false := b1.frozen 10
 have xZ := b2.c10
 have zw : w1.frozen? ⟨w.heap.size + 1 + 1, 10, none⟩ = false := b2.frozen 10
 have zn := b0.c11
 have sK := b1.c11
 have ze : w1.frozen? ⟨w.heap.size + 1, 11, none⟩ = false := b1.frozen 11
 have Ad := b2.c11
 have zK : w1.frozen? ⟨w.heap.size + 1 + 1, 11, none⟩ = false := b2.frozen 11
 have yg := b0.c12
 have s4 := b1.c12
 have zr : w1.frozen? ⟨w.heap.size + 1, 12, none⟩ = false := b1.frozen 12
 have zT := b2.c12
 have yz : w1.frozen? ⟨w.heap.size + 1 + 1, 12, none⟩ = false := b2.frozen 12
 have yM := b0.c13
 have rW := b1.c13
 have zP : w1.frozen? ⟨w.heap.size + 1, 13, none⟩ = false := b1.frozen 13
 have yL := b2.c13
 have zF : w1.frozen? ⟨w.heap.size + 1 + 1, 13, none⟩ = false := b2.frozen 13
 have eC : Same w (w1.setCell ⟨w.heap.size + 1 + 1, 5, none⟩ (.bool cK)) := bg.setCell (.inl (by simp only []; omega)) _
 replace b0 : Blk (w1.setCell ⟨w.heap.size + 1 + 1, 5, none⟩ (.bool cK)) (w.heap.size) 82 [.int .i64 bm, .int .i64 cr, .int .i64 br, .int .i64 bv, .int .i64 bD, .bool jS, .slice gB fO.length gA, .bool jT, .slice gx fN.length gy, .int .i64 fb, .int .i64 ez, .slice gZ gF ie, .slice hJ gI hU, .slice iu dT.length ir] := b0.other (by simp only []; omega) _
 replace b1 : Blk (w1.setCell ⟨w.heap.size + 1 + 1, 5, none⟩ (.bool cK)) (w.heap.size + 1) 49 [.int .i64 0, .int .i64 0, .int .i64 0, .int .i64 0, .int .i64 0, .bool false, .slice none 0 0, .bool false, .slice none 0 0, .int .i64 0, .int .i64 0, .slice none 0 0, .slice none 0 0, .slice none 0 0] := b1.other (by simp only []; omega) _
 replace b2 : Blk (w1.setCell ⟨w.heap.size + 1 + 1, 5, none⟩ (.bool cK)) (w.heap.size + 1 + 1) 49 [.int .i64 bm, .int .i64 cr, .int .i64 br, .int .i64 bv, .int .i64 bD, .bool cK, .slice none 0 0, .bool false, .slice none 0 0, .int .i64 0, .int .i64 0, .slice none 0 0, .slice none 0 0, .slice none 0 0] := b2.stored 5 _
 replace O0 : OwnL (w1.setCell ⟨w.heap.size + 1 + 1, 5, none⟩ (.bool cK)) (StPageRecord.rows ⟨cK, ⟨dq, bM, bK, bL⟩⟩) := O0.kept (Kept.setCell (Kept.refl (fun b => b = w.heap.size + 1 + 1) _) (.inr rfl) _) (fun b hb e => by have := F0 b hb; omega)
 replace i1 : w.heap.size + 1 + 1 + 1 ≤ (w1.setCell ⟨w.heap.size + 1 + 1, 5, none⟩ (.bool cK)).heap.size := by rw [World.size_setCell]; exact i1
 have ix : Same w ((w1.setCell ⟨w.heap.size + 1 + 1, 5, none⟩ (.bool cK)).setCell ⟨w.heap.size + 1 + 1, 6, none⟩ (.slice bM bL.length bK)) := eC.setCell (.inl (by simp only []; omega)) _
 replace b0 : Blk ((w1.setCell ⟨w.heap.size + 1 + 1, 5, none⟩ (.bool cK)).setCell ⟨w.heap.size + 1 + 1, 6, none⟩ (.slice bM bL.length bK)) (w.heap.size) 82 [.int .i64 bm, .int .i64 cr, .int .i64 br, .int .i64 bv, .int .i64 bD, .bool jS, .slice gB fO.length gA, .bool jT, .slice gx fN.length gy, .int .i64 fb, .int .i64 ez, .slice gZ gF ie, .slice hJ gI hU, .slice iu dT.length ir] := b0.other (by simp only []; omega) _
 replace b1 : Blk ((w1.setCell ⟨w.heap.size + 1 + 1, 5, none⟩ (.bool cK)).setCell ⟨w.heap.size + 1 + 1, 6, none⟩ (.slice bM bL.length bK)) (w.heap.size + 1) 49 [.int .i64 0, .int .i64 0, .int .i64 0, .int .i64 0, .int .i64 0, .bool false, .slice none 0 0, .bool false, .slice none 0 0, .int .i64 0, .int .i64 0, .slice none 0 0, .slice none 0 0, .slice none 0 0] := b1.other (by simp only []; omega) _
 replace b2 : Blk ((w1.setCell ⟨w.heap.size + 1 + 1, 5, none⟩ (.bool cK)).setCell ⟨w.heap.size + 1 + 1, 6, none⟩ (.slice bM bL.length bK)) (w.heap.size + 1 + 1) 49 [.int .i64 bm, .int .i64 cr, .int .i64 br, .int .i64 bv, .int .i64 bD, .bool cK, .slice bM bL.length bK, .bool false, .slice none 0 0, .int .i64 0, .int .i64 0, .slice none 0 0, .slice none 0 0, .slice none 0 0] := b2.stored 6 _
 replace O0 : OwnL ((w1.setCell ⟨w.heap.size + 1 + 1, 5, none⟩ (.bool cK)).setCell ⟨w.heap.size + 1 + 1, 6, none⟩ (.slice bM bL.length bK)) (StPageRecord.rows ⟨cK, ⟨dq, bM, bK, bL⟩⟩) := O0.kept (Kept.setCell (Kept.refl (fun b => b = w.heap.size + 1 + 1) _) (.inr rfl) _) (fun b hb e => by have := F0 b hb; omega)
 replace i1 : w.heap.size + 1 + 1 + 1 ≤ ((w1.setCell ⟨w.heap.size + 1 + 1, 5, none⟩ (.bool cK)).setCell ⟨w.heap.size + 1 + 1, 6, none⟩ (.slice bM bL.length bK)).heap.size := by rw [World.size_setCell]; exact i1
 go_wp2_with fail
 refine (toPageRecord_any ⟨jT, ⟨mO, gx, gy, fN⟩⟩ _ (by omega) (KM.out.same ix)).mono ?_
 rintro e w2 ⟨⟨bZ, ⟨dJ, bw, bA, bB⟩⟩, rfl, qq, j0, hg, O1, hk⟩
 have lx := (show Hid (StPageRecord.szs ⟨bZ, ⟨dJ, bw, bA, bB⟩⟩ = StPageRecord.szs ⟨jT, ⟨mO, gx, gy, fN⟩⟩) from j0)
 clear j0
 have F1 : ∀ b, FootL (StPageRecord.rows ⟨bZ, ⟨dJ, bw, bA, bB⟩⟩) b → w.heap.size + 1 + 1 < b := fun b hb => by have h := hg b hb; omega
 dsimp only [StPageRecord.val, BS.v]
 have D3 : ∀ b, FootL (StPageRecord.rows ⟨cK, ⟨dq, bM, bK, bL⟩⟩) b → ¬ FootL (StPageRecord.rows ⟨bZ, ⟨dJ, bw, bA, bB⟩⟩) b := fun b hb e => by have h1 := O0.lt b hb; have h2 := hg b e; omega
 replace O0 : OwnL w2 (StPageRecord.rows ⟨cK, ⟨dq, bM, bK, bL⟩⟩) := O0.same hk
 have kl : Same w w2 := ix.trans hk
 replace b0 : Blk w2 (w.heap.size) 82 [.int .i64 bm, .int .i64 cr, .int .i64 br, .int .i64 bv, .int .i64 bD, .bool jS, .slice gB fO.length gA, .bool jT, .slice gx fN.length gy, .int .i64 fb, .int .i64 ez, .slice gZ gF ie, .slice hJ gI hU, .slice iu dT.length ir] := b0.same hk
 replace b1 : Blk w2 (w.heap.size + 1) 49 [.int .i64 0, .int .i64 0, .int .i64 0, .int .i64 0, .int .i64 0, .bool false, .slice none 0 0, .bool false, .slice none 0 0, .int .i64 0, .int .i64 0, .slice none 0 0, .slice none 0 0, .slice none 0 0] := b1.same hk
 replace b2 : Blk w2 (w.heap.size + 1 + 1) 49 [.int .i64 bm, .int .i64 cr, .int .i64 br, .int .i64 bv, .int .i64 bD, .bool cK, .slice bM bL.length bK, .bool false, .slice none 0 0, .int .i64 0, .int .i64 0, .slice none 0 0, .slice none 0 0, .slice none 0 0] := b2.same hk
 replace i1 : w.heap.size + 1 + 1 + 1 ≤ w2.heap.size := by have := hk.size; omega
 clear hk hg
 have LO := b0.c0
 have Mj := b1.c0
 have NJ : w2.frozen? ⟨w.heap.size + 1, 0, none⟩ = false := b1.frozen 0
 have Pq := b2.c0
 have NR : w2.frozen? ⟨w.heap.size + 1 + 1, 0, none⟩ = false := b2.frozen 0
 have Qv := b0.c1
 have Ny := b1.c1
 have Nn : w2.frozen? ⟨w.heap.size + 1, 1, none⟩ = false := b1.frozen 1
 have Q5 := b2.c1
 have P1 : w2.frozen? ⟨w.heap.size + 1 + 1, 1, none⟩ = false := b2.frozen 1
 have Mc := b0.c2
 have Lf := b1.c2
 have L3 : w2.frozen? ⟨w.heap.size + 1, 2, none⟩ = false := b1.frozen 2
 have Ns := b2.c2
 have N9 : w2.frozen? ⟨w.heap.size + 1 + 1, 2, none⟩ = false := b2.frozen 2
 have Ml := b0.c3
 have P3 := b1.c3
 have L1 : w2.frozen? ⟨w.heap.size + 1, 3, none⟩ = false := b1.frozen 3
 have Qt := b2.c3
 have QU : w2.frozen? ⟨w.heap.size + 1 + 1, 3, none⟩ = false := b2.frozen 3
 have MW := b0.c4
 have Oc := b1.c4
 have N0 : w2.frozen? ⟨w.heap.size + 1, 4, none⟩ = false := b1.frozen 4
 have K8 := b2.c4
 have M5 : w2.frozen? ⟨w.heap.size + 1 + 1, 4, none⟩ = false := b2.frozen 4
 have QB := b0.c5
 have Li := b1.c5
 have NV : w2.frozen? ⟨w.heap.size + 1, 5, none⟩ = false := b1.frozen 5
 have PR := b2.c5
 have MC : w2.frozen? ⟨w.heap.size + 1 + 1, 5, none⟩ = false := b2.frozen 5
 have Lg := b0.c6
 have Qj := b1.c6
 have NT : w2.frozen? ⟨w.heap.size + 1, 6, none⟩ = false := b1.frozen 6
 have L9 := b2.c6
 have Np : w2.frozen? ⟨w.heap.size + 1 + 1, 6, none⟩ = false := b2.frozen 6
 have MH := b0.c7
 have Oh := b1.c7
 have K1 : w2.frozen? ⟨w.heap.size + 1, 7, none⟩ = false := b1.frozen 7
 have Lq := b2.c7
 have MX : w2.frozen? ⟨w.heap.size + 1 + 1, 7, none⟩ = false := b2.frozen 7
 have N1 := b0.c8
 have PX := b1.c8
 have Nu : w2.frozen? ⟨w.heap.size + 1, 8, none⟩ = false := b1.frozen 8
 have NS := b2.c8
 have O7 : w2.frozen? ⟨w.heap.size + 1 + 1, 8, none⟩ = false := b2.frozen 8
 have MR := b0.c9
 have Pu := b1.c9
 have L6 : w2.frozen? ⟨w.heap.size + 1, 9, none⟩ = false := b1.frozen 9
 have Ow := b2.c9
 have MG : w2.frozen? ⟨w.heap.size + 1 + 1, 9, none⟩ = false := b2.frozen 9
 have Jx := b0.c10
 have JQ := b1.c10
 have GZ : w2.frozen? ⟨w.heap.size + 1, 10, none⟩ = false := b1.frozen 10
 have FV := b2.c10
 have J8 : w2.frozen? ⟨w.heap.size + 1 + 1, 10, none⟩ = false := b2.frozen 10
 have FE := b0.c11
 have JR := b1.c11
 have J5 : w2.frozen? ⟨w.heap.size + 1, 11, none⟩ = false := b1.frozen 11
 have Kx := b2.c11
 have H7 : w2.frozen? ⟨w.heap.size + 1 + 1, 11, none⟩ = false := b2.frozen 11
 have KG := b0.c12
 have Iw := b1.c12
 have Gh : w2.frozen? ⟨w.heap.size + 1, 12, none⟩ = false := b1.frozen 12
 have Ko := b2.c12
 have Iq : w2.frozen? ⟨w.heap.size + 1 + 1, 12, none⟩ = false := b2.frozen 12
 have Kt := b0.c13
 have Hl := b1.c13
 have Jm : w2.frozen? ⟨w.heap.size + 1, 13, none⟩ = false := b1.frozen 13
 have G5 := b2.c13
 have G2 : w2.frozen? ⟨w.heap.size + 1 + 1, 13, none⟩ = false := b2.frozen 13
 have n0 : Same w (w2.setCell ⟨w.heap.size + 1 + 1, 7, none⟩ (.bool bZ)) := kl.setCell (.inl (by simp only []; omega)) _
 replace b0 : Blk (w2.setCell ⟨w.heap.size + 1 + 1, 7, none⟩ (.bool bZ)) (w.heap.size) 82 [.int .i64 bm, .int .i64 cr, .int .i64 br, .int .i64 bv, .int .i64 bD, .bool jS, .slice gB fO.length gA, .bool jT, .slice gx fN.length gy, .int .i64 fb, .int .i64 ez, .slice gZ gF ie, .slice hJ gI hU, .slice iu dT.length ir] := b0.other (by simp only []; omega) _
 replace b1 : Blk (w2.setCell ⟨w.heap.size + 1 + 1, 7, none⟩ (.bool bZ)) (w.heap.size + 1) 49 [.int .i64 0, .int .i64 0, .int .i64 0, .int .i64 0, .int .i64 0, .bool false, .slice none 0 0, .bool false, .slice none 0 0, .int .i64 0, .int .i64 0, .slice none 0 0, .slice none 0 0, .slice none 0 0] := b1.other (by simp only []; omega) _
 replace b2 : Blk (w2.setCell ⟨w.heap.size + 1 + 1, 7, none⟩ (.bool bZ)) (w.heap.size + 1 + 1) 49 [.int .i64 bm, .int .i64 cr, .int .i64 br, .int .i64 bv, .int .i64 bD, .bool cK, .slice bM bL.length bK, .bool bZ, .slice none 0 0, .int .i64 0, .int .i64 0, .slice none 0 0, .slice none 0 0, .slice none 0 0] := b2.stored 7 _
 replace O0 : OwnL (w2.setCell ⟨w.heap.size + 1 + 1, 7, none⟩ (.bool bZ)) (StPageRecord.rows ⟨cK, ⟨dq, bM, bK, bL⟩⟩) := O0.kept (Kept.setCell (Kept.refl (fun b => b = w.heap.size + 1 + 1) _) (.inr rfl) _) (fun b hb e => by have := F0 b hb; omega)
 replace O1 : OwnL (w2.setCell ⟨w.heap.size + 1 + 1, 7, none⟩ (.bool bZ)) (StPageRecord.rows ⟨bZ, ⟨dJ, bw, bA, bB⟩⟩) := O1.kept (Kept.setCell (Kept.refl (fun b => b = w.heap.size + 1 + 1) _) (.inr rfl) _) (fun b hb e => by have := F1 b hb; omega)
 replace i1 : w.heap.size + 1 + 1 + 1 ≤ (w2.setCell ⟨w.heap.size + 1 + 1, 7, none⟩ (.bool bZ)).heap.size := by rw [World.size_setCell]; exact i1
 have nF : Same w ((w2.setCell ⟨w.heap.size + 1 + 1, 7, none⟩ (.bool bZ)).setCell ⟨w.heap.size + 1 + 1, 8, none⟩ (.slice bw bB.length bA)) := n0.setCell (.inl (by simp only []; omega)) _
 replace b0 : Blk ((w2.setCell ⟨w.heap.size + 1 + 1, 7, none⟩ (.bool bZ)).setCell ⟨w.heap.size + 1 + 1, 8, none⟩ (.slice bw bB.length bA)) (w.heap.size) 82 [.int .i64 bm, .int .i64 cr, .int .i64 br, .int .i64 bv, .int .i64 bD, .bool jS, .slice gB fO.length gA, .bool jT, .slice gx fN.length gy, .int .i64 fb, .int .i64 ez, .slice gZ gF ie, .slice hJ gI hU, .slice iu dT.length ir] := b0.other (by simp only []; omega) _
 replace b1 : Blk ((w2.setCell ⟨w.heap.size + 1 + 1, 7, none⟩ (.bool bZ)).setCell ⟨w.heap.size + 1 + 1, 8, none⟩ (.slice bw bB.length bA)) (w.heap.size + 1) 49 [.int .i64 0, .int .i64 0, .int .i64 0, .int .i64 0, .int .i64 0, .bool false, .slice none 0 0, .bool false, .slice none 0 0, .int .i64 0, .int .i64 0, .slice none 0 0, .slice none 0 0, .slice none 0 0] := b1.other (by simp only []; omega) _
 replace b2 : Blk ((w2.setCell ⟨w.heap.size + 1 + 1, 7, none⟩ (.bool bZ)).setCell ⟨w.heap.size + 1 + 1, 8, none⟩ (.slice bw bB.length bA)) (w.heap.size + 1 + 1) 49 [.int .i64 bm, .int .i64 cr, .int .i64 br, .int .i64 bv, .int .i64 bD, .bool cK, .slice bM bL.length bK, .bool bZ, .slice bw bB.length bA, .int .i64 0, .int .i64 0, .slice none 0 0, .slice none 0 0, .slice none 0 0] := b2.stored 8 _
 replace O0 : OwnL ((w2.setCell ⟨w.heap.size + 1 + 1, 7, none⟩ (.bool bZ)).setCell ⟨w.heap.size + 1 + 1, 8, none⟩ (.slice bw bB.length bA)) (StPageRecord.rows ⟨cK, ⟨dq, bM, bK, bL⟩⟩) := O0.kept (Kept.setCell (Kept.refl (fun b => b = w.heap.size + 1 + 1) _) (.inr rfl) _) (fun b hb e => by have := F0 b hb; omega)
 replace O1 : OwnL ((w2.setCell ⟨w.heap.size + 1 + 1, 7, none⟩ (.bool bZ)).setCell ⟨w.heap.size + 1 + 1, 8, none⟩ (.slice bw bB.length bA)) (StPageRecord.rows ⟨bZ, ⟨dJ, bw, bA, bB⟩⟩) := O1.kept (Kept.setCell (Kept.refl (fun b => b = w.heap.size + 1 + 1) _) (.inr rfl) _) (fun b hb e => by have := F1 b hb; omega)
 replace i1 : w.heap.size + 1 + 1 + 1 ≤ ((w2.setCell ⟨w.heap.size + 1 + 1, 7, none⟩ (.bool bZ)).setCell ⟨w.heap.size + 1 + 1, 8, none⟩ (.slice bw bB.length bA)).heap.size := by rw [World.size_setCell]; exact i1
 have l0 : Same w (((w2.setCell ⟨w.heap.size + 1 + 1, 7, none⟩ (.bool bZ)).setCell ⟨w.heap.size + 1 + 1, 8, none⟩ (.slice bw bB.length bA)).setCell ⟨w.heap.size + 1 + 1, 9, none⟩ (.int .i64 fb)) := nF.setCell (.inl (by simp only []; omega)) _
 replace b0 : Blk (((w2.setCell ⟨w.heap.size + 1 + 1, 7, none⟩ (.bool bZ)).setCell ⟨w.heap.size + 1 + 1, 8, none⟩ (.slice bw bB.length bA)).setCell ⟨w.heap.size + 1 + 1, 9, none⟩ (.int .i64 fb)) (w.heap.size) 82 [.int .i64 bm, .int .i64 cr, .int .i64 br, .int .i64 bv, .int .i64 bD, .bool jS, .slice gB fO.length gA, .bool jT, .slice gx fN.length gy, .int .i64 fb, .int .i64 ez, .slice gZ gF ie, .slice hJ gI hU, .slice iu dT.length ir] := b0.other (by simp only []; omega) _
 replace b1 : Blk (((w2.setCell ⟨w.heap.size + 1 + 1, 7, none⟩ (.bool bZ)).setCell ⟨w.heap.size + 1 + 1, 8, none⟩ (.slice bw bB.length bA)).setCell ⟨w.heap.size + 1 + 1, 9, none⟩ (.int .i64 fb)) (w.heap.size + 1) 49 [.int .i64 0, .int .i64 0, .int .i64 0, .int .i64 0, .int .i64 0, .bool false, .slice none 0 0, .bool false, .slice none 0 0, .int .i64 0, .int .i64 0, .slice none 0 0, .slice none 0 0, .slice none 0 0] := b1.other (by simp only []; omega) _
 replace b2 : Blk (((w2.setCell ⟨w.heap.size + 1 + 1, 7, none⟩ (.bool bZ)).setCell ⟨w.heap.size + 1 + 1, 8, none⟩ (.slice bw bB.length bA)).setCell ⟨w.heap.size + 1 + 1, 9, none⟩ (.int .i64 fb)) (w.heap.size + 1 + 1) 49 [.int .i64 bm, .int .i64 cr, .int .i64 br, .int .i64 bv, .int .i64 bD, .bool cK, .slice bM bL.length bK, .bool bZ, .slice bw bB.length bA, .int .i64 fb, .int .i64 0, .slice none 0 0, .slice none 0 0, .slice none 0 0] := b2.stored 9 _
 replace O0 : OwnL (((w2.setCell ⟨w.heap.size + 1 + 1, 7, none⟩ (.bool bZ)).setCell ⟨w.heap.size + 1 + 1, 8, none⟩ (.slice bw bB.length bA)).setCell ⟨w.heap.size + 1 + 1, 9, none⟩ (.int .i64 fb)) (StPageRecord.rows ⟨cK, ⟨dq, bM, bK, bL⟩⟩) := O0.kept (Kept.setCell (Kept.refl (fun b => b = w.heap.size + 1 + 1) _) (.inr rfl) _) (fun b hb e => by have := F0 b hb; omega)
 replace O1 : OwnL (((w2.setCell ⟨w.heap.size + 1 + 1, 7, none⟩ (.bool bZ)).setCell ⟨w.heap.size + 1 + 1, 8, none⟩ (.slice bw bB.length bA)).setCell ⟨w.heap.size + 1 + 1, 9, none⟩ (.int .i64 fb)) (StPageRecord.rows ⟨bZ, ⟨dJ, bw, bA, bB⟩⟩) := O1.kept (Kept.setCell (Kept.refl (fun b => b = w.heap.size + 1 + 1) _) (.inr rfl) _) (fun b hb e => by have := F1 b hb; omega)
 replace i1 : w.heap.size + 1 + 1 + 1 ≤ (((w2.setCell ⟨w.heap.size + 1 + 1, 7, none⟩ (.bool bZ)).setCell ⟨w.heap.size + 1 + 1, 8, none⟩ (.slice bw bB.length bA)).setCell ⟨w.heap.size + 1 + 1, 9, none⟩ (.int .i64 fb)).heap.size := by rw [World.size_setCell]; exact i1
 have nR : Same w ((((w2.setCell ⟨w.heap.size + 1 + 1, 7, none⟩ (.bool bZ)).setCell ⟨w.heap.size + 1 + 1, 8, none⟩ (.slice bw bB.length bA)).setCell ⟨w.heap.size + 1 + 1, 9, none⟩ (.int .i64 fb)).setCell ⟨w.heap.size + 1 + 1, 10, none⟩ (.int .i64 ez)) := l0.setCell (.inl (by simp only []; omega)) _
 replace b0 : Blk ((((w2.setCell ⟨w.heap.size + 1 + 1, 7, none⟩ (.bool bZ)).setCell ⟨w.heap.size + 1 + 1, 8, none⟩ (.slice bw bB.length bA)).setCell ⟨w.heap.size + 1 + 1, 9, none⟩ (.int .i64 fb)).setCell ⟨w.heap.size + 1 + 1, 10, none⟩ (.int .i64 ez)) (w.heap.size) 82 [.int .i64 bm, .int .i64 cr, .int .i64 br, .int .i64 bv, .int .i64 bD, .bool jS, .slice gB fO.length gA, .bool jT, .slice gx fN.length gy, .int .i64 fb, .int .i64 ez, .slice gZ gF ie, .slice hJ gI hU, .slice iu dT.length ir] := b0.other (by simp only []; omega) _
 replace b1 : Blk ((((w2.setCell ⟨w.heap.size + 1 + 1, 7, none⟩ (.bool bZ)).setCell ⟨w.heap.size + 1 + 1, 8, none⟩ (.slice bw bB.length bA)).setCell ⟨w.heap.size + 1 + 1, 9, none⟩ (.int .i64 fb)).setCell ⟨w.heap.size + 1 + 1, 10, none⟩ (.int .i64 ez)) (w.heap.size + 1) 49 [.int .i64 0, .int .i64 0, .int .i64 0, .int .i64 0, .int .i64 0, .bool false, .slice none 0 0, .bool false, .slice none 0 0, .int .i64 0, .int .i64 0, .slice none 0 0, .slice none 0 0, .slice none 0 0] := b1.other (by simp only []; omega) _
 replace b2 : Blk ((((w2.setCell ⟨w.heap.size + 1 + 1, 7, none⟩ (.bool bZ)).setCell ⟨w.heap.size + 1 + 1, 8, none⟩ (.slice bw bB.length bA)).setCell ⟨w.heap.size + 1 + 1, 9, none⟩ (.int .i64 fb)).setCell ⟨w.heap.size + 1 + 1, 10, none⟩ (.int .i64 ez)) (w.heap.size + 1 + 1) 49 [.int .i64 bm, .int .i64 cr, .int .i64 br, .int .i64 bv, .int .i64 bD, .bool cK, .slice bM bL.length bK, .bool bZ, .slice bw bB.length bA, .int .i64 fb, .int .i64 ez, .slice none 0 0, .slice none 0 0, .slice none 0 0] := b2.stored 10 _
 replace O0 : OwnL ((((w2.setCell ⟨w.heap.size + 1 + 1, 7, none⟩ (.bool bZ)).setCell ⟨w.heap.size + 1 + 1, 8, none⟩ (.slice bw bB.length bA)).setCell ⟨w.heap.size + 1 + 1, 9, none⟩ (.int .i64 fb)).setCell ⟨w.heap.size + 1 + 1, 10, none⟩ (.int .i64 ez)) (StPageRecord.rows ⟨cK, ⟨dq, bM, bK, bL⟩⟩) := O0.kept (Kept.setCell (Kept.refl (fun b => b = w.heap.size + 1 + 1) _) (.inr rfl) _) (fun b hb e => by have := F0 b hb; omega)
 replace O1 : OwnL ((((w2.setCell ⟨w.heap.size + 1 + 1, 7, none⟩ (.bool bZ)).setCell ⟨w.heap.size + 1 + 1, 8, none⟩ (.slice bw bB.length bA)).setCell ⟨w.heap.size + 1 + 1, 9, none⟩ (.int .i64 fb)).setCell ⟨w.heap.size + 1 + 1, 10, none⟩ (.int .i64 ez)) (StPageRecord.rows ⟨bZ, ⟨dJ, bw, bA, bB⟩⟩) := O1.kept (Kept.setCell (Kept.refl (fun b => b = w.heap.size + 1 + 1) _) (.inr rfl) _) (fun b hb e => by have := F1 b hb; omega)
 replace i1 : w.heap.size + 1 + 1 + 1 ≤ ((((w2.setCell ⟨w.heap.size + 1 + 1, 7, none⟩ (.bool bZ)).setCell ⟨w.heap.size + 1 + 1, 8, none⟩ (.slice bw bB.length bA)).setCell ⟨w.heap.size + 1 + 1, 9, none⟩ (.int .i64 fb)).setCell ⟨w.heap.size + 1 + 1, 10, none⟩ (.int .i64 ez)).heap.size := by rw [World.size_setCell]; exact i1
 go_wp2_with fail
 refine (toTxnEntryS_any ⟨qF, gZ, gF, ie, oP⟩ _ (by dsimp only; omega) (Sj.out.same nR)).mono ?_
 rintro e w3 ⟨⟨nU, k9, kS, k7, nP⟩, rfl, Jw, l9, hg, O2, hk⟩
 have nc := (show Hid (kS = gF) from l9)
 clear l9
 have F2 : ∀ b, FootL (FR.rows 4 ⟨nU, k9, kS, k7, nP⟩) b → w.heap.size + 1 + 1 < b := fun b hb => by have h := hg b hb; omega
 dsimp only [FR.v]
 have Dx : ∀ b, FootL (StPageRecord.rows ⟨cK, ⟨dq, bM, bK, bL⟩⟩) b → ¬ FootL (FR.rows 4 ⟨nU, k9, kS, k7, nP⟩) b := fun b hb e => by have h1 := O0.lt b hb; have h2 := hg b e; omega
 replace O0 : OwnL w3 (StPageRecord.rows ⟨cK, ⟨dq, bM, bK, bL⟩⟩) := O0.same hk
 have Dt : ∀ b, FootL (StPageRecord.rows ⟨bZ, ⟨dJ, bw, bA, bB⟩⟩) b → ¬ FootL (FR.rows 4 ⟨nU, k9, kS, k7, nP⟩) b := fun b hb e => by have h1 := O1.lt b hb; have h2 := hg b e; omega
 replace O1 : OwnL w3 (StPageRecord.rows ⟨bZ, ⟨dJ, bw, bA, bB⟩⟩) := O1.same hk
 have j5 : Same w w3 := nR.trans hk
 replace b0 : Blk w3 (w.heap.size) 82 [.int .i64 bm, .int .i64 cr, .int .i64 br, .int .i64 bv, .int .i64 bD, .bool jS, .slice gB fO.length gA, .bool jT, .slice gx fN.length gy, .int .i64 fb, .int .i64 ez, .slice gZ gF ie, .slice hJ gI hU, .slice iu dT.length ir] := b0.same hk
 replace b1 : Blk w3 (w.heap.size + 1) 49 [.int .i64 0, .int .i64 0, .int .i64 0, .int .i64 0, .int .i64 0, .bool false, .slice none 0 0, .bool false, .slice none 0 0, .int .i64 0, .int .i64 0, .slice none 0 0, .slice none 0 0, .slice none 0 0] := b1.same hk
 replace b2 : Blk w3 (w.heap.size + 1 + 1) 49 [.int .i64 bm, .int .i64 cr, .int .i64 br, .int .i64 bv, .int .i64 bD, .bool cK, .slice bM bL.length bK, .bool bZ, .slice bw bB.length bA, .int .i64 fb, .int .i64 ez, .slice none 0 0, .slice none 0 0, .slice none 0 0] := b2.same hk
 replace i1 : w.heap.size + 1 + 1 + 1 ≤ w3.heap.size := by have := hk.size; omega
 clear hk hg
 have Qd := b0.c0
 have Mt := b1.c0
 have Ou : w3.frozen? ⟨w.heap.size + 1, 0, none⟩ = false := b1.frozen 0
 have Q0 := b2.c0
 have Nx : w3.frozen? ⟨w.heap.size + 1 + 1, 0, none⟩ = false := b2.frozen 0
 have Oa := b0.c1
 have OX := b1.c1
 have Ov : w3.frozen? ⟨w.heap.size + 1, 1, none⟩ = false := b1.frozen 1
 have OQ := b2.c1
 have P5 : w3.frozen? ⟨w.heap.size + 1 + 1, 1, none⟩ = false := b2.frozen 1
 have Qi := b0.c2
 have MU := b1.c2
 have MN : w3.frozen? ⟨w.heap.size + 1, 2, none⟩ = false := b1.frozen 2
 have Pn := b2.c2
 have QR : w3.frozen? ⟨w.heap.size + 1 + 1, 2, none⟩ = false := b2.frozen 2
 have NH := b0.c3
 have NI := b1.c3
 have Pe : w3.frozen? ⟨w.heap.size + 1, 3, none⟩ = false := b1.frozen 3
 have QH := b2.c3
 have OR : w3.frozen? ⟨w.heap.size + 1 + 1, 3, none⟩ = false := b2.frozen 3
 have Pp := b0.c4
 have NC := b1.c4
 have Lt : w3.frozen? ⟨w.heap.size + 1, 4, none⟩ = false := b1.frozen 4
 have M8 := b2.c4
 have M7 : w3.frozen? ⟨w.heap.size + 1 + 1, 4, none⟩ = false := b2.frozen 4
 have NG := b0.c5
 have Qc := b1.c5
 have Ox : w3.frozen? ⟨w.heap.size + 1, 5, none⟩ = false := b1.frozen 5
 have QZ := b2.c5
 have Mf : w3.frozen? ⟨w.heap.size + 1 + 1, 5, none⟩ = false := b2.frozen 5
 have PY := b0.c6
 have M1 := b1.c6
 have Qk : w3.frozen? ⟨w.heap.size + 1, 6, none⟩ = false := b1.frozen 6
 have Lb := b2.c6
 have Ng : w3.frozen? ⟨w.heap.size + 1 + 1, 6, none⟩ = false := b2.frozen 6
 have KX := b0.c7
 have Px := b1.c7
 have K6 : w3.frozen? ⟨w.heap.size + 1, 7, none⟩ = false := b1.frozen 7
 have Lu := b2.c7
 have M4 : w3.frozen? ⟨w.heap.size + 1 + 1, 7, none⟩ = false := b2.frozen 7
 have P4 := b0.c8
 have Lx := b1.c8
 have QY : w3.frozen? ⟨w.heap.size + 1, 8, none⟩ = false := b1.frozen 8
 have Mr := b2.c8
 have MJ : w3.frozen? ⟨w.heap.size + 1 + 1, 8, none⟩ = false := b2.frozen 8
 have Nb := b0.c9
 have MF := b1.c9
 have KP : w3.frozen? ⟨w.heap.size + 1, 9, none⟩ = false := b1.frozen 9
 have N6 := b2.c9
 have K7 : w3.frozen? ⟨w.heap.size + 1 + 1, 9, none⟩ = false := b2.frozen 9
 have FQ := b0.c10
 have GJ := b1.c10
 have Kk : w3.frozen? ⟨w.heap.size + 1, 10, none⟩ = false := b1.frozen 10
 have H6 := b2.c10
 have Kp : w3.frozen? ⟨w.heap.size + 1 + 1, 10, none⟩ = false := b2.frozen 10
 have Gx := b0.c11
 have Gz := b1.c11
 have I5 : w3.frozen? ⟨w.heap.size + 1, 11, none⟩ = false := b1.frozen 11
 have G6 := b2.c11
 have Ga : w3.frozen? ⟨w.heap.size + 1 + 1, 11, none⟩ = false := b2.frozen 11
 have JX := b0.c12
 have GQ := b1.c12
 have Iu : w3.frozen? ⟨w.heap.size + 1, 12, none⟩ = false := b1.frozen 12
 have Kr := b2.c12
 have IH : w3.frozen? ⟨w.heap.size + 1 + 1, 12, none⟩ = false := b2.frozen 12
 have Jj := b0.c13
 have Hf := b1.c13
 have GC : w3.frozen? ⟨w.heap.size + 1, 13, none⟩ = false := b1.frozen 13
 have J7 := b2.c13
 have G1 : w3.frozen? ⟨w.heap.size + 1 + 1, 13, none⟩ = false := b2.frozen 13
 have mH : Same w (w3.setCell ⟨w.heap.size + 1 + 1, 11, none⟩ (.slice k9 kS k7)) := j5.setCell (.inl (by simp only []; omega)) _
 replace b0 : Blk (w3.setCell ⟨w.heap.size + 1 + 1, 11, none⟩ (.slice k9 kS k7)) (w.heap.size) 82 [.int .i64 bm, .int .i64 cr, .int .i64 br, .int .i64 bv, .int .i64 bD, .bool jS, .slice gB fO.length gA, .bool jT, .slice gx fN.length gy, .int .i64 fb, .int .i64 ez, .slice gZ gF ie, .slice hJ gI hU, .slice iu dT.length ir] := b0.other (by simp only []; omega) _
 replace b1 : Blk (w3.setCell ⟨w.heap.size + 1 + 1, 11, none⟩ (.slice k9 kS k7)) (w.heap.size + 1) 49 [.int .i64 0, .int .i64 0, .int .i64 0, .int .i64 0, .int .i64 0, .bool false, .slice none 0 0, .bool false, .slice none 0 0, .int .i64 0, .int .i64 0, .slice none 0 0, .slice none 0 0, .slice none 0 0] := b1.other (by simp only []; omega) _
 replace b2 : Blk (w3.setCell ⟨w.heap.size + 1 + 1, 11, none⟩ (.slice k9 kS k7)) (w.heap.size + 1 + 1) 49 [.int .i64 bm, .int .i64 cr, .int .i64 br, .int .i64 bv, .int .i64 bD, .bool cK, .slice bM bL.length bK, .bool bZ, .slice bw bB.length bA, .int .i64 fb, .int .i64 ez, .slice k9 kS k7, .slice none 0 0, .slice none 0 0] := b2.stored 11 _
 replace O0 : OwnL (w3.setCell ⟨w.heap.size + 1 + 1, 11, none⟩ (.slice k9 kS k7)) (StPageRecord.rows ⟨cK, ⟨dq, bM, bK, bL⟩⟩) := O0.kept (Kept.setCell (Kept.refl (fun b => b = w.heap.size + 1 + 1) _) (.inr rfl) _) (fun b hb e => by have := F0 b hb; omega)
 replace O1 : OwnL (w3.setCell ⟨w.heap.size + 1 + 1, 11, none⟩ (.slice k9 kS k7)) (StPageRecord.rows ⟨bZ, ⟨dJ, bw, bA, bB⟩⟩) := O1.kept (Kept.setCell (Kept.refl (fun b => b = w.heap.size + 1 + 1) _) (.inr rfl) _) (fun b hb e => by have := F1 b hb; omega)
 replace O2 : OwnL (w3.setCell ⟨w.heap.size + 1 + 1, 11, none⟩ (.slice k9 kS k7)) (FR.rows 4 ⟨nU, k9, kS, k7, nP⟩) := O2.kept (Kept.setCell (Kept.refl (fun b => b = w.heap.size + 1 + 1) _) (.inr rfl) _) (fun b hb e => by have := F2 b hb; omega)
 replace i1 : w.heap.size + 1 + 1 + 1 ≤ (w3.setCell ⟨w.heap.size + 1 + 1, 11, none⟩ (.slice k9 kS k7)).heap.size := by rw [World.size_setCell]; exact i1
 go_wp2_with fail
 refine (toDirtyEntryS_any ⟨qu, hJ, gI, hU, ol⟩ _ (by dsimp only; omega) (SE.out.same mH)).mono ?_
 rintro e w4 ⟨⟨oW, kU, ks, kH, oT⟩, rfl, RV, Fo, hg, O3, hk⟩
 have pJ := (show Hid (ks = gI) from Fo)
 clear Fo
 have F3 : ∀ b, FootL (FR.rows 2 ⟨oW, kU, ks, kH, oT⟩) b → w.heap.size + 1 + 1 < b := fun b hb => by have h := hg b hb; omega
 dsimp only [FR.v]
 have C5 : ∀ b, FootL (StPageRecord.rows ⟨cK, ⟨dq, bM, bK, bL⟩⟩) b → ¬ FootL (FR.rows 2 ⟨oW, kU, ks, kH, oT⟩) b := fun b hb e => by have h1 := O0.lt b hb; have h2 := hg b e; omega
 replace O0 : OwnL w4 (StPageRecord.rows ⟨cK, ⟨dq, bM, bK, bL⟩⟩) := O0.same hk
 have Bc : ∀ b, FootL (StPageRecord.rows ⟨bZ, ⟨dJ, bw, bA, bB⟩⟩) b → ¬ FootL (FR.rows 2 ⟨oW, kU, ks, kH, oT⟩) b := fun b hb e => by have h1 := O1.lt b hb; have h2 := hg b e; omega
 replace O1 : OwnL w4 (StPageRecord.rows ⟨bZ, ⟨dJ, bw, bA, bB⟩⟩) := O1.same hk
 have Ey : ∀ b, FootL (FR.rows 4 ⟨nU, k9, kS, k7, nP⟩) b → ¬ FootL (FR.rows 2 ⟨oW, kU, ks, kH, oT⟩) b := fun b hb e => by have h1 := O2.lt b hb; have h2 := hg b e; omega
 replace O2 : OwnL w4 (FR.rows 4 ⟨nU, k9, kS, k7, nP⟩) := O2.same hk
 have CZ : Same w w4 := mH.trans hk
 replace b0 : Blk w4 (w.heap.size) 82 [.int .i64 bm, .int .i64 cr, .int .i64 br, .int .i64 bv, .int .i64 bD, .bool jS, .slice gB fO.length gA, .bool jT, .slice gx fN.length gy, .int .i64 fb, .int .i64 ez, .slice gZ gF ie, .slice hJ gI hU, .slice iu dT.length ir] := b0.same hk
 replace b1 : Blk w4 (w.heap.size + 1) 49 [.int .i64 0, .int .i64 0, .int .i64 0, .int .i64 0, .int .i64 0, .bool false, .slice none 0 0, .bool false, .slice none 0 0, .int .i64 0, .int .i64 0, .slice none 0 0, .slice none 0 0, .slice none 0 0] := b1.same hk
 replace b2 : Blk w4 (w.heap.size + 1 + 1) 49 [.int .i64 bm, .int .i64 cr, .int .i64 br, .int .i64 bv, .int .i64 bD, .bool cK, .slice bM bL.length bK, .bool bZ, .slice bw bB.length bA, .int .i64 fb, .int .i64 ez, .slice k9 kS k7, .slice none 0 0, .slice none 0 0] := b2.same hk
 replace i1 : w.heap.size + 1 + 1 + 1 ≤ w4.heap.size := by have := hk.size; omega
 clear hk hg
 have M6 := b0.c0
 have Po := b1.c0
 have PG : w4.frozen? ⟨w.heap.size + 1, 0, none⟩ = false := b1.frozen 0
 have MS := b2.c0
 have M2 : w4.frozen? ⟨w.heap.size + 1 + 1, 0, none⟩ = false := b2.frozen 0
 have PZ := b0.c1
 have NF := b1.c1
 have L2 : w4.frozen? ⟨w.heap.size + 1, 1, none⟩ = false := b1.frozen 1
 have Ls := b2.c1
 have Lk : w4.frozen? ⟨w.heap.size + 1 + 1, 1, none⟩ = false := b2.frozen 1
 have Qr := b0.c2
 have Qa := b1.c2
 have Mq : w4.frozen? ⟨w.heap.size + 1, 2, none⟩ = false := b1.frozen 2
 have M0 := b2.c2
 have L8 : w4.frozen? ⟨w.heap.size + 1 + 1, 2, none⟩ = false := b2.frozen 2
 have QQ := b0.c3
 have OT := b1.c3
 have PK : w4.frozen? ⟨w.heap.size + 1, 3, none⟩ = false := b1.frozen 3
 have Qh := b2.c3
 have Of : w4.frozen? ⟨w.heap.size + 1 + 1, 3, none⟩ = false := b2.frozen 3
 have MM := b0.c4
 have Mz := b1.c4
 have Lv : w4.frozen? ⟨w.heap.size + 1, 4, none⟩ = false := b1.frozen 4
 have PI := b2.c4
 have Oz : w4.frozen? ⟨w.heap.size + 1 + 1, 4, none⟩ = false := b2.frozen 4
 have La := b0.c5
 have L4 := b1.c5
 have PV : w4.frozen? ⟨w.heap.size + 1, 5, none⟩ = false := b1.frozen 5
 have Ld := b2.c5
 have NN : w4.frozen? ⟨w.heap.size + 1 + 1, 5, none⟩ = false := b2.frozen 5
 have OO := b0.c6
 have Lh := b1.c6
 have Pz : w4.frozen? ⟨w.heap.size + 1, 6, none⟩ = false := b1.frozen 6
 have QL := b2.c6
 have O9 : w4.frozen? ⟨w.heap.size + 1 + 1, 6, none⟩ = false := b2.frozen 6
 have LP := b0.c7
 have P6 := b1.c7
 have Qy : w4.frozen? ⟨w.heap.size + 1, 7, none⟩ = false := b1.frozen 7
 have KY := b2.c7
 have Ln : w4.frozen? ⟨w.heap.size + 1 + 1, 7, none⟩ = false := b2.frozen 7
 have K0 := b0.c8
 have NW := b1.c8
 have LY : w4.frozen? ⟨w.heap.size + 1, 8, none⟩ = false := b1.frozen 8
 have LH := b2.c8
 have LK : w4.frozen? ⟨w.heap.size + 1 + 1, 8, none⟩ = false := b2.frozen 8
 have Mk := b0.c9
 have Lw := b1.c9
 have QT : w4.frozen? ⟨w.heap.size + 1, 9, none⟩ = false := b1.frozen 9
 have O6 := b2.c9
 have LL : w4.frozen? ⟨w.heap.size + 1 + 1, 9, none⟩ = false := b2.frozen 9
 have Jn := b0.c10
 have H3 := b1.c10
 have Il : w4.frozen? ⟨w.heap.size + 1, 10, none⟩ = false := b1.frozen 10
 have Gl := b2.c10
 have Gi : w4.frozen? ⟨w.heap.size + 1 + 1, 10, none⟩ = false := b2.frozen 10
 have J9 := b0.c11
 have Jo := b1.c11
 have Ip : w4.frozen? ⟨w.heap.size + 1, 11, none⟩ = false := b1.frozen 11
 have FH := b2.c11
 have Hy : w4.frozen? ⟨w.heap.size + 1 + 1, 11, none⟩ = false := b2.frozen 11
 have G3 := b0.c12
 have Kw := b1.c12
 have I6 : w4.frozen? ⟨w.heap.size + 1, 12, none⟩ = false := b1.frozen 12
 have FC := b2.c12
 have IG : w4.frozen? ⟨w.heap.size + 1 + 1, 12, none⟩ = false := b2.frozen 12
 have JP := b0.c13
 have Ih := b1.c13
 have IJ : w4.frozen? ⟨w.heap.size + 1, 13, none⟩ = false := b1.frozen 13
 have Kl := b2.c13
 have ID : w4.frozen? ⟨w.heap.size + 1 + 1, 13, none⟩ = false := b2.frozen 13
 have yq : Same w (w4.setCell ⟨w.heap.size + 1 + 1, 12, none⟩ (.slice kU ks kH)) := CZ.setCell (.inl (by simp only []; omega)) _
 replace b0 : Blk (w4.setCell ⟨w.heap.size + 1 + 1, 12, none⟩ (.slice kU ks kH)) (w.heap.size) 82 [.int .i64 bm, .int .i64 cr, .int .i64 br, .int .i64 bv, .int .i64 bD, .bool jS, .slice gB fO.length gA, .bool jT, .slice gx fN.length gy, .int .i64 fb, .int .i64 ez, .slice gZ gF ie, .slice hJ gI hU, .slice iu dT.length ir] := b0.other (by simp only []; omega) _
 replace b1 : Blk (w4.setCell ⟨w.heap.size + 1 + 1, 12, none⟩ (.slice kU ks kH)) (w.heap.size + 1) 49 [.int .i64 0, .int .i64 0, .int .i64 0, .int .i64 0, .int .i64 0, .bool false, .slice none 0 0, .bool false, .slice none 0 0, .int .i64 0, .int .i64 0, .slice none 0 0, .slice none 0 0, .slice none 0 0] := b1.other (by simp only []; omega) _
 replace b2 : Blk (w4.setCell ⟨w.heap.size + 1 + 1, 12, none⟩ (.slice kU ks kH)) (w.heap.size + 1 + 1) 49 [.int .i64 bm, .int .i64 cr, .int .i64 br, .int .i64 bv, .int .i64 bD, .bool cK, .slice bM bL.length bK, .bool bZ, .slice bw bB.length bA, .int .i64 fb, .int .i64 ez, .slice k9 kS k7, .slice kU ks kH, .slice none 0 0] := b2.stored 12 _
 replace O0 : OwnL (w4.setCell ⟨w.heap.size + 1 + 1, 12, none⟩ (.slice kU ks kH)) (StPageRecord.rows ⟨cK, ⟨dq, bM, bK, bL⟩⟩) := O0.kept (Kept.setCell (Kept.refl (fun b => b = w.heap.size + 1 + 1) _) (.inr rfl) _) (fun b hb e => by have := F0 b hb; omega)
 replace O1 : OwnL (w4.setCell ⟨w.heap.size + 1 + 1, 12, none⟩ (.slice kU ks kH)) (StPageRecord.rows ⟨bZ, ⟨dJ, bw, bA, bB⟩⟩) := O1.kept (Kept.setCell (Kept.refl (fun b => b = w.heap.size + 1 + 1) _) (.inr rfl) _) (fun b hb e => by have := F1 b hb; omega)
 replace O2 : OwnL (w4.setCell ⟨w.heap.size + 1 + 1, 12, none⟩ (.slice kU ks kH)) (FR.rows 4 ⟨nU, k9, kS, k7, nP⟩) := O2.kept (Kept.setCell (Kept.refl (fun b => b = w.heap.size + 1 + 1) _) (.inr rfl) _) (fun b hb e => by have := F2 b hb; omega)
 replace O3 : OwnL (w4.setCell ⟨w.heap.size + 1 + 1, 12, none⟩ (.slice kU ks kH)) (FR.rows 2 ⟨oW, kU, ks, kH, oT⟩) := O3.kept (Kept.setCell (Kept.refl (fun b => b = w.heap.size + 1 + 1) _) (.inr rfl) _) (fun b hb e => by have := F3 b hb; omega)
 replace i1 : w.heap.size + 1 + 1 + 1 ≤ (w4.setCell ⟨w.heap.size + 1 + 1, 12, none⟩ (.slice kU ks kH)).heap.size := by rw [World.size_setCell]; exact i1
 go_wp2_with fail
 refine (toByteS_any _ dT _ (by omega) (Rh.out.same yq)).mono ?_
 rintro e w5 ⟨g4, rfl, hg, ho, hk⟩
 have O4 : OwnL w5 (BS.rows ⟨5, some ⟨g4, 0, none⟩, dT.length, dT⟩) := OwnL.one ho
 have F4 : ∀ b, FootL (BS.rows ⟨5, some ⟨g4, 0, none⟩, dT.length, dT⟩) b → w.heap.size + 1 + 1 < b := fun b hb => by have h := (footL_ints _ _ _ _ _).1 hb; have h2 : g4 = b := Option.some.inj h; have h3 := hg; omega
 clear ho
 have CK : ∀ b, FootL (StPageRecord.rows ⟨cK, ⟨dq, bM, bK, bL⟩⟩) b → ¬ FootL (BS.rows ⟨5, some ⟨g4, 0, none⟩, dT.length, dT⟩) b := fun b hb e => by have h1 := O0.lt b hb; have h2 := (show (w4.setCell ⟨w.heap.size + 1 + 1, 12, none⟩ (.slice kU ks kH)).heap.size ≤ b from by have h := (footL_ints _ _ _ _ _).1 e; have h2 : g4 = b := Option.some.inj h; omega); omega
 replace O0 : OwnL w5 (StPageRecord.rows ⟨cK, ⟨dq, bM, bK, bL⟩⟩) := O0.same hk
 have CY : ∀ b, FootL (StPageRecord.rows ⟨bZ, ⟨dJ, bw, bA, bB⟩⟩) b → ¬ FootL (BS.rows ⟨5, some ⟨g4, 0, none⟩, dT.length, dT⟩) b := fun b hb e => by have h1 := O1.lt b hb; have h2 := (show (w4.setCell ⟨w.heap.size + 1 + 1, 12, none⟩ (.slice kU ks kH)).heap.size ≤ b from by have h := (footL_ints _ _ _ _ _).1 e; have h2 : g4 = b := Option.some.inj h; omega); omega
 replace O1 : OwnL w5 (StPageRecord.rows ⟨bZ, ⟨dJ, bw, bA, bB⟩⟩) := O1.same hk
 have DW : ∀ b, FootL (FR.rows 4 ⟨nU, k9, kS, k7, nP⟩) b → ¬ FootL (BS.rows ⟨5, some ⟨g4, 0, none⟩, dT.length, dT⟩) b := fun b hb e => by have h1 := O2.lt b hb; have h2 := (show (w4.setCell ⟨w.heap.size + 1 + 1, 12, none⟩ (.slice kU ks kH)).heap.size ≤ b from by have h := (footL_ints _ _ _ _ _).1 e; have h2 : g4 = b := Option.some.inj h; omega); omega
 replace O2 : OwnL w5 (FR.rows 4 ⟨nU, k9, kS, k7, nP⟩) := O2.same hk
 have Eb : ∀ b, FootL (FR.rows 2 ⟨oW, kU, ks, kH, oT⟩) b → ¬ FootL (BS.rows ⟨5, some ⟨g4, 0, none⟩, dT.length, dT⟩) b := fun b hb e => by have h1 := O3.lt b hb; have h2 := (show (w4.setCell ⟨w.heap.size + 1 + 1, 12, none⟩ (.slice kU ks kH)).heap.size ≤ b from by have h := (footL_ints _ _ _ _ _).1 e; have h2 : g4 = b := Option.some.inj h; omega); omega
 replace O3 : OwnL w5 (FR.rows 2 ⟨oW, kU, ks, kH, oT⟩) := O3.same hk
 have D7 : Same w w5 := yq.trans hk
 replace b0 : Blk w5 (w.heap.size) 82 [.int .i64 bm, .int .i64 cr, .int .i64 br, .int .i64 bv, .int .i64 bD, .bool jS, .slice gB fO.length gA, .bool jT, .slice gx fN.length gy, .int .i64 fb, .int .i64 ez, .slice gZ gF ie, .slice hJ gI hU, .slice iu dT.length ir] := b0.same hk
 replace b1 : Blk w5 (w.heap.size + 1) 49 [.int .i64 0, .int .i64 0, .int .i64 0, .int .i64 0, .int .i64 0, .bool false, .slice none 0 0, .bool false, .slice none 0 0, .int .i64 0, .int .i64 0, .slice none 0 0, .slice none 0 0, .slice none 0 0] := b1.same hk
 replace b2 : Blk w5 (w.heap.size + 1 + 1) 49 [.int .i64 bm, .int .i64 cr, .int .i64 br, .int .i64 bv, .int .i64 bD, .bool cK, .slice bM bL.length bK, .bool bZ, .slice bw bB.length bA, .int .i64 fb, .int .i64 ez, .slice k9 kS k7, .slice kU ks kH, .slice none 0 0] := b2.same hk
 replace i1 : w.heap.size + 1 + 1 + 1 ≤ w5.heap.size := by have := hk.size; omega
 clear hk hg
 have KO := b0.c0
 have D9 := b1.c0
 have Oq : w5.frozen? ⟨w.heap.size + 1, 0, none⟩ = false := b1.frozen 0
 have OW := b2.c0
 have LV : w5.frozen? ⟨w.heap.size + 1 + 1, 0, none⟩ = false := b2.frozen 0
 have PP := b0.c1
 have BU := b1.c1
 have LA : w5.frozen? ⟨w.heap.size + 1, 1, none⟩ = false := b1.frozen 1
 have MP := b2.c1
 have Qe : w5.frozen? ⟨w.heap.size + 1 + 1, 1, none⟩ = false := b2.frozen 1
 have QN := b0.c2
 have B9 := b1.c2
 have OC : w5.frozen? ⟨w.heap.size + 1, 2, none⟩ = false := b1.frozen 2
 have Mm := b2.c2
 have KZ : w5.frozen? ⟨w.heap.size + 1 + 1, 2, none⟩ = false := b2.frozen 2
 have Pg := b0.c3
 have D8 := b1.c3
 have PE : w5.frozen? ⟨w.heap.size + 1, 3, none⟩ = false := b1.frozen 3
 have LX := b2.c3
 have Me : w5.frozen? ⟨w.heap.size + 1 + 1, 3, none⟩ = false := b2.frozen 3
 have Ph := b0.c4
 have A7 := b1.c4
 have MV : w5.frozen? ⟨w.heap.size + 1, 4, none⟩ = false := b1.frozen 4
 have Pf := b2.c4
 have OV : w5.frozen? ⟨w.heap.size + 1 + 1, 4, none⟩ = false := b2.frozen 4
 have MD := b0.c5
 have B3 := b1.c5
 have Q6 : w5.frozen? ⟨w.heap.size + 1, 5, none⟩ = false := b1.frozen 5
 have Ma := b2.c5
 have Lj : w5.frozen? ⟨w.heap.size + 1 + 1, 5, none⟩ = false := b2.frozen 5
 have Lc := b0.c6
 have B0 := b1.c6
 have Py : w5.frozen? ⟨w.heap.size + 1, 6, none⟩ = false := b1.frozen 6
 have NY := b2.c6
 have QV : w5.frozen? ⟨w.heap.size + 1 + 1, 6, none⟩ = false := b2.frozen 6
 have OM := b0.c7
 have Bq := b1.c7
 have Qo : w5.frozen? ⟨w.heap.size + 1, 7, none⟩ = false := b1.frozen 7
 have LF := b2.c7
 have LI : w5.frozen? ⟨w.heap.size + 1 + 1, 7, none⟩ = false := b2.frozen 7
 have OB := b0.c8
 have Eo := b1.c8
 have OS : w5.frozen? ⟨w.heap.size + 1, 8, none⟩ = false := b1.frozen 8
 have MZ := b2.c8
 have QC : w5.frozen? ⟨w.heap.size + 1 + 1, 8, none⟩ = false := b2.frozen 8
 have QD := b0.c9
 have BW := b1.c9
 have OL : w5.frozen? ⟨w.heap.size + 1, 9, none⟩ = false := b1.frozen 9
 have NA := b2.c9
 have Mx : w5.frozen? ⟨w.heap.size + 1 + 1, 9, none⟩ = false := b2.frozen 9
 have IC := b0.c10
 have zz := b1.c10
 have Jq : w5.frozen? ⟨w.heap.size + 1, 10, none⟩ = false := b1.frozen 10
 have Gq := b2.c10
 have FX : w5.frozen? ⟨w.heap.size + 1 + 1, 10, none⟩ = false := b2.frozen 10
 have Hu := b0.c11
 have xV := b1.c11
 have Hz : w5.frozen? ⟨w.heap.size + 1, 11, none⟩ = false := b1.frozen 11
 have Jc := b2.c11
 have JA : w5.frozen? ⟨w.heap.size + 1 + 1, 11, none⟩ = false := b2.frozen 11
 have Hb := b0.c12
 have zD := b1.c12
 have FP : w5.frozen? ⟨w.heap.size + 1, 12, none⟩ = false := b1.frozen 12
 have FY := b2.c12
 have He : w5.frozen? ⟨w.heap.size + 1 + 1, 12, none⟩ = false := b2.frozen 12
 have I8 := b0.c13
 have Ab := b1.c13
 have Hc : w5.frozen? ⟨w.heap.size + 1, 13, none⟩ = false := b1.frozen 13
 have JD := b2.c13
 have Gv : w5.frozen? ⟨w.heap.size + 1 + 1, 13, none⟩ = false := b2.frozen 13
 have yk := (show Hid (Same w w5) from D7)
 have bG := (show Hid (Blk w5 (w.heap.size + 1) 49 [.int .i64 0, .int .i64 0, .int .i64 0, .int .i64 0, .int .i64 0, .bool false, .slice none 0 0, .bool false, .slice none 0 0, .int .i64 0, .int .i64 0, .slice none 0 0, .slice none 0 0, .slice none 0 0]) from b1)
 have pM := (show Hid (OwnL w5 (StPageRecord.rows ⟨cK, ⟨dq, bM, bK, bL⟩⟩)) from O0)
 have vH := (show Hid (∀ b, FootL (StPageRecord.rows ⟨cK, ⟨dq, bM, bK, bL⟩⟩) b → w.heap.size + 1 + 1 < b) from F0)
 have nh := (show Hid (OwnL w5 (StPageRecord.rows ⟨bZ, ⟨dJ, bw, bA, bB⟩⟩)) from O1)
 have nw := (show Hid (∀ b, FootL (StPageRecord.rows ⟨bZ, ⟨dJ, bw, bA, bB⟩⟩) b → w.heap.size + 1 + 1 < b) from F1)
 have jb := (show Hid (OwnL w5 (FR.rows 4 ⟨nU, k9, kS, k7, nP⟩)) from O2)
 have j2 := (show Hid (∀ b, FootL (FR.rows 4 ⟨nU, k9, kS, k7, nP⟩) b → w.heap.size + 1 + 1 < b) from F2)
 have pH := (show Hid (OwnL w5 (FR.rows 2 ⟨oW, kU, ks, kH, oT⟩)) from O3)
 have kB := (show Hid (∀ b, FootL (FR.rows 2 ⟨oW, kU, ks, kH, oT⟩) b → w.heap.size + 1 + 1 < b) from F3)
 have AW := (show Hid (OwnL w5 (BS.rows ⟨5, some ⟨g4, 0, none⟩, dT.length, dT⟩)) from O4)
 have oh := (show Hid (∀ b, FootL (BS.rows ⟨5, some ⟨g4, 0, none⟩, dT.length, dT⟩) b → w.heap.size + 1 + 1 < b) from F4)
 have B1 := (show Hid (∀ b, FootL (StPageRecord.rows ⟨cK, ⟨dq, bM, bK, bL⟩⟩) b → ¬ FootL (StPageRecord.rows ⟨bZ, ⟨dJ, bw, bA, bB⟩⟩) b) from D3)
 have Bp := (show Hid (∀ b, FootL (StPageRecord.rows ⟨cK, ⟨dq, bM, bK, bL⟩⟩) b → ¬ FootL (FR.rows 4 ⟨nU, k9, kS, k7, nP⟩) b) from Dx)
 have Dd := (show Hid (∀ b, FootL (StPageRecord.rows ⟨cK, ⟨dq, bM, bK, bL⟩⟩) b → ¬ FootL (FR.rows 2 ⟨oW, kU, ks, kH, oT⟩) b) from C5)
 have Cw := (show Hid (∀ b, FootL (StPageRecord.rows ⟨cK, ⟨dq, bM, bK, bL⟩⟩) b → ¬ FootL (BS.rows ⟨5, some ⟨g4, 0, none⟩, dT.length, dT⟩) b) from CK)
 have Dk := (show Hid (∀ b, FootL (StPageRecord.rows ⟨bZ, ⟨dJ, bw, bA, bB⟩⟩) b → ¬ FootL (FR.rows 4 ⟨nU, k9, kS, k7, nP⟩) b) from Dt)
 have Ee := (show Hid (∀ b, FootL (StPageRecord.rows ⟨bZ, ⟨dJ, bw, bA, bB⟩⟩) b → ¬ FootL (FR.rows 2 ⟨oW, kU, ks, kH, oT⟩) b) from Bc)
 have Dc := (show Hid (∀ b, FootL (StPageRecord.rows ⟨bZ, ⟨dJ, bw, bA, bB⟩⟩) b → ¬ FootL (BS.rows ⟨5, some ⟨g4, 0, none⟩, dT.length, dT⟩) b) from CY)
 have CO := (show Hid (∀ b, FootL (FR.rows 4 ⟨nU, k9, kS, k7, nP⟩) b → ¬ FootL (FR.rows 2 ⟨oW, kU, ks, kH, oT⟩) b) from Ey)
 have Br := (show Hid (∀ b, FootL (FR.rows 4 ⟨nU, k9, kS, k7, nP⟩) b → ¬ FootL (BS.rows ⟨5, some ⟨g4, 0, none⟩, dT.length, dT⟩) b) from DW)
 have DG := (show Hid (∀ b, FootL (FR.rows 2 ⟨oW, kU, ks, kH, oT⟩) b → ¬ FootL (BS.rows ⟨5, some ⟨g4, 0, none⟩, dT.length, dT⟩) b) from Eb)
 clear b0 b1 b2 ep bg eC ix kl n0 nF l0 nR j5 mH CZ yq D7 O0 O1 O2 O3 O4 F0 F1 F2 F3 F4 D3 Dx C5 CK Dt Bc CY Ey DW Eb
 go_wp2
 refine bodyPost_ret (v := StLogRecord.val ⟨bm, cr, br, bv, bD, ⟨cK, ⟨dq, bM, bK, bL⟩⟩, ⟨bZ, ⟨dJ, bw, bA, bB⟩⟩, fb, ez, ⟨nU, k9, kS, k7, nP⟩, ⟨oW, kU, ks, kH, oT⟩, ⟨5, some ⟨g4, 0, none⟩, dT.length, dT⟩⟩) (by simp [StLogRecord.val, StPageRecord.val, BS.v, FR.v, results, Tryz.results72, go_sem, D9, BU, B9, D8, A7, B3, B0, Bq, Eo, BW, zz, xV, zD, Ab]) rfl ⟨⟨bm, cr, br, bv, bD, ⟨cK, ⟨dq, bM, bK, bL⟩⟩, ⟨bZ, ⟨dJ, bw, bA, bB⟩⟩, fb, ez, ⟨nU, k9, kS, k7, nP⟩, ⟨oW, kU, ks, kH, oT⟩, ⟨5, some ⟨g4, 0, none⟩, dT.length, dT⟩⟩, rfl, ?_, ?_, ?_, ?_, ?_⟩
 ·simp only [StLogRecord.dat]; exact Prod.ext_iff.2 (by simp [jB, qq, Jw, RV])
 ·have z0 := ry.out; have z1 := lx.out; have z2 := nc.out; have z3 := pJ.out; simp only [StLogRecord.szs]; omega
 ·exact fun b hb => ((FootL_append _ _ _).1 hb).elim (fun e0 => by have := vH.out b (e0); omega) (fun e0 => ((FootL_append _ _ _).1 e0).elim (fun e1 => by have := nw.out b (e1); omega) (fun e1 => ((FootL_append _ _ _).1 e1).elim (fun e2 => by have := j2.out b (e2); omega) (fun e2 => ((FootL_append _ _ _).1 e2).elim (fun e3 => by have := kB.out b (e3); omega) (fun e3 => by have := oh.out b (e3); omega))))
 ·refine OwnL.kept (R := fun b => b = w.heap.size + 1 ∨ b = w.heap.size + 1 + 1) (show OwnL _ (StLogRecord.rows ⟨bm, cr, br, bv, bD, ⟨cK, ⟨dq, bM, bK, bL⟩⟩, ⟨bZ, ⟨dJ, bw, bA, bB⟩⟩, fb, ez, ⟨nU, k9, kS, k7, nP⟩, ⟨oW, kU, ks, kH, oT⟩, ⟨5, some ⟨g4, 0, none⟩, dT.length, dT⟩⟩) from (pM.out).append ((nh.out).append ((jb.out).append ((pH.out).append (AW.out) (fun b hb e => DG.out b hb e)) (fun b hb e => ((FootL_append _ _ _).1 e).elim (fun e3 => CO.out b hb e3) (fun e3 => Br.out b hb e3))) (fun b hb e => ((FootL_append _ _ _).1 e).elim (fun e2 => Dk.out b hb e2) (fun e2 => ((FootL_append _ _ _).1 e2).elim (fun e3 => Ee.out b hb e3) (fun e3 => Dc.out b hb e3)))) (fun b hb e => ((FootL_append _ _ _).1 e).elim (fun e1 => B1.out b hb e1) (fun e1 => ((FootL_append _ _ _).1 e1).elim (fun e2 => Bp.out b hb e2) (fun e2 => ((FootL_append _ _ _).1 e2).elim (fun e3 => Dd.out b hb e3) (fun e3 => Cw.out b hb e3))))) ?_ ?_
  ·exact (Kept.setCell (Kept.setCell (Kept.setCell (Kept.setCell (Kept.setCell (Kept.setCell (Kept.setCell (Kept.setCell (Kept.setCell (Kept.setCell (Kept.setCell (Kept.setCell (Kept.setCell (Kept.setCell (Kept.setCell (Kept.refl (fun b => b = w.heap.size + 1 ∨ b = w.heap.size + 1 + 1) _) (p := ⟨w.heap.size + 1 + 1, 13, none⟩) (.inr (.inr rfl)) _) (p := ⟨w.heap.size + 1, 0, none⟩) (.inr (.inl rfl)) _) (p := ⟨w.heap.size + 1, 1, none⟩) (.inr (.inl rfl)) _) (p := ⟨w.heap.size + 1, 2, none⟩) (.inr (.inl rfl)) _) (p := ⟨w.heap.size + 1, 3, none⟩) (.inr (.inl rfl)) _) (p := ⟨w.heap.size + 1, 4, none⟩) (.inr (.inl rfl)) _) (p := ⟨w.heap.size + 1, 5, none⟩) (.inr (.inl rfl)) _) (p := ⟨w.heap.size + 1, 6, none⟩) (.inr (.inl rfl)) _) (p := ⟨w.heap.size + 1, 7, none⟩) (.inr (.inl rfl)) _) (p := ⟨w.heap.size + 1, 8, none⟩) (.inr (.inl rfl)) _) (p := ⟨w.heap.size + 1, 9, none⟩) (.inr (.inl rfl)) _) (p := ⟨w.heap.size + 1, 10, none⟩) (.inr (.inl rfl)) _) (p := ⟨w.heap.size + 1, 11, none⟩) (.inr (.inl rfl)) _) (p := ⟨w.heap.size + 1, 12, none⟩) (.inr (.inl rfl)) _) (p := ⟨w.heap.size + 1, 13, none⟩) (.inr (.inl rfl)) _)
  ·exact fun b hb e => ((FootL_append _ _ _).1 hb).elim (fun e0 => by have := vH.out b (e0); omega) (fun e0 => ((FootL_append _ _ _).1 e0).elim (fun e1 => by have := nw.out b (e1); omega) (fun e1 => ((FootL_append _ _ _).1 e1).elim (fun e2 => by have := j2.out b (e2); omega) (fun e2 => ((FootL_append _ _ _).1 e2).elim (fun e3 => by have := kB.out b (e3); omega) (fun e3 => by have := oh.out b (e3); omega))))
 ·exact (Kept.setCell (Kept.setCell (Kept.setCell (Kept.setCell (Kept.setCell (Kept.setCell (Kept.setCell (Kept.setCell (Kept.setCell (Kept.setCell (Kept.setCell (Kept.setCell (Kept.setCell (Kept.setCell (Kept.setCell yk.out (p := ⟨w.heap.size + 1 + 1, 13, none⟩) (.inl (by simp only []; omega)) _) (p := ⟨w.heap.size + 1, 0, none⟩) (.inl (by simp only []; omega)) _) (p := ⟨w.heap.size + 1, 1, none⟩) (.inl (by simp only []; omega)) _) (p := ⟨w.heap.size + 1, 2, none⟩) (.inl (by simp only []; omega)) _) (p := ⟨w.heap.size + 1, 3, none⟩) (.inl (by simp only []; omega)) _) (p := ⟨w.heap.size + 1, 4, none⟩) (.inl (by simp only []; omega)) _) (p := ⟨w.heap.size + 1, 5, none⟩) (.inl (by simp only []; omega)) _) (p := ⟨w.heap.size + 1, 6, none⟩) (.inl (by simp only []; omega)) _) (p := ⟨w.heap.size + 1, 7, none⟩) (.inl (by simp only []; omega)) _) (p := ⟨w.heap.size + 1, 8, none⟩) (.inl (by simp only []; omega)) _) (p := ⟨w.heap.size + 1, 9, none⟩) (.inl (by simp only []; omega)) _) (p := ⟨w.heap.size + 1, 10, none⟩) (.inl (by simp only []; omega)) _) (p := ⟨w.heap.size + 1, 11, none⟩) (.inl (by simp only []; omega)) _) (p := ⟨w.heap.size + 1, 12, none⟩) (.inl (by simp only []; omega)) _) (p := ⟨w.heap.size + 1, 13, none⟩) (.inl (by simp only []; omega)) _)
end Go.Proofs.YtepdakgfioffgaaGreat
