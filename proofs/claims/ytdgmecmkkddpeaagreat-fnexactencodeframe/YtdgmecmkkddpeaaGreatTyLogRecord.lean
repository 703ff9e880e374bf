import Derived.Test.YtdgmecmkkddpeaaGreatG00
import Derived.Test.YtdgmecmkkddpeaaGreatG01
import Derived.Deep.DeepCutAuto
namespace Go.Proofs.YtdgmecmkkddpeaaGreat
set_option maxRecDepth 100000
set_option maxHeartbeats 16000000
set_option linter.unusedVariables false
set_option linter.unusedSimpArgs false
open Go.RowKit
structure StLogRecord where
 kind : Int
 txn : Int
 prev : Int
 page : Int
 slot : Int
 before : StPageRecord
 after : StPageRecord
 uN : Int
 nT : Int
 txns : FR
 dirty : FR
 image : BS
def StLogRecord.val (x : StLogRecord) : Value := .agg #[.int .i64 x.kind, .int .i64 x.txn, .int .i64 x.prev, .int .i64 x.page, .int .i64 x.slot, .bool x.before.used, x.before.data.v, .bool x.after.used, x.after.data.v, .int .i64 x.uN, .int .i64 x.nT, x.txns.v, x.dirty.v, x.image.v]
def StLogRecord.rows (x : StLogRecord) : List Row := x.before.rows ++ (x.after.rows ++ ((x.txns).rows 4 ++ ((x.dirty).rows 2 ++ (x.image.rows))))
def StLogRecord.dat (x : StLogRecord) : Int × Int × Int × Int × Int × (Bool × List Int) × (Bool × List Int) × Int × Int × List Int × List Int × List Int := (x.kind, x.txn, x.prev, x.page, x.slot, x.before.dat, x.after.dat, x.uN, x.nT, x.txns.bs, x.dirty.bs, x.image.bs)
def StLogRecord.size (x : StLogRecord) : Int := x.before.size + x.after.size + (x.txns.bs.length : Int) + (x.dirty.bs.length : Int) + (x.image.bs.length : Int)
theorem StLogRecord.size_le (x : StLogRecord) : 0 ≤ x.size := by
 unfold StLogRecord.size
 have h0 := x.before.size_le
 have h1 := x.after.size_le
 omega
def StLogRecord.marked (x : StLogRecord) (k : Int) : StLogRecord := ⟨x.kind, x.txn, x.prev, x.page, x.slot, x.before.marked (k), x.after.marked (k + x.before.size), x.uN, x.nT, x.txns.marked (k + x.before.size + x.after.size), x.dirty.marked (k + x.before.size + x.after.size + (x.txns.bs.length : Int)), x.image.marked (k + x.before.size + x.after.size + (x.txns.bs.length : Int) + (x.dirty.bs.length : Int))⟩
theorem StLogRecord.foot_marked (x : StLogRecord) (k : Int) (b : Nat) : FootL (x.marked k).rows b ↔ FootL x.rows b := by
 simp only [StLogRecord.rows, FootL_append]
 exact or_congr (StPageRecord.foot_marked _ _ b) (or_congr (StPageRecord.foot_marked _ _ b) (or_congr (FR.foot_marked 4 _ _ b) (or_congr (FR.foot_marked 2 _ _ b) (BS.foot_marked _ _ b))))
def StLogRecord.rd (w : World) (x : StLogRecord) : Prop := StPageRecord.rd w x.before ∧ StPageRecord.rd w x.after ∧ RdF 4 w x.txns ∧ RdF 2 w x.dirty ∧ Rd .u8 w x.image.v x.image.bs
theorem StLogRecord.rd.kept {R : Nat → Prop} {w w' : World} {x : StLogRecord} (h : StLogRecord.rd w x) (hk : Kept R w w') (hr : ∀ b, FootL x.rows b → ¬ R b) : StLogRecord.rd w' x :=
 ⟨StPageRecord.rd.kept (h.1) hk (fun b hb => hr b ((FootL_append _ _ _).2 (.inl hb))), StPageRecord.rd.kept (h.2.1) hk (fun b hb => hr b ((FootL_append _ _ _).2 (.inr ((FootL_append _ _ _).2 (.inl hb))))), RdF.kept (h.2.2.1) hk (fun b hb => hr b ((FootL_append _ _ _).2 (.inr ((FootL_append _ _ _).2 (.inr ((FootL_append _ _ _).2 (.inl ((FootL_one _ _).2 hb)))))))), RdF.kept (h.2.2.2.1) hk (fun b hb => hr b ((FootL_append _ _ _).2 (.inr ((FootL_append _ _ _).2 (.inr ((FootL_append _ _ _).2 (.inr ((FootL_append _ _ _).2 (.inl ((FootL_one _ _).2 hb)))))))))), Rd.kept (h.2.2.2.2) hk (fun b hb => hr b ((FootL_append _ _ _).2 (.inr ((FootL_append _ _ _).2 (.inr ((FootL_append _ _ _).2 (.inr ((FootL_append _ _ _).2 (.inr (((footL_ints _ _ _ _ _).2 hb)))))))))))⟩
theorem StLogRecord.rd.same {w w' : World} {x : StLogRecord} (h : StLogRecord.rd w x) (hk : Same w w') : StLogRecord.rd w' x := h.kept hk (fun _ _ => id)
theorem StLogRecord.own_rd {w : World} {x : StLogRecord} (h : OwnL w x.rows) : StLogRecord.rd w x :=
 ⟨(StPageRecord.own_rd h.left), (StPageRecord.own_rd h.right.left), (FR.own_rd h.right.right.left), (FR.own_rd h.right.right.right.left), (OwnL.of_one h.right.right.right.right).rd⟩
def StLogRecord.szs (x : StLogRecord) : Int := x.before.szs + x.after.szs + (x.txns.n : Int) + (x.dirty.n : Int) + (x.image.bs.length : Int)
theorem StLogRecord.szs_le (x : StLogRecord) : 0 ≤ x.szs := by
 unfold StLogRecord.szs
 have h0 := x.before.szs_le
 have h1 := x.after.szs_le
 omega
theorem eqLogRecord_own (x y : StLogRecord) (w : World) (hn : x.size ≤ 1125899906842624) (hd : x.dat = y.dat) (ha : OwnL w x.rows) (hb : OwnL w y.rows) :
  Calls Tryz.prog 9 #[x.val, y.val] w fun e w' => e = .returned (.bool true) ∧ Same w w' := by
 obtain ⟨xkind, xtxn, xprev, xpage, xslot, ⟨xbU, ⟨xbDe, xbDa, xbDc, xbDb⟩⟩, ⟨xaU, ⟨xaDe, xaDa, xaDc, xaDb⟩⟩, xuN, xnT, ⟨xtXe, xtXa, xtXn, xtXc, xtXb⟩, ⟨xdYe, xdYa, xdYn, xdYc, xdYb⟩, ⟨xiMe, xiMa, xiMc, xiMb⟩⟩ := x
 obtain ⟨ykind, ytxn, yprev, ypage, yslot, ⟨ybU, ⟨ybDe, ybDa, ybDc, ybDb⟩⟩, ⟨yaU, ⟨yaDe, yaDa, yaDc, yaDb⟩⟩, yuN, ynT, ⟨ytXe, ytXa, ytXn, ytXc, ytXb⟩, ⟨ydYe, ydYa, ydYn, ydYc, ydYb⟩, ⟨yiMe, yiMa, yiMc, yiMb⟩⟩ := y
 simp only [StLogRecord.dat, StPageRecord.dat, Prod.mk.injEq] at hd
 obtain ⟨rfl, rfl, rfl, rfl, rfl, ⟨rfl, rfl⟩, ⟨rfl, rfl⟩, rfl, rfl, rfl, rfl, rfl⟩ := hd
 simp only [StLogRecord.size, StPageRecord.size] at hn
 have Hx0 := (show Hid (OwnL w (StPageRecord.rows ⟨xbU, ⟨xbDe, xbDa, xbDc, xbDb⟩⟩)) from ha.left)
 have Hy0 := (show Hid (OwnL w (StPageRecord.rows ⟨xbU, ⟨ybDe, ybDa, ybDc, xbDb⟩⟩)) from hb.left)
 have Hx1 := (show Hid (OwnL w (StPageRecord.rows ⟨xaU, ⟨xaDe, xaDa, xaDc, xaDb⟩⟩)) from ha.right.left)
 have Hy1 := (show Hid (OwnL w (StPageRecord.rows ⟨xaU, ⟨yaDe, yaDa, yaDc, xaDb⟩⟩)) from hb.right.left)
 have Hx2 := (show Hid (OwnL w [⟨xtXe, 4, .slice xtXa xtXn xtXc, xtXn, vals .i64 xtXb⟩]) from ha.right.right.left)
 have Hy2 := (show Hid (OwnL w [⟨ytXe, 4, .slice ytXa ytXn ytXc, ytXn, vals .i64 xtXb⟩]) from hb.right.right.left)
 have Hx3 := (show Hid (OwnL w [⟨xdYe, 2, .slice xdYa xdYn xdYc, xdYn, vals .i64 xdYb⟩]) from ha.right.right.right.left)
 have Hy3 := (show Hid (OwnL w [⟨ydYe, 2, .slice ydYa ydYn ydYc, ydYn, vals .i64 xdYb⟩]) from hb.right.right.right.left)
 have Hx4 := (show Hid (OwnL w [ints xiMe .u8 (.slice xiMa xiMb.length xiMc) xiMb]) from ha.right.right.right.right)
 have Hy4 := (show Hid (OwnL w [ints yiMe .u8 (.slice yiMa xiMb.length yiMc) xiMb]) from hb.right.right.right.right)
 clear ha hb
 dsimp only [StLogRecord.val, StPageRecord.val, BS.v, FR.v]
 go_enter Tryz.func9, Tryz.ntmps9
 have hk0 : Same w ((w.alloc (.cells #[.int .i64 xkind, .int .i64 xtxn, .int .i64 xprev, .int .i64 xpage, .int .i64 xslot, .bool xbU, .slice xbDa xbDb.length xbDc, .bool xaU, .slice xaDa xaDb.length xaDc, .int .i64 xuN, .int .i64 xnT, .slice xtXa xtXn xtXc, .slice xdYa xdYn xdYc, .slice xiMa xiMb.length xiMc] 35)).alloc (.cells #[.int .i64 xkind, .int .i64 xtxn, .int .i64 xprev, .int .i64 xpage, .int .i64 xslot, .bool xbU, .slice ybDa xbDb.length ybDc, .bool xaU, .slice yaDa xaDb.length yaDc, .int .i64 xuN, .int .i64 xnT, .slice ytXa ytXn ytXc, .slice ydYa ydYn ydYc, .slice yiMa xiMb.length yiMc] 35)) := ((Kept.refl _ _).alloc _).alloc _
 have HK0 := (show Hid (Same w _) from hk0)
 obtain ⟨_, HBx0, HBy0⟩ := new2 w [.int .i64 xkind, .int .i64 xtxn, .int .i64 xprev, .int .i64 xpage, .int .i64 xslot, .bool xbU, .slice xbDa xbDb.length xbDc, .bool xaU, .slice xaDa xaDb.length xaDc, .int .i64 xuN, .int .i64 xnT, .slice xtXa xtXn xtXc, .slice xdYa xdYn xdYc, .slice xiMa xiMb.length xiMc] 35 [.int .i64 xkind, .int .i64 xtxn, .int .i64 xprev, .int .i64 xpage, .int .i64 xslot, .bool xbU, .slice ybDa xbDb.length ybDc, .bool xaU, .slice yaDa xaDb.length yaDc, .int .i64 xuN, .int .i64 xnT, .slice ytXa ytXn ytXc, .slice ydYa ydYn ydYc, .slice yiMa xiMb.length yiMc] 35
 clear hk0
 go_wp2_with fail
 refine (eqPageRecord_own ⟨xbU, ⟨xbDe, xbDa, xbDc, xbDb⟩⟩ ⟨xbU, ⟨ybDe, ybDa, ybDc, xbDb⟩⟩ _ (by simp only [StPageRecord.size]; omega) rfl (Hx0.out.same HK0.out) (Hy0.out.same HK0.out)).mono ?_
 rintro e w1 ⟨rfl, hk⟩
 have HK1 := hid (HK0.out.trans hk)
 have HBx1 := hid (HBx0.out.same hk)
 have HBy1 := hid (HBy0.out.same hk)
 clear hk HK0 HBx0 HBy0
 have dx0_7 := HBx1.out.c7
 have dx0_8 := HBx1.out.c8
 have dx0_9 := HBx1.out.c9
 have dx0_10 := HBx1.out.c10
 have dx0_11 := HBx1.out.c11
 have dx0_12 := HBx1.out.c12
 have dx0_13 := HBx1.out.c13
 have dy0_7 := HBy1.out.c7
 have dy0_8 := HBy1.out.c8
 have dy0_9 := HBy1.out.c9
 have dy0_10 := HBy1.out.c10
 have dy0_11 := HBy1.out.c11
 have dy0_12 := HBy1.out.c12
 have dy0_13 := HBy1.out.c13
 go_wp2_with fail
 refine (eqPageRecord_own ⟨xaU, ⟨xaDe, xaDa, xaDc, xaDb⟩⟩ ⟨xaU, ⟨yaDe, yaDa, yaDc, xaDb⟩⟩ _ (by simp only [StPageRecord.size]; omega) rfl (Hx1.out.same HK1.out) (Hy1.out.same HK1.out)).mono ?_
 rintro e w2 ⟨rfl, hk⟩
 have HK2 := hid (HK1.out.trans hk)
 have HBx2 := hid (HBx1.out.same hk)
 have HBy2 := hid (HBy1.out.same hk)
 clear hk HK1 HBx1 HBy1
 have dx1_9 := HBx2.out.c9
 have dx1_10 := HBx2.out.c10
 have dx1_11 := HBx2.out.c11
 have dx1_12 := HBx2.out.c12
 have dx1_13 := HBx2.out.c13
 have dy1_9 := HBy2.out.c9
 have dy1_10 := HBy2.out.c10
 have dy1_11 := HBy2.out.c11
 have dy1_12 := HBy2.out.c12
 have dy1_13 := HBy2.out.c13
 go_wp2_with fail
 refine (eqTxnEntryS_own ⟨xtXe, xtXa, xtXn, xtXc, xtXb⟩ ⟨ytXe, ytXa, ytXn, ytXc, xtXb⟩ _ (by dsimp only; omega) rfl (Hx2.out.same HK2.out) (Hy2.out.same HK2.out)).mono ?_
 rintro e w3 ⟨rfl, hk⟩
 have HK3 := hid (HK2.out.trans hk)
 have HBx3 := hid (HBx2.out.same hk)
 have HBy3 := hid (HBy2.out.same hk)
 clear hk HK2 HBx2 HBy2
 have dx2_12 := HBx3.out.c12
 have dx2_13 := HBx3.out.c13
 have dy2_12 := HBy3.out.c12
 have dy2_13 := HBy3.out.c13
 go_wp2_with fail
 refine (eqDirtyEntryS_own ⟨xdYe, xdYa, xdYn, xdYc, xdYb⟩ ⟨ydYe, ydYa, ydYn, ydYc, xdYb⟩ _ (by dsimp only; omega) rfl (Hx3.out.same HK3.out) (Hy3.out.same HK3.out)).mono ?_
 rintro e w4 ⟨rfl, hk⟩
 have HK4 := hid (HK3.out.trans hk)
 have HBx4 := hid (HBx3.out.same hk)
 have HBy4 := hid (HBy3.out.same hk)
 clear hk HK3 HBx3 HBy3
 have dx3_13 := HBx4.out.c13
 have dy3_13 := HBy4.out.c13
 go_wp2_with fail
 refine (eqByteS_own 0 _ _ xiMb _ (by omega) (Hx4.out.of_one.same HK4.out) (Hy4.out.of_one.same HK4.out)).mono ?_
 rintro e w5 ⟨rfl, nn, hww⟩
 have hk : Same w4 w5 := by rw [hww]; exact (Kept.refl _ _).drewN _
 clear hww
 have HK5 := hid (HK4.out.trans hk)
 have HBx5 := hid (HBx4.out.same hk)
 have HBy5 := hid (HBy4.out.same hk)
 clear hk HK4 HBx4 HBy4
 go_wp2
 go_ret
 exact ⟨rfl, HK5.out⟩
theorem szLogRecord_any (x : StLogRecord) (left : Int) (w : World) (h0 : 0 ≤ left) (h1 : left ≤ 1048576) (ha : StLogRecord.rd w x) :
  Calls Tryz.prog 4 #[x.val, .int .i64 left] w fun e w' => ∃ r : Int, e = .returned (.int .i64 r) ∧ (r = -1 ∨ (r = left - x.szs ∧ 0 ≤ r)) ∧ Same w w' := by
 obtain ⟨xkind, xtxn, xprev, xpage, xslot, ⟨xbU, ⟨xbDe, xbDa, xbDc, xbDb⟩⟩, ⟨xaU, ⟨xaDe, xaDa, xaDc, xaDb⟩⟩, xuN, xnT, ⟨xtXe, xtXa, xtXn, xtXc, xtXb⟩, ⟨xdYe, xdYa, xdYn, xdYc, xdYb⟩, ⟨xiMe, xiMa, xiMc, xiMb⟩⟩ := x
 have HV0 := (show Hid (StPageRecord.rd w ⟨xbU, ⟨xbDe, xbDa, xbDc, xbDb⟩⟩) from ha.1)
 have HV1 := (show Hid (StPageRecord.rd w ⟨xaU, ⟨xaDe, xaDa, xaDc, xaDb⟩⟩) from ha.2.1)
 have hm2 : xtXn ≤ maxLen := (ha.2.2.1).1
 have hm3 : xdYn ≤ maxLen := (ha.2.2.2.1).1
 have hm4 : xiMb.length ≤ maxLen := (ha.2.2.2.2).1
 clear ha
 dsimp only [StLogRecord.val, StPageRecord.val, BS.v, FR.v]
 go_enter Tryz.func4, Tryz.ntmps4
 obtain ⟨HK0, HB0⟩ := new1 w [.int .i64 xkind, .int .i64 xtxn, .int .i64 xprev, .int .i64 xpage, .int .i64 xslot, .bool xbU, .slice xbDa xbDb.length xbDc, .bool xaU, .slice xaDa xaDb.length xaDc, .int .i64 xuN, .int .i64 xnT, .slice xtXa xtXn xtXc, .slice xdYa xdYn xdYc, .slice xiMa xiMb.length xiMc] 28
 go_wp2_with fail
 refine (szPageRecord_any ⟨xbU, ⟨xbDe, xbDa, xbDc, xbDb⟩⟩ left _ (by omega) (by omega) (HV0.out.same HK0.out)).mono ?_
 rintro e w1 ⟨r1, rfl, hr, hk⟩
 have hsz0 := StPageRecord.szs_le ⟨xbU, ⟨xbDe, xbDa, xbDc, xbDb⟩⟩
 have HK1 := hid (HK0.out.trans hk)
 have HB1 := hid (HB0.out.same hk)
 clear hk
 rcases hr with rfl | ⟨hr, hr1⟩
 ·go_wp2
  go_ret
  exact ⟨_, rfl, .inl rfl, HK1.out⟩
 have hle1 : r1 ≤ 1048576 := by omega
 have HR1 := (show Hid (_ = _) from hr)
 clear hr
 have d0_7 := HB1.out.c7
 have d0_8 := HB1.out.c8
 have d0_11 := HB1.out.c11
 have d0_12 := HB1.out.c12
 have d0_13 := HB1.out.c13
 go_wp2_with fail
 refine (szPageRecord_any ⟨xaU, ⟨xaDe, xaDa, xaDc, xaDb⟩⟩ r1 _ (by omega) (by omega) (HV1.out.same HK1.out)).mono ?_
 rintro e w2 ⟨r2, rfl, hr, hk⟩
 have hsz1 := StPageRecord.szs_le ⟨xaU, ⟨xaDe, xaDa, xaDc, xaDb⟩⟩
 have HK2 := hid (HK1.out.trans hk)
 have HB2 := hid (HB1.out.same hk)
 clear hk
 rcases hr with rfl | ⟨hr, hr2⟩
 ·go_wp2
  go_ret
  exact ⟨_, rfl, .inl rfl, HK2.out⟩
 have hle2 : r2 ≤ 1048576 := by omega
 have HR2 := (show Hid (_ = _) from hr)
 clear hr
 have d1_11 := HB2.out.c11
 have d1_12 := HB2.out.c12
 have d1_13 := HB2.out.c13
 go_wp2_with fail
 refine (szTxnEntryS_any _ _ _ r2 _ (by omega) (by omega) hm2).mono ?_
 rintro e w3 ⟨r3, rfl, hr, hww⟩
 have hk : Same w2 w3 := by rw [hww]; exact Kept.refl _ _
 clear hww
 replace hr : r3 = -1 ∨ (r3 = r2 - xtXn ∧ 0 ≤ r3) := by omega
 have HK3 := hid (HK2.out.trans hk)
 have HB3 := hid (HB2.out.same hk)
 clear hk
 rcases hr with rfl | ⟨hr, hr3⟩
 ·go_wp2
  go_ret
  exact ⟨_, rfl, .inl rfl, HK3.out⟩
 have hle3 : r3 ≤ 1048576 := by omega
 have HR3 := (show Hid (_ = _) from hr)
 clear hr
 have d2_12 := HB3.out.c12
 have d2_13 := HB3.out.c13
 go_wp2_with fail
 refine (szDirtyEntryS_any _ _ _ r3 _ (by omega) (by omega) hm3).mono ?_
 rintro e w4 ⟨r4, rfl, hr, hww⟩
 have hk : Same w3 w4 := by rw [hww]; exact Kept.refl _ _
 clear hww
 replace hr : r4 = -1 ∨ (r4 = r3 - xdYn ∧ 0 ≤ r4) := by omega
 have HK4 := hid (HK3.out.trans hk)
 have HB4 := hid (HB3.out.same hk)
 clear hk
 rcases hr with rfl | ⟨hr, hr4⟩
 ·go_wp2
  go_ret
  exact ⟨_, rfl, .inl rfl, HK4.out⟩
 have hle4 : r4 ≤ 1048576 := by omega
 have HR4 := (show Hid (_ = _) from hr)
 clear hr
 have d3_13 := HB4.out.c13
 go_wp2_with fail
 refine (szByteS_any _ _ _ r4 _ (by omega) (by omega) hm4).mono ?_
 rintro e w5 ⟨r5, rfl, hr, hww⟩
 have hk : Same w4 w5 := by rw [hww]; exact Kept.refl _ _
 clear hww
 replace hr : r5 = -1 ∨ (r5 = r4 - xiMb.length ∧ 0 ≤ r5) := by omega
 have HK5 := hid (HK4.out.trans hk)
 have HB5 := hid (HB4.out.same hk)
 clear hk
 rcases hr with rfl | ⟨hr, hr5⟩
 ·go_wp2
  go_ret
  exact ⟨_, rfl, .inl rfl, HK5.out⟩
 have hle5 : r5 ≤ 1048576 := by omega
 have HR5 := (show Hid (_ = _) from hr)
 clear hr
 go_wp2
 go_ret
 exact ⟨_, rfl, .inr ⟨by have e1 := HR1.out; have e2 := HR2.out; have e3 := HR3.out; have e4 := HR4.out; have e5 := HR5.out; simp only [StLogRecord.szs]; omega, hr5⟩, HK5.out⟩
theorem toLogRecord_any (x : StLogRecord) (w : World) (hn : x.szs ≤ 1073741824) (ha : StLogRecord.rd w x) :
  Calls Tryz.prog 6 #[x.val] w fun e w' => ∃ y : StLogRecord, e = .returned y.val ∧ y.dat = x.dat ∧ y.szs = x.szs ∧ (∀ b, FootL y.rows b → w.heap.size ≤ b) ∧ OwnL w' y.rows ∧ Same w w' := by
 obtain ⟨xkind, xtxn, xprev, xpage, xslot, ⟨xbU, ⟨xbDe, xbDa, xbDc, xbDb⟩⟩, ⟨xaU, ⟨xaDe, xaDa, xaDc, xaDb⟩⟩, xuN, xnT, ⟨xtXe, xtXa, xtXn, xtXc, xtXb⟩, ⟨xdYe, xdYa, xdYn, xdYc, xdYb⟩, ⟨xiMe, xiMa, xiMc, xiMb⟩⟩ := x
 have HV0 := (show Hid (StPageRecord.rd w ⟨xbU, ⟨xbDe, xbDa, xbDc, xbDb⟩⟩) from ha.1)
 have HV1 := (show Hid (StPageRecord.rd w ⟨xaU, ⟨xaDe, xaDa, xaDc, xaDb⟩⟩) from ha.2.1)
 have HV2 := (show Hid (RdF 4 w ⟨xtXe, xtXa, xtXn, xtXc, xtXb⟩) from ha.2.2.1)
 have HV3 := (show Hid (RdF 2 w ⟨xdYe, xdYa, xdYn, xdYc, xdYb⟩) from ha.2.2.2.1)
 have HV4 := (show Hid (Rd .u8 w (.slice xiMa xiMb.length xiMc) xiMb) from ha.2.2.2.2)
 clear ha
 simp only [StLogRecord.szs] at hn
 have hsz0 := StPageRecord.szs_le ⟨xbU, ⟨xbDe, xbDa, xbDc, xbDb⟩⟩
 have hsz1 := StPageRecord.szs_le ⟨xaU, ⟨xaDe, xaDa, xaDc, xaDb⟩⟩
 dsimp only [StLogRecord.val, StPageRecord.val, BS.v, FR.v]
 go_enter Tryz.func6, Tryz.ntmps6
 have hk0 : Same w (((w.alloc (.cells #[.int .i64 xkind, .int .i64 xtxn, .int .i64 xprev, .int .i64 xpage, .int .i64 xslot, .bool xbU, .slice xbDa xbDb.length xbDc, .bool xaU, .slice xaDa xaDb.length xaDc, .int .i64 xuN, .int .i64 xnT, .slice xtXa xtXn xtXc, .slice xdYa xdYn xdYc, .slice xiMa xiMb.length xiMc] 28)).alloc (.cells #[.int .i64 0, .int .i64 0, .int .i64 0, .int .i64 0, .int .i64 0, .bool false, .slice none 0 0, .bool false, .slice none 0 0, .int .i64 0, .int .i64 0, .slice none 0 0, .slice none 0 0, .slice none 0 0] 35)).alloc (.cells #[.int .i64 xkind, .int .i64 xtxn, .int .i64 xprev, .int .i64 xpage, .int .i64 xslot, .bool false, .slice none 0 0, .bool false, .slice none 0 0, .int .i64 0, .int .i64 0, .slice none 0 0, .slice none 0 0, .slice none 0 0] 35)) := (((Kept.refl _ _).alloc _).alloc _).alloc _
 have b0 : Blk (((w.alloc (.cells #[.int .i64 xkind, .int .i64 xtxn, .int .i64 xprev, .int .i64 xpage, .int .i64 xslot, .bool xbU, .slice xbDa xbDb.length xbDc, .bool xaU, .slice xaDa xaDb.length xaDc, .int .i64 xuN, .int .i64 xnT, .slice xtXa xtXn xtXc, .slice xdYa xdYn xdYc, .slice xiMa xiMb.length xiMc] 28)).alloc (.cells #[.int .i64 0, .int .i64 0, .int .i64 0, .int .i64 0, .int .i64 0, .bool false, .slice none 0 0, .bool false, .slice none 0 0, .int .i64 0, .int .i64 0, .slice none 0 0, .slice none 0 0, .slice none 0 0] 35)).alloc (.cells #[.int .i64 xkind, .int .i64 xtxn, .int .i64 xprev, .int .i64 xpage, .int .i64 xslot, .bool false, .slice none 0 0, .bool false, .slice none 0 0, .int .i64 0, .int .i64 0, .slice none 0 0, .slice none 0 0, .slice none 0 0] 35)) (w.heap.size) 28 [.int .i64 xkind, .int .i64 xtxn, .int .i64 xprev, .int .i64 xpage, .int .i64 xslot, .bool xbU, .slice xbDa xbDb.length xbDc, .bool xaU, .slice xaDa xaDb.length xaDc, .int .i64 xuN, .int .i64 xnT, .slice xtXa xtXn xtXc, .slice xdYa xdYn xdYc, .slice xiMa xiMb.length xiMc] := ((Blk.new w #[.int .i64 xkind, .int .i64 xtxn, .int .i64 xprev, .int .i64 xpage, .int .i64 xslot, .bool xbU, .slice xbDa xbDb.length xbDc, .bool xaU, .slice xaDa xaDb.length xaDc, .int .i64 xuN, .int .i64 xnT, .slice xtXa xtXn xtXc, .slice xdYa xdYn xdYc, .slice xiMa xiMb.length xiMc] 28).alloc _).alloc _
 have b1 : Blk (((w.alloc (.cells #[.int .i64 xkind, .int .i64 xtxn, .int .i64 xprev, .int .i64 xpage, .int .i64 xslot, .bool xbU, .slice xbDa xbDb.length xbDc, .bool xaU, .slice xaDa xaDb.length xaDc, .int .i64 xuN, .int .i64 xnT, .slice xtXa xtXn xtXc, .slice xdYa xdYn xdYc, .slice xiMa xiMb.length xiMc] 28)).alloc (.cells #[.int .i64 0, .int .i64 0, .int .i64 0, .int .i64 0, .int .i64 0, .bool false, .slice none 0 0, .bool false, .slice none 0 0, .int .i64 0, .int .i64 0, .slice none 0 0, .slice none 0 0, .slice none 0 0] 35)).alloc (.cells #[.int .i64 xkind, .int .i64 xtxn, .int .i64 xprev, .int .i64 xpage, .int .i64 xslot, .bool false, .slice none 0 0, .bool false, .slice none 0 0, .int .i64 0, .int .i64 0, .slice none 0 0, .slice none 0 0, .slice none 0 0] 35)) (w.heap.size + 1) 35 [.int .i64 0, .int .i64 0, .int .i64 0, .int .i64 0, .int .i64 0, .bool false, .slice none 0 0, .bool false, .slice none 0 0, .int .i64 0, .int .i64 0, .slice none 0 0, .slice none 0 0, .slice none 0 0] := by have h := (Blk.new (w.alloc (.cells #[.int .i64 xkind, .int .i64 xtxn, .int .i64 xprev, .int .i64 xpage, .int .i64 xslot, .bool xbU, .slice xbDa xbDb.length xbDc, .bool xaU, .slice xaDa xaDb.length xaDc, .int .i64 xuN, .int .i64 xnT, .slice xtXa xtXn xtXc, .slice xdYa xdYn xdYc, .slice xiMa xiMb.length xiMc] 28)) #[.int .i64 0, .int .i64 0, .int .i64 0, .int .i64 0, .int .i64 0, .bool false, .slice none 0 0, .bool false, .slice none 0 0, .int .i64 0, .int .i64 0, .slice none 0 0, .slice none 0 0, .slice none 0 0] 35).alloc (.cells #[.int .i64 xkind, .int .i64 xtxn, .int .i64 xprev, .int .i64 xpage, .int .i64 xslot, .bool false, .slice none 0 0, .bool false, .slice none 0 0, .int .i64 0, .int .i64 0, .slice none 0 0, .slice none 0 0, .slice none 0 0] 35); rwa [World.size_alloc] at h
 have b2 : Blk (((w.alloc (.cells #[.int .i64 xkind, .int .i64 xtxn, .int .i64 xprev, .int .i64 xpage, .int .i64 xslot, .bool xbU, .slice xbDa xbDb.length xbDc, .bool xaU, .slice xaDa xaDb.length xaDc, .int .i64 xuN, .int .i64 xnT, .slice xtXa xtXn xtXc, .slice xdYa xdYn xdYc, .slice xiMa xiMb.length xiMc] 28)).alloc (.cells #[.int .i64 0, .int .i64 0, .int .i64 0, .int .i64 0, .int .i64 0, .bool false, .slice none 0 0, .bool false, .slice none 0 0, .int .i64 0, .int .i64 0, .slice none 0 0, .slice none 0 0, .slice none 0 0] 35)).alloc (.cells #[.int .i64 xkind, .int .i64 xtxn, .int .i64 xprev, .int .i64 xpage, .int .i64 xslot, .bool false, .slice none 0 0, .bool false, .slice none 0 0, .int .i64 0, .int .i64 0, .slice none 0 0, .slice none 0 0, .slice none 0 0] 35)) (w.heap.size + 1 + 1) 35 [.int .i64 xkind, .int .i64 xtxn, .int .i64 xprev, .int .i64 xpage, .int .i64 xslot, .bool false, .slice none 0 0, .bool false, .slice none 0 0, .int .i64 0, .int .i64 0, .slice none 0 0, .slice none 0 0, .slice none 0 0] := by have h := Blk.new ((w.alloc (.cells #[.int .i64 xkind, .int .i64 xtxn, .int .i64 xprev, .int .i64 xpage, .int .i64 xslot, .bool xbU, .slice xbDa xbDb.length xbDc, .bool xaU, .slice xaDa xaDb.length xaDc, .int .i64 xuN, .int .i64 xnT, .slice xtXa xtXn xtXc, .slice xdYa xdYn xdYc, .slice xiMa xiMb.length xiMc] 28)).alloc (.cells #[.int .i64 0, .int .i64 0, .int .i64 0, .int .i64 0, .int .i64 0, .bool false, .slice none 0 0, .bool false, .slice none 0 0, .int .i64 0, .int .i64 0, .slice none 0 0, .slice none 0 0, .slice none 0 0] 35)) #[.int .i64 xkind, .int .i64 xtxn, .int .i64 xprev, .int .i64 xpage, .int .i64 xslot, .bool false, .slice none 0 0, .bool false, .slice none 0 0, .int .i64 0, .int .i64 0, .slice none 0 0, .slice none 0 0, .slice none 0 0] 35; rwa [World.size_alloc, World.size_alloc] at h
 have hsz : (((w.alloc (.cells #[.int .i64 xkind, .int .i64 xtxn, .int .i64 xprev, .int .i64 xpage, .int .i64 xslot, .bool xbU, .slice xbDa xbDb.length xbDc, .bool xaU, .slice xaDa xaDb.length xaDc, .int .i64 xuN, .int .i64 xnT, .slice xtXa xtXn xtXc, .slice xdYa xdYn xdYc, .slice xiMa xiMb.length xiMc] 28)).alloc (.cells #[.int .i64 0, .int .i64 0, .int .i64 0, .int .i64 0, .int .i64 0, .bool false, .slice none 0 0, .bool false, .slice none 0 0, .int .i64 0, .int .i64 0, .slice none 0 0, .slice none 0 0, .slice none 0 0] 35)).alloc (.cells #[.int .i64 xkind, .int .i64 xtxn, .int .i64 xprev, .int .i64 xpage, .int .i64 xslot, .bool false, .slice none 0 0, .bool false, .slice none 0 0, .int .i64 0, .int .i64 0, .slice none 0 0, .slice none 0 0, .slice none 0 0] 35)).heap.size = w.heap.size + 1 + 1 + 1 := by simp only [World.size_alloc]
 go_wp2_with fail
 refine (toPageRecord_any ⟨xbU, ⟨xbDe, xbDa, xbDc, xbDb⟩⟩ _ (by omega) (HV0.out.same hk0)).mono ?_
 rintro e w1 ⟨⟨y0used, ⟨y0data_e, y0data_a, y0data_c, y0data_b⟩⟩, rfl, hd0, hz0, hg, O0, hk⟩
 have HZ0 := (show Hid (StPageRecord.szs ⟨y0used, ⟨y0data_e, y0data_a, y0data_c, y0data_b⟩⟩ = StPageRecord.szs ⟨xbU, ⟨xbDe, xbDa, xbDc, xbDb⟩⟩) from hz0)
 clear hz0
 have F0 : ∀ b, FootL (StPageRecord.rows ⟨y0used, ⟨y0data_e, y0data_a, y0data_c, y0data_b⟩⟩) b → w.heap.size + 1 + 1 < b := fun b hb => by have h := hg b hb; omega
 dsimp only [StPageRecord.val, BS.v]
 have hk1 : Same w w1 := hk0.trans hk
 replace b0 : Blk w1 (w.heap.size) 28 [.int .i64 xkind, .int .i64 xtxn, .int .i64 xprev, .int .i64 xpage, .int .i64 xslot, .bool xbU, .slice xbDa xbDb.length xbDc, .bool xaU, .slice xaDa xaDb.length xaDc, .int .i64 xuN, .int .i64 xnT, .slice xtXa xtXn xtXc, .slice xdYa xdYn xdYc, .slice xiMa xiMb.length xiMc] := b0.same hk
 replace b1 : Blk w1 (w.heap.size + 1) 35 [.int .i64 0, .int .i64 0, .int .i64 0, .int .i64 0, .int .i64 0, .bool false, .slice none 0 0, .bool false, .slice none 0 0, .int .i64 0, .int .i64 0, .slice none 0 0, .slice none 0 0, .slice none 0 0] := b1.same hk
 replace b2 : Blk w1 (w.heap.size + 1 + 1) 35 [.int .i64 xkind, .int .i64 xtxn, .int .i64 xprev, .int .i64 xpage, .int .i64 xslot, .bool false, .slice none 0 0, .bool false, .slice none 0 0, .int .i64 0, .int .i64 0, .slice none 0 0, .slice none 0 0, .slice none 0 0] := b2.same hk
 replace hsz : w.heap.size + 1 + 1 + 1 ≤ w1.heap.size := by have := hk.size; omega
 clear hk hg
 have da1_0 := b0.c0
 have dr1_0 := b1.c0
 have fr1_0 : w1.frozen? ⟨w.heap.size + 1, 0, none⟩ = false := b1.frozen 0
 have do1_0 := b2.c0
 have fo1_0 : w1.frozen? ⟨w.heap.size + 1 + 1, 0, none⟩ = false := b2.frozen 0
 have da1_1 := b0.c1
 have dr1_1 := b1.c1
 have fr1_1 : w1.frozen? ⟨w.heap.size + 1, 1, none⟩ = false := b1.frozen 1
 have do1_1 := b2.c1
 have fo1_1 : w1.frozen? ⟨w.heap.size + 1 + 1, 1, none⟩ = false := b2.frozen 1
 have da1_2 := b0.c2
 have dr1_2 := b1.c2
 have fr1_2 : w1.frozen? ⟨w.heap.size + 1, 2, none⟩ = false := b1.frozen 2
 have do1_2 := b2.c2
 have fo1_2 : w1.frozen? ⟨w.heap.size + 1 + 1, 2, none⟩ = false := b2.frozen 2
 have da1_3 := b0.c3
 have dr1_3 := b1.c3
 have fr1_3 : w1.frozen? ⟨w.heap.size + 1, 3, none⟩ = false := b1.frozen 3
 have do1_3 := b2.c3
 have fo1_3 : w1.frozen? ⟨w.heap.size + 1 + 1, 3, none⟩ = false := b2.frozen 3
 have da1_4 := b0.c4
 have dr1_4 := b1.c4
 have fr1_4 : w1.frozen? ⟨w.heap.size + 1, 4, none⟩ = false := b1.frozen 4
 have do1_4 := b2.c4
 have fo1_4 : w1.frozen? ⟨w.heap.size + 1 + 1, 4, none⟩ = false := b2.frozen 4
 have da1_5 := b0.c5
 have dr1_5 := b1.c5
 have fr1_5 : w1.frozen? ⟨w.heap.size + 1, 5, none⟩ = false := b1.frozen 5
 have do1_5 := b2.c5
 have fo1_5 : w1.frozen? ⟨w.heap.size + 1 + 1, 5, none⟩ = false := b2.frozen 5
 have da1_6 := b0.c6
 have dr1_6 := b1.c6
 have fr1_6 : w1.frozen? ⟨w.heap.size + 1, 6, none⟩ = false := b1.frozen 6
 have do1_6 := b2.c6
 have fo1_6 : w1.frozen? ⟨w.heap.size + 1 + 1, 6, none⟩ = false := b2.frozen 6
 have da1_7 := b0.c7
 have dr1_7 := b1.c7
 have fr1_7 : w1.frozen? ⟨w.heap.size + 1, 7, none⟩ = false := b1.frozen 7
 have do1_7 := b2.c7
 have fo1_7 : w1.frozen? ⟨w.heap.size + 1 + 1, 7, none⟩ = false := b2.frozen 7
 have da1_8 := b0.c8
 have dr1_8 := b1.c8
 have fr1_8 : w1.frozen? ⟨w.heap.size + 1, 8, none⟩ = false := b1.frozen 8
 have do1_8 := b2.c8
 have fo1_8 : w1.frozen? ⟨w.heap.size + 1 + 1, 8, none⟩ = false := b2.frozen 8
 have da1_9 := b0.c9
 have dr1_9 := b1.c9
 have fr1_9 : w1.frozen? ⟨w.heap.size + 1, 9, none⟩ = false := b1.frozen 9
 have do1_9 := b2.c9
 have fo1_9 : w1.frozen? ⟨w.heap.size + 1 + 1, 9, none⟩ = false := b2.frozen 9
 have da1_10 := b0.c10
 have dr1_10 := b1.c10
 have fr1_10 : w1.frozen? ⟨w.heap.size + 1, 10, none⟩ = false := b1.frozen 10
 have do1_10 := b2.c10
 have fo1_10 : w1.frozen? ⟨w.heap.size + 1 + 1, 10, none⟩ = false := b2.frozen 10
 have da1_11 := b0.c11
 have dr1_11 := b1.c11
 have fr1_11 : w1.frozen? ⟨w.heap.size + 1, 11, none⟩ = false := b1.frozen 11
 have do1_11 := b2.c11
 have fo1_11 : w1.frozen? ⟨w.heap.size + 1 + 1, 11, none⟩ = false := b2.frozen 11
 have da1_12 := b0.c12
 have dr1_12 := b1.c12
 have fr1_12 : w1.frozen? ⟨w.heap.size + 1, 12, none⟩ = false := b1.frozen 12
 have do1_12 := b2.c12
 have fo1_12 : w1.frozen? ⟨w.heap.size + 1 + 1, 12, none⟩ = false := b2.frozen 12
 have da1_13 := b0.c13
 have dr1_13 := b1.c13
 have fr1_13 : w1.frozen? ⟨w.heap.size + 1, 13, none⟩ = false := b1.frozen 13
 have do1_13 := b2.c13
 have fo1_13 : w1.frozen? ⟨w.heap.size + 1 + 1, 13, none⟩ = false := b2.frozen 13
 have hk2 : Same w (w1.setCell ⟨w.heap.size + 1 + 1, 5, none⟩ (.bool y0used)) := hk1.setCell (.inl (by simp only []; omega)) _
 replace b0 : Blk (w1.setCell ⟨w.heap.size + 1 + 1, 5, none⟩ (.bool y0used)) (w.heap.size) 28 [.int .i64 xkind, .int .i64 xtxn, .int .i64 xprev, .int .i64 xpage, .int .i64 xslot, .bool xbU, .slice xbDa xbDb.length xbDc, .bool xaU, .slice xaDa xaDb.length xaDc, .int .i64 xuN, .int .i64 xnT, .slice xtXa xtXn xtXc, .slice xdYa xdYn xdYc, .slice xiMa xiMb.length xiMc] := b0.other (by simp only []; omega) _
 replace b1 : Blk (w1.setCell ⟨w.heap.size + 1 + 1, 5, none⟩ (.bool y0used)) (w.heap.size + 1) 35 [.int .i64 0, .int .i64 0, .int .i64 0, .int .i64 0, .int .i64 0, .bool false, .slice none 0 0, .bool false, .slice none 0 0, .int .i64 0, .int .i64 0, .slice none 0 0, .slice none 0 0, .slice none 0 0] := b1.other (by simp only []; omega) _
 replace b2 : Blk (w1.setCell ⟨w.heap.size + 1 + 1, 5, none⟩ (.bool y0used)) (w.heap.size + 1 + 1) 35 [.int .i64 xkind, .int .i64 xtxn, .int .i64 xprev, .int .i64 xpage, .int .i64 xslot, .bool y0used, .slice none 0 0, .bool false, .slice none 0 0, .int .i64 0, .int .i64 0, .slice none 0 0, .slice none 0 0, .slice none 0 0] := b2.stored 5 _
 replace O0 : OwnL (w1.setCell ⟨w.heap.size + 1 + 1, 5, none⟩ (.bool y0used)) (StPageRecord.rows ⟨y0used, ⟨y0data_e, y0data_a, y0data_c, y0data_b⟩⟩) := O0.kept (Kept.setCell (Kept.refl (fun b => b = w.heap.size + 1 + 1) _) (.inr rfl) _) (fun b hb e => by have := F0 b hb; omega)
 replace hsz : w.heap.size + 1 + 1 + 1 ≤ (w1.setCell ⟨w.heap.size + 1 + 1, 5, none⟩ (.bool y0used)).heap.size := by rw [World.size_setCell]; exact hsz
 have hk3 : Same w ((w1.setCell ⟨w.heap.size + 1 + 1, 5, none⟩ (.bool y0used)).setCell ⟨w.heap.size + 1 + 1, 6, none⟩ (.slice y0data_a y0data_b.length y0data_c)) := hk2.setCell (.inl (by simp only []; omega)) _
 replace b0 : Blk ((w1.setCell ⟨w.heap.size + 1 + 1, 5, none⟩ (.bool y0used)).setCell ⟨w.heap.size + 1 + 1, 6, none⟩ (.slice y0data_a y0data_b.length y0data_c)) (w.heap.size) 28 [.int .i64 xkind, .int .i64 xtxn, .int .i64 xprev, .int .i64 xpage, .int .i64 xslot, .bool xbU, .slice xbDa xbDb.length xbDc, .bool xaU, .slice xaDa xaDb.length xaDc, .int .i64 xuN, .int .i64 xnT, .slice xtXa xtXn xtXc, .slice xdYa xdYn xdYc, .slice xiMa xiMb.length xiMc] := b0.other (by simp only []; omega) _
 replace b1 : Blk ((w1.setCell ⟨w.heap.size + 1 + 1, 5, none⟩ (.bool y0used)).setCell ⟨w.heap.size + 1 + 1, 6, none⟩ (.slice y0data_a y0data_b.length y0data_c)) (w.heap.size + 1) 35 [.int .i64 0, .int .i64 0, .int .i64 0, .int .i64 0, .int .i64 0, .bool false, .slice none 0 0, .bool false, .slice none 0 0, .int .i64 0, .int .i64 0, .slice none 0 0, .slice none 0 0, .slice none 0 0] := b1.other (by simp only []; omega) _
 replace b2 : Blk ((w1.setCell ⟨w.heap.size + 1 + 1, 5, none⟩ (.bool y0used)).setCell ⟨w.heap.size + 1 + 1, 6, none⟩ (.slice y0data_a y0data_b.length y0data_c)) (w.heap.size + 1 + 1) 35 [.int .i64 xkind, .int .i64 xtxn, .int .i64 xprev, .int .i64 xpage, .int .i64 xslot, .bool y0used, .slice y0data_a y0data_b.length y0data_c, .bool false, .slice none 0 0, .int .i64 0, .int .i64 0, .slice none 0 0, .slice none 0 0, .slice none 0 0] := b2.stored 6 _
 replace O0 : OwnL ((w1.setCell ⟨w.heap.size + 1 + 1, 5, none⟩ (.bool y0used)).setCell ⟨w.heap.size + 1 + 1, 6, none⟩ (.slice y0data_a y0data_b.length y0data_c)) (StPageRecord.rows ⟨y0used, ⟨y0data_e, y0data_a, y0data_c, y0data_b⟩⟩) := O0.kept (Kept.setCell (Kept.refl (fun b => b = w.heap.size + 1 + 1) _) (.inr rfl) _) (fun b hb e => by have := F0 b hb; omega)
 replace hsz : w.heap.size + 1 + 1 + 1 ≤ ((w1.setCell ⟨w.heap.size + 1 + 1, 5, none⟩ (.bool y0used)).setCell ⟨w.heap.size + 1 + 1, 6, none⟩ (.slice y0data_a y0data_b.length y0data_c)).heap.size := by rw [World.size_setCell]; exact hsz
 go_wp2_with fail
 refine (toPageRecord_any ⟨xaU, ⟨xaDe, xaDa, xaDc, xaDb⟩⟩ _ (by omega) (HV1.out.same hk3)).mono ?_
 rintro e w2 ⟨⟨y1used, ⟨y1data_e, y1data_a, y1data_c, y1data_b⟩⟩, rfl, hd1, hz1, hg, O1, hk⟩
 have HZ1 := (show Hid (StPageRecord.szs ⟨y1used, ⟨y1data_e, y1data_a, y1data_c, y1data_b⟩⟩ = StPageRecord.szs ⟨xaU, ⟨xaDe, xaDa, xaDc, xaDb⟩⟩) from hz1)
 clear hz1
 have F1 : ∀ b, FootL (StPageRecord.rows ⟨y1used, ⟨y1data_e, y1data_a, y1data_c, y1data_b⟩⟩) b → w.heap.size + 1 + 1 < b := fun b hb => by have h := hg b hb; omega
 dsimp only [StPageRecord.val, BS.v]
 have X0_1 : ∀ b, FootL (StPageRecord.rows ⟨y0used, ⟨y0data_e, y0data_a, y0data_c, y0data_b⟩⟩) b → ¬ FootL (StPageRecord.rows ⟨y1used, ⟨y1data_e, y1data_a, y1data_c, y1data_b⟩⟩) b := fun b hb e => by have h1 := O0.lt b hb; have h2 := hg b e; omega
 replace O0 : OwnL w2 (StPageRecord.rows ⟨y0used, ⟨y0data_e, y0data_a, y0data_c, y0data_b⟩⟩) := O0.same hk
 have hk4 : Same w w2 := hk3.trans hk
 replace b0 : Blk w2 (w.heap.size) 28 [.int .i64 xkind, .int .i64 xtxn, .int .i64 xprev, .int .i64 xpage, .int .i64 xslot, .bool xbU, .slice xbDa xbDb.length xbDc, .bool xaU, .slice xaDa xaDb.length xaDc, .int .i64 xuN, .int .i64 xnT, .slice xtXa xtXn xtXc, .slice xdYa xdYn xdYc, .slice xiMa xiMb.length xiMc] := b0.same hk
 replace b1 : Blk w2 (w.heap.size + 1) 35 [.int .i64 0, .int .i64 0, .int .i64 0, .int .i64 0, .int .i64 0, .bool false, .slice none 0 0, .bool false, .slice none 0 0, .int .i64 0, .int .i64 0, .slice none 0 0, .slice none 0 0, .slice none 0 0] := b1.same hk
 replace b2 : Blk w2 (w.heap.size + 1 + 1) 35 [.int .i64 xkind, .int .i64 xtxn, .int .i64 xprev, .int .i64 xpage, .int .i64 xslot, .bool y0used, .slice y0data_a y0data_b.length y0data_c, .bool false, .slice none 0 0, .int .i64 0, .int .i64 0, .slice none 0 0, .slice none 0 0, .slice none 0 0] := b2.same hk
 replace hsz : w.heap.size + 1 + 1 + 1 ≤ w2.heap.size := by have := hk.size; omega
 clear hk hg
 have da2_0 := b0.c0
 have dr2_0 := b1.c0
 have fr2_0 : w2.frozen? ⟨w.heap.size + 1, 0, none⟩ = false := b1.frozen 0
 have do2_0 := b2.c0
 have fo2_0 : w2.frozen? ⟨w.heap.size + 1 + 1, 0, none⟩ = false := b2.frozen 0
 have da2_1 := b0.c1
 have dr2_1 := b1.c1
 have fr2_1 : w2.frozen? ⟨w.heap.size + 1, 1, none⟩ = false := b1.frozen 1
 have do2_1 := b2.c1
 have fo2_1 : w2.frozen? ⟨w.heap.size + 1 + 1, 1, none⟩ = false := b2.frozen 1
 have da2_2 := b0.c2
 have dr2_2 := b1.c2
 have fr2_2 : w2.frozen? ⟨w.heap.size + 1, 2, none⟩ = false := b1.frozen 2
 have do2_2 := b2.c2
 have fo2_2 : w2.frozen? ⟨w.heap.size + 1 + 1, 2, none⟩ = false := b2.frozen 2
 have da2_3 := b0.c3
 have dr2_3 := b1.c3
 have fr2_3 : w2.frozen? ⟨w.heap.size + 1, 3, none⟩ = false := b1.frozen 3
 have do2_3 := b2.c3
 have fo2_3 : w2.frozen? ⟨w.heap.size + 1 + 1, 3, none⟩ = false := b2.frozen 3
 have da2_4 := b0.c4
 have dr2_4 := b1.c4
 have fr2_4 : w2.frozen? ⟨w.heap.size + 1, 4, none⟩ = false := b1.frozen 4
 have do2_4 := b2.c4
 have fo2_4 : w2.frozen? ⟨w.heap.size + 1 + 1, 4, none⟩ = false := b2.frozen 4
 have da2_5 := b0.c5
 have dr2_5 := b1.c5
 have fr2_5 : w2.frozen? ⟨w.heap.size + 1, 5, none⟩ = false := b1.frozen 5
 have do2_5 := b2.c5
 have fo2_5 : w2.frozen? ⟨w.heap.size + 1 + 1, 5, none⟩ = false := b2.frozen 5
 have da2_6 := b0.c6
 have dr2_6 := b1.c6
 have fr2_6 : w2.frozen? ⟨w.heap.size + 1, 6, none⟩ = false := b1.frozen 6
 have do2_6 := b2.c6
 have fo2_6 : w2.frozen? ⟨w.heap.size + 1 + 1, 6, none⟩ = false := b2.frozen 6
 have da2_7 := b0.c7
 have dr2_7 := b1.c7
 have fr2_7 : w2.frozen? ⟨w.heap.size + 1, 7, none⟩ = false := b1.frozen 7
 have do2_7 := b2.c7
 have fo2_7 : w2.frozen? ⟨w.heap.size + 1 + 1, 7, none⟩ = false := b2.frozen 7
 have da2_8 := b0.c8
 have dr2_8 := b1.c8
 have fr2_8 : w2.frozen? ⟨w.heap.size + 1, 8, none⟩ = false := b1.frozen 8
 have do2_8 := b2.c8
 have fo2_8 : w2.frozen? ⟨w.heap.size + 1 + 1, 8, none⟩ = false := b2.frozen 8
 have da2_9 := b0.c9
 have dr2_9 := b1.c9
 have fr2_9 : w2.frozen? ⟨w.heap.size + 1, 9, none⟩ = false := b1.frozen 9
 have do2_9 := b2.c9
 have fo2_9 : w2.frozen? ⟨w.heap.size + 1 + 1, 9, none⟩ = false := b2.frozen 9
 have da2_10 := b0.c10
 have dr2_10 := b1.c10
 have fr2_10 : w2.frozen? ⟨w.heap.size + 1, 10, none⟩ = false := b1.frozen 10
 have do2_10 := b2.c10
 have fo2_10 : w2.frozen? ⟨w.heap.size + 1 + 1, 10, none⟩ = false := b2.frozen 10
 have da2_11 := b0.c11
 have dr2_11 := b1.c11
 have fr2_11 : w2.frozen? ⟨w.heap.size + 1, 11, none⟩ = false := b1.frozen 11
 have do2_11 := b2.c11
 have fo2_11 : w2.frozen? ⟨w.heap.size + 1 + 1, 11, none⟩ = false := b2.frozen 11
 have da2_12 := b0.c12
 have dr2_12 := b1.c12
 have fr2_12 : w2.frozen? ⟨w.heap.size + 1, 12, none⟩ = false := b1.frozen 12
 have do2_12 := b2.c12
 have fo2_12 : w2.frozen? ⟨w.heap.size + 1 + 1, 12, none⟩ = false := b2.frozen 12
 have da2_13 := b0.c13
 have dr2_13 := b1.c13
 have fr2_13 : w2.frozen? ⟨w.heap.size + 1, 13, none⟩ = false := b1.frozen 13
 have do2_13 := b2.c13
 have fo2_13 : w2.frozen? ⟨w.heap.size + 1 + 1, 13, none⟩ = false := b2.frozen 13
 have hk5 : Same w (w2.setCell ⟨w.heap.size + 1 + 1, 7, none⟩ (.bool y1used)) := hk4.setCell (.inl (by simp only []; omega)) _
 replace b0 : Blk (w2.setCell ⟨w.heap.size + 1 + 1, 7, none⟩ (.bool y1used)) (w.heap.size) 28 [.int .i64 xkind, .int .i64 xtxn, .int .i64 xprev, .int .i64 xpage, .int .i64 xslot, .bool xbU, .slice xbDa xbDb.length xbDc, .bool xaU, .slice xaDa xaDb.length xaDc, .int .i64 xuN, .int .i64 xnT, .slice xtXa xtXn xtXc, .slice xdYa xdYn xdYc, .slice xiMa xiMb.length xiMc] := b0.other (by simp only []; omega) _
 replace b1 : Blk (w2.setCell ⟨w.heap.size + 1 + 1, 7, none⟩ (.bool y1used)) (w.heap.size + 1) 35 [.int .i64 0, .int .i64 0, .int .i64 0, .int .i64 0, .int .i64 0, .bool false, .slice none 0 0, .bool false, .slice none 0 0, .int .i64 0, .int .i64 0, .slice none 0 0, .slice none 0 0, .slice none 0 0] := b1.other (by simp only []; omega) _
 replace b2 : Blk (w2.setCell ⟨w.heap.size + 1 + 1, 7, none⟩ (.bool y1used)) (w.heap.size + 1 + 1) 35 [.int .i64 xkind, .int .i64 xtxn, .int .i64 xprev, .int .i64 xpage, .int .i64 xslot, .bool y0used, .slice y0data_a y0data_b.length y0data_c, .bool y1used, .slice none 0 0, .int .i64 0, .int .i64 0, .slice none 0 0, .slice none 0 0, .slice none 0 0] := b2.stored 7 _
 replace O0 : OwnL (w2.setCell ⟨w.heap.size + 1 + 1, 7, none⟩ (.bool y1used)) (StPageRecord.rows ⟨y0used, ⟨y0data_e, y0data_a, y0data_c, y0data_b⟩⟩) := O0.kept (Kept.setCell (Kept.refl (fun b => b = w.heap.size + 1 + 1) _) (.inr rfl) _) (fun b hb e => by have := F0 b hb; omega)
 replace O1 : OwnL (w2.setCell ⟨w.heap.size + 1 + 1, 7, none⟩ (.bool y1used)) (StPageRecord.rows ⟨y1used, ⟨y1data_e, y1data_a, y1data_c, y1data_b⟩⟩) := O1.kept (Kept.setCell (Kept.refl (fun b => b = w.heap.size + 1 + 1) _) (.inr rfl) _) (fun b hb e => by have := F1 b hb; omega)
 replace hsz : w.heap.size + 1 + 1 + 1 ≤ (w2.setCell ⟨w.heap.size + 1 + 1, 7, none⟩ (.bool y1used)).heap.size := by rw [World.size_setCell]; exact hsz
 have hk6 : Same w ((w2.setCell ⟨w.heap.size + 1 + 1, 7, none⟩ (.bool y1used)).setCell ⟨w.heap.size + 1 + 1, 8, none⟩ (.slice y1data_a y1data_b.length y1data_c)) := hk5.setCell (.inl (by simp only []; omega)) _
 replace b0 : Blk ((w2.setCell ⟨w.heap.size + 1 + 1, 7, none⟩ (.bool y1used)).setCell ⟨w.heap.size + 1 + 1, 8, none⟩ (.slice y1data_a y1data_b.length y1data_c)) (w.heap.size) 28 [.int .i64 xkind, .int .i64 xtxn, .int .i64 xprev, .int .i64 xpage, .int .i64 xslot, .bool xbU, .slice xbDa xbDb.length xbDc, .bool xaU, .slice xaDa xaDb.length xaDc, .int .i64 xuN, .int .i64 xnT, .slice xtXa xtXn xtXc, .slice xdYa xdYn xdYc, .slice xiMa xiMb.length xiMc] := b0.other (by simp only []; omega) _
 replace b1 : Blk ((w2.setCell ⟨w.heap.size + 1 + 1, 7, none⟩ (.bool y1used)).setCell ⟨w.heap.size + 1 + 1, 8, none⟩ (.slice y1data_a y1data_b.length y1data_c)) (w.heap.size + 1) 35 [.int .i64 0, .int .i64 0, .int .i64 0, .int .i64 0, .int .i64 0, .bool false, .slice none 0 0, .bool false, .slice none 0 0, .int .i64 0, .int .i64 0, .slice none 0 0, .slice none 0 0, .slice none 0 0] := b1.other (by simp only []; omega) _
 replace b2 : Blk ((w2.setCell ⟨w.heap.size + 1 + 1, 7, none⟩ (.bool y1used)).setCell ⟨w.heap.size + 1 + 1, 8, none⟩ (.slice y1data_a y1data_b.length y1data_c)) (w.heap.size + 1 + 1) 35 [.int .i64 xkind, .int .i64 xtxn, .int .i64 xprev, .int .i64 xpage, .int .i64 xslot, .bool y0used, .slice y0data_a y0data_b.length y0data_c, .bool y1used, .slice y1data_a y1data_b.length y1data_c, .int .i64 0, .int .i64 0, .slice none 0 0, .slice none 0 0, .slice none 0 0] := b2.stored 8 _
 replace O0 : OwnL ((w2.setCell ⟨w.heap.size + 1 + 1, 7, none⟩ (.bool y1used)).setCell ⟨w.heap.size + 1 + 1, 8, none⟩ (.slice y1data_a y1data_b.length y1data_c)) (StPageRecord.rows ⟨y0used, ⟨y0data_e, y0data_a, y0data_c, y0data_b⟩⟩) := O0.kept (Kept.setCell (Kept.refl (fun b => b = w.heap.size + 1 + 1) _) (.inr rfl) _) (fun b hb e => by have := F0 b hb; omega)
 replace O1 : OwnL ((w2.setCell ⟨w.heap.size + 1 + 1, 7, none⟩ (.bool y1used)).setCell ⟨w.heap.size + 1 + 1, 8, none⟩ (.slice y1data_a y1data_b.length y1data_c)) (StPageRecord.rows ⟨y1used, ⟨y1data_e, y1data_a, y1data_c, y1data_b⟩⟩) := O1.kept (Kept.setCell (Kept.refl (fun b => b = w.heap.size + 1 + 1) _) (.inr rfl) _) (fun b hb e => by have := F1 b hb; omega)
 replace hsz : w.heap.size + 1 + 1 + 1 ≤ ((w2.setCell ⟨w.heap.size + 1 + 1, 7, none⟩ (.bool y1used)).setCell ⟨w.heap.size + 1 + 1, 8, none⟩ (.slice y1data_a y1data_b.length y1data_c)).heap.size := by rw [World.size_setCell]; exact hsz
 have hk7 : Same w (((w2.setCell ⟨w.heap.size + 1 + 1, 7, none⟩ (.bool y1used)).setCell ⟨w.heap.size + 1 + 1, 8, none⟩ (.slice y1data_a y1data_b.length y1data_c)).setCell ⟨w.heap.size + 1 + 1, 9, none⟩ (.int .i64 xuN)) := hk6.setCell (.inl (by simp only []; omega)) _
 replace b0 : Blk (((w2.setCell ⟨w.heap.size + 1 + 1, 7, none⟩ (.bool y1used)).setCell ⟨w.heap.size + 1 + 1, 8, none⟩ (.slice y1data_a y1data_b.length y1data_c)).setCell ⟨w.heap.size + 1 + 1, 9, none⟩ (.int .i64 xuN)) (w.heap.size) 28 [.int .i64 xkind, .int .i64 xtxn, .int .i64 xprev, .int .i64 xpage, .int .i64 xslot, .bool xbU, .slice xbDa xbDb.length xbDc, .bool xaU, .slice xaDa xaDb.length xaDc, .int .i64 xuN, .int .i64 xnT, .slice xtXa xtXn xtXc, .slice xdYa xdYn xdYc, .slice xiMa xiMb.length xiMc] := b0.other (by simp only []; omega) _
 replace b1 : Blk (((w2.setCell ⟨w.heap.size + 1 + 1, 7, none⟩ (.bool y1used)).setCell ⟨w.heap.size + 1 + 1, 8, none⟩ (.slice y1data_a y1data_b.length y1data_c)).setCell ⟨w.heap.size + 1 + 1, 9, none⟩ (.int .i64 xuN)) (w.heap.size + 1) 35 [.int .i64 0, .int .i64 0, .int .i64 0, .int .i64 0, .int .i64 0, .bool false, .slice none 0 0, .bool false, .slice none 0 0, .int .i64 0, .int .i64 0, .slice none 0 0, .slice none 0 0, .slice none 0 0] := b1.other (by simp only []; omega) _
 replace b2 : Blk (((w2.setCell ⟨w.heap.size + 1 + 1, 7, none⟩ (.bool y1used)).setCell ⟨w.heap.size + 1 + 1, 8, none⟩ (.slice y1data_a y1data_b.length y1data_c)).setCell ⟨w.heap.size + 1 + 1, 9, none⟩ (.int .i64 xuN)) (w.heap.size + 1 + 1) 35 [.int .i64 xkind, .int .i64 xtxn, .int .i64 xprev, .int .i64 xpage, .int .i64 xslot, .bool y0used, .slice y0data_a y0data_b.length y0data_c, .bool y1used, .slice y1data_a y1data_b.length y1data_c, .int .i64 xuN, .int .i64 0, .slice none 0 0, .slice none 0 0, .slice none 0 0] := b2.stored 9 _
 replace O0 : OwnL (((w2.setCell ⟨w.heap.size + 1 + 1, 7, none⟩ (.bool y1used)).setCell ⟨w.heap.size + 1 + 1, 8, none⟩ (.slice y1data_a y1data_b.length y1data_c)).setCell ⟨w.heap.size + 1 + 1, 9, none⟩ (.int .i64 xuN)) (StPageRecord.rows ⟨y0used, ⟨y0data_e, y0data_a, y0data_c, y0data_b⟩⟩) := O0.kept (Kept.setCell (Kept.refl (fun b => b = w.heap.size + 1 + 1) _) (.inr rfl) _) (fun b hb e => by have := F0 b hb; omega)
 replace O1 : OwnL (((w2.setCell ⟨w.heap.size + 1 + 1, 7, none⟩ (.bool y1used)).setCell ⟨w.heap.size + 1 + 1, 8, none⟩ (.slice y1data_a y1data_b.length y1data_c)).setCell ⟨w.heap.size + 1 + 1, 9, none⟩ (.int .i64 xuN)) (StPageRecord.rows ⟨y1used, ⟨y1data_e, y1data_a, y1data_c, y1data_b⟩⟩) := O1.kept (Kept.setCell (Kept.refl (fun b => b = w.heap.size + 1 + 1) _) (.inr rfl) _) (fun b hb e => by have := F1 b hb; omega)
 replace hsz : w.heap.size + 1 + 1 + 1 ≤ (((w2.setCell ⟨w.heap.size + 1 + 1, 7, none⟩ (.bool y1used)).setCell ⟨w.heap.size + 1 + 1, 8, none⟩ (.slice y1data_a y1data_b.length y1data_c)).setCell ⟨w.heap.size + 1 + 1, 9, none⟩ (.int .i64 xuN)).heap.size := by rw [World.size_setCell]; exact hsz
 have hk8 : Same w ((((w2.setCell ⟨w.heap.size + 1 + 1, 7, none⟩ (.bool y1used)).setCell ⟨w.heap.size + 1 + 1, 8, none⟩ (.slice y1data_a y1data_b.length y1data_c)).setCell ⟨w.heap.size + 1 + 1, 9, none⟩ (.int .i64 xuN)).setCell ⟨w.heap.size + 1 + 1, 10, none⟩ (.int .i64 xnT)) := hk7.setCell (.inl (by simp only []; omega)) _
 replace b0 : Blk ((((w2.setCell ⟨w.heap.size + 1 + 1, 7, none⟩ (.bool y1used)).setCell ⟨w.heap.size + 1 + 1, 8, none⟩ (.slice y1data_a y1data_b.length y1data_c)).setCell ⟨w.heap.size + 1 + 1, 9, none⟩ (.int .i64 xuN)).setCell ⟨w.heap.size + 1 + 1, 10, none⟩ (.int .i64 xnT)) (w.heap.size) 28 [.int .i64 xkind, .int .i64 xtxn, .int .i64 xprev, .int .i64 xpage, .int .i64 xslot, .bool xbU, .slice xbDa xbDb.length xbDc, .bool xaU, .slice xaDa xaDb.length xaDc, .int .i64 xuN, .int .i64 xnT, .slice xtXa xtXn xtXc, .slice xdYa xdYn xdYc, .slice xiMa xiMb.length xiMc] := b0.other (by simp only []; omega) _
 replace b1 : Blk ((((w2.setCell ⟨w.heap.size + 1 + 1, 7, none⟩ (.bool y1used)).setCell ⟨w.heap.size + 1 + 1, 8, none⟩ (.slice y1data_a y1data_b.length y1data_c)).setCell ⟨w.heap.size + 1 + 1, 9, none⟩ (.int .i64 xuN)).setCell ⟨w.heap.size + 1 + 1, 10, none⟩ (.int .i64 xnT)) (w.heap.size + 1) 35 [.int .i64 0, .int .i64 0, .int .i64 0, .int .i64 0, .int .i64 0, .bool false, .slice none 0 0, .bool false, .slice none 0 0, .int .i64 0, .int .i64 0, .slice none 0 0, .slice none 0 0, .slice none 0 0] := b1.other (by simp only []; omega) _
 replace b2 : Blk ((((w2.setCell ⟨w.heap.size + 1 + 1, 7, none⟩ (.bool y1used)).setCell ⟨w.heap.size + 1 + 1, 8, none⟩ (.slice y1data_a y1data_b.length y1data_c)).setCell ⟨w.heap.size + 1 + 1, 9, none⟩ (.int .i64 xuN)).setCell ⟨w.heap.size + 1 + 1, 10, none⟩ (.int .i64 xnT)) (w.heap.size + 1 + 1) 35 [.int .i64 xkind, .int .i64 xtxn, .int .i64 xprev, .int .i64 xpage, .int .i64 xslot, .bool y0used, .slice y0data_a y0data_b.length y0data_c, .bool y1used, .slice y1data_a y1data_b.length y1data_c, .int .i64 xuN, .int .i64 xnT, .slice none 0 0, .slice none 0 0, .slice none 0 0] := b2.stored 10 _
 replace O0 : OwnL ((((w2.setCell ⟨w.heap.size + 1 + 1, 7, none⟩ (.bool y1used)).setCell ⟨w.heap.size + 1 + 1, 8, none⟩ (.slice y1data_a y1data_b.length y1data_c)).setCell ⟨w.heap.size + 1 + 1, 9, none⟩ (.int .i64 xuN)).setCell ⟨w.heap.size + 1 + 1, 10, none⟩ (.int .i64 xnT)) (StPageRecord.rows ⟨y0used, ⟨y0data_e, y0data_a, y0data_c, y0data_b⟩⟩) := O0.kept (Kept.setCell (Kept.refl (fun b => b = w.heap.size + 1 + 1) _) (.inr rfl) _) (fun b hb e => by have := F0 b hb; omega)
 replace O1 : OwnL ((((w2.setCell ⟨w.heap.size + 1 + 1, 7, none⟩ (.bool y1used)).setCell ⟨w.heap.size + 1 + 1, 8, none⟩ (.slice y1data_a y1data_b.length y1data_c)).setCell ⟨w.heap.size + 1 + 1, 9, none⟩ (.int .i64 xuN)).setCell ⟨w.heap.size + 1 + 1, 10, none⟩ (.int .i64 xnT)) (StPageRecord.rows ⟨y1used, ⟨y1data_e, y1data_a, y1data_c, y1data_b⟩⟩) := O1.kept (Kept.setCell (Kept.refl (fun b => b = w.heap.size + 1 + 1) _) (.inr rfl) _) (fun b hb e => by have := F1 b hb; omega)
 replace hsz : w.heap.size + 1 + 1 + 1 ≤ ((((w2.setCell ⟨w.heap.size + 1 + 1, 7, none⟩ (.bool y1used)).setCell ⟨w.heap.size + 1 + 1, 8, none⟩ (.slice y1data_a y1data_b.length y1data_c)).setCell ⟨w.heap.size + 1 + 1, 9, none⟩ (.int .i64 xuN)).setCell ⟨w.heap.size + 1 + 1, 10, none⟩ (.int .i64 xnT)).heap.size := by rw [World.size_setCell]; exact hsz
 go_wp2_with fail
 refine (toTxnEntryS_any ⟨xtXe, xtXa, xtXn, xtXc, xtXb⟩ _ (by dsimp only; omega) (HV2.out.same hk8)).mono ?_
 rintro e w3 ⟨⟨y2e, y2a, y2n, y2c, y2b⟩, rfl, hd2, hz2, hg, O2, hk⟩
 have HZ2 := (show Hid (y2n = xtXn) from hz2)
 clear hz2
 have F2 : ∀ b, FootL (FR.rows 4 ⟨y2e, y2a, y2n, y2c, y2b⟩) b → w.heap.size + 1 + 1 < b := fun b hb => by have h := hg b hb; omega
 dsimp only [FR.v]
 have X0_2 : ∀ b, FootL (StPageRecord.rows ⟨y0used, ⟨y0data_e, y0data_a, y0data_c, y0data_b⟩⟩) b → ¬ FootL (FR.rows 4 ⟨y2e, y2a, y2n, y2c, y2b⟩) b := fun b hb e => by have h1 := O0.lt b hb; have h2 := hg b e; omega
 replace O0 : OwnL w3 (StPageRecord.rows ⟨y0used, ⟨y0data_e, y0data_a, y0data_c, y0data_b⟩⟩) := O0.same hk
 have X1_2 : ∀ b, FootL (StPageRecord.rows ⟨y1used, ⟨y1data_e, y1data_a, y1data_c, y1data_b⟩⟩) b → ¬ FootL (FR.rows 4 ⟨y2e, y2a, y2n, y2c, y2b⟩) b := fun b hb e => by have h1 := O1.lt b hb; have h2 := hg b e; omega
 replace O1 : OwnL w3 (StPageRecord.rows ⟨y1used, ⟨y1data_e, y1data_a, y1data_c, y1data_b⟩⟩) := O1.same hk
 have hk9 : Same w w3 := hk8.trans hk
 replace b0 : Blk w3 (w.heap.size) 28 [.int .i64 xkind, .int .i64 xtxn, .int .i64 xprev, .int .i64 xpage, .int .i64 xslot, .bool xbU, .slice xbDa xbDb.length xbDc, .bool xaU, .slice xaDa xaDb.length xaDc, .int .i64 xuN, .int .i64 xnT, .slice xtXa xtXn xtXc, .slice xdYa xdYn xdYc, .slice xiMa xiMb.length xiMc] := b0.same hk
 replace b1 : Blk w3 (w.heap.size + 1) 35 [.int .i64 0, .int .i64 0, .int .i64 0, .int .i64 0, .int .i64 0, .bool false, .slice none 0 0, .bool false, .slice none 0 0, .int .i64 0, .int .i64 0, .slice none 0 0, .slice none 0 0, .slice none 0 0] := b1.same hk
 replace b2 : Blk w3 (w.heap.size + 1 + 1) 35 [.int .i64 xkind, .int .i64 xtxn, .int .i64 xprev, .int .i64 xpage, .int .i64 xslot, .bool y0used, .slice y0data_a y0data_b.length y0data_c, .bool y1used, .slice y1data_a y1data_b.length y1data_c, .int .i64 xuN, .int .i64 xnT, .slice none 0 0, .slice none 0 0, .slice none 0 0] := b2.same hk
 replace hsz : w.heap.size + 1 + 1 + 1 ≤ w3.heap.size := by have := hk.size; omega
 clear hk hg
 have da3_0 := b0.c0
 have dr3_0 := b1.c0
 have fr3_0 : w3.frozen? ⟨w.heap.size + 1, 0, none⟩ = false := b1.frozen 0
 have do3_0 := b2.c0
 have fo3_0 : w3.frozen? ⟨w.heap.size + 1 + 1, 0, none⟩ = false := b2.frozen 0
 have da3_1 := b0.c1
 have dr3_1 := b1.c1
 have fr3_1 : w3.frozen? ⟨w.heap.size + 1, 1, none⟩ = false := b1.frozen 1
 have do3_1 := b2.c1
 have fo3_1 : w3.frozen? ⟨w.heap.size + 1 + 1, 1, none⟩ = false := b2.frozen 1
 have da3_2 := b0.c2
 have dr3_2 := b1.c2
 have fr3_2 : w3.frozen? ⟨w.heap.size + 1, 2, none⟩ = false := b1.frozen 2
 have do3_2 := b2.c2
 have fo3_2 : w3.frozen? ⟨w.heap.size + 1 + 1, 2, none⟩ = false := b2.frozen 2
 have da3_3 := b0.c3
 have dr3_3 := b1.c3
 have fr3_3 : w3.frozen? ⟨w.heap.size + 1, 3, none⟩ = false := b1.frozen 3
 have do3_3 := b2.c3
 have fo3_3 : w3.frozen? ⟨w.heap.size + 1 + 1, 3, none⟩ = false := b2.frozen 3
 have da3_4 := b0.c4
 have dr3_4 := b1.c4
 have fr3_4 : w3.frozen? ⟨w.heap.size + 1, 4, none⟩ = false := b1.frozen 4
 have do3_4 := b2.c4
 have fo3_4 : w3.frozen? ⟨w.heap.size + 1 + 1, 4, none⟩ = false := b2.frozen 4
 have da3_5 := b0.c5
 have dr3_5 := b1.c5
 have fr3_5 : w3.frozen? ⟨w.heap.size + 1, 5, none⟩ = false := b1.frozen 5
 have do3_5 := b2.c5
 have fo3_5 : w3.frozen? ⟨w.heap.size + 1 + 1, 5, none⟩ = false := b2.frozen 5
 have da3_6 := b0.c6
 have dr3_6 := b1.c6
 have fr3_6 : w3.frozen? ⟨w.heap.size + 1, 6, none⟩ = false := b1.frozen 6
 have do3_6 := b2.c6
 have fo3_6 : w3.frozen? ⟨w.heap.size + 1 + 1, 6, none⟩ = false := b2.frozen 6
 have da3_7 := b0.c7
 have dr3_7 := b1.c7
 have fr3_7 : w3.frozen? ⟨w.heap.size + 1, 7, none⟩ = false := b1.frozen 7
 have do3_7 := b2.c7
 have fo3_7 : w3.frozen? ⟨w.heap.size + 1 + 1, 7, none⟩ = false := b2.frozen 7
 have da3_8 := b0.c8
 have dr3_8 := b1.c8
 have fr3_8 : w3.frozen? ⟨w.heap.size + 1, 8, none⟩ = false := b1.frozen 8
 have do3_8 := b2.c8
 have fo3_8 : w3.frozen? ⟨w.heap.size + 1 + 1, 8, none⟩ = false := b2.frozen 8
 have da3_9 := b0.c9
 have dr3_9 := b1.c9
 have fr3_9 : w3.frozen? ⟨w.heap.size + 1, 9, none⟩ = false := b1.frozen 9
 have do3_9 := b2.c9
 have fo3_9 : w3.frozen? ⟨w.heap.size + 1 + 1, 9, none⟩ = false := b2.frozen 9
 have da3_10 := b0.c10
 have dr3_10 := b1.c10
 have fr3_10 : w3.frozen? ⟨w.heap.size + 1, 10, none⟩ = false := b1.frozen 10
 have do3_10 := b2.c10
 have fo3_10 : w3.frozen? ⟨w.heap.size + 1 + 1, 10, none⟩ = false := b2.frozen 10
 have da3_11 := b0.c11
 have dr3_11 := b1.c11
 have fr3_11 : w3.frozen? ⟨w.heap.size + 1, 11, none⟩ = false := b1.frozen 11
 have do3_11 := b2.c11
 have fo3_11 : w3.frozen? ⟨w.heap.size + 1 + 1, 11, none⟩ = false := b2.frozen 11
 have da3_12 := b0.c12
 have dr3_12 := b1.c12
 have fr3_12 : w3.frozen? ⟨w.heap.size + 1, 12, none⟩ = false := b1.frozen 12
 have do3_12 := b2.c12
 have fo3_12 : w3.frozen? ⟨w.heap.size + 1 + 1, 12, none⟩ = false := b2.frozen 12
 have da3_13 := b0.c13
 have dr3_13 := b1.c13
 have fr3_13 : w3.frozen? ⟨w.heap.size + 1, 13, none⟩ = false := b1.frozen 13
 have do3_13 := b2.c13
 have fo3_13 : w3.frozen? ⟨w.heap.size + 1 + 1, 13, none⟩ = false := b2.frozen 13
 have hk10 : Same w (w3.setCell ⟨w.heap.size + 1 + 1, 11, none⟩ (.slice y2a y2n y2c)) := hk9.setCell (.inl (by simp only []; omega)) _
 replace b0 : Blk (w3.setCell ⟨w.heap.size + 1 + 1, 11, none⟩ (.slice y2a y2n y2c)) (w.heap.size) 28 [.int .i64 xkind, .int .i64 xtxn, .int .i64 xprev, .int .i64 xpage, .int .i64 xslot, .bool xbU, .slice xbDa xbDb.length xbDc, .bool xaU, .slice xaDa xaDb.length xaDc, .int .i64 xuN, .int .i64 xnT, .slice xtXa xtXn xtXc, .slice xdYa xdYn xdYc, .slice xiMa xiMb.length xiMc] := b0.other (by simp only []; omega) _
 replace b1 : Blk (w3.setCell ⟨w.heap.size + 1 + 1, 11, none⟩ (.slice y2a y2n y2c)) (w.heap.size + 1) 35 [.int .i64 0, .int .i64 0, .int .i64 0, .int .i64 0, .int .i64 0, .bool false, .slice none 0 0, .bool false, .slice none 0 0, .int .i64 0, .int .i64 0, .slice none 0 0, .slice none 0 0, .slice none 0 0] := b1.other (by simp only []; omega) _
 replace b2 : Blk (w3.setCell ⟨w.heap.size + 1 + 1, 11, none⟩ (.slice y2a y2n y2c)) (w.heap.size + 1 + 1) 35 [.int .i64 xkind, .int .i64 xtxn, .int .i64 xprev, .int .i64 xpage, .int .i64 xslot, .bool y0used, .slice y0data_a y0data_b.length y0data_c, .bool y1used, .slice y1data_a y1data_b.length y1data_c, .int .i64 xuN, .int .i64 xnT, .slice y2a y2n y2c, .slice none 0 0, .slice none 0 0] := b2.stored 11 _
 replace O0 : OwnL (w3.setCell ⟨w.heap.size + 1 + 1, 11, none⟩ (.slice y2a y2n y2c)) (StPageRecord.rows ⟨y0used, ⟨y0data_e, y0data_a, y0data_c, y0data_b⟩⟩) := O0.kept (Kept.setCell (Kept.refl (fun b => b = w.heap.size + 1 + 1) _) (.inr rfl) _) (fun b hb e => by have := F0 b hb; omega)
 replace O1 : OwnL (w3.setCell ⟨w.heap.size + 1 + 1, 11, none⟩ (.slice y2a y2n y2c)) (StPageRecord.rows ⟨y1used, ⟨y1data_e, y1data_a, y1data_c, y1data_b⟩⟩) := O1.kept (Kept.setCell (Kept.refl (fun b => b = w.heap.size + 1 + 1) _) (.inr rfl) _) (fun b hb e => by have := F1 b hb; omega)
 replace O2 : OwnL (w3.setCell ⟨w.heap.size + 1 + 1, 11, none⟩ (.slice y2a y2n y2c)) (FR.rows 4 ⟨y2e, y2a, y2n, y2c, y2b⟩) := O2.kept (Kept.setCell (Kept.refl (fun b => b = w.heap.size + 1 + 1) _) (.inr rfl) _) (fun b hb e => by have := F2 b hb; omega)
 replace hsz : w.heap.size + 1 + 1 + 1 ≤ (w3.setCell ⟨w.heap.size + 1 + 1, 11, none⟩ (.slice y2a y2n y2c)).heap.size := by rw [World.size_setCell]; exact hsz
 go_wp2_with fail
 refine (toDirtyEntryS_any ⟨xdYe, xdYa, xdYn, xdYc, xdYb⟩ _ (by dsimp only; omega) (HV3.out.same hk10)).mono ?_
 rintro e w4 ⟨⟨y3e, y3a, y3n, y3c, y3b⟩, rfl, hd3, hz3, hg, O3, hk⟩
 have HZ3 := (show Hid (y3n = xdYn) from hz3)
 clear hz3
 have F3 : ∀ b, FootL (FR.rows 2 ⟨y3e, y3a, y3n, y3c, y3b⟩) b → w.heap.size + 1 + 1 < b := fun b hb => by have h := hg b hb; omega
 dsimp only [FR.v]
 have X0_3 : ∀ b, FootL (StPageRecord.rows ⟨y0used, ⟨y0data_e, y0data_a, y0data_c, y0data_b⟩⟩) b → ¬ FootL (FR.rows 2 ⟨y3e, y3a, y3n, y3c, y3b⟩) b := fun b hb e => by have h1 := O0.lt b hb; have h2 := hg b e; omega
 replace O0 : OwnL w4 (StPageRecord.rows ⟨y0used, ⟨y0data_e, y0data_a, y0data_c, y0data_b⟩⟩) := O0.same hk
 have X1_3 : ∀ b, FootL (StPageRecord.rows ⟨y1used, ⟨y1data_e, y1data_a, y1data_c, y1data_b⟩⟩) b → ¬ FootL (FR.rows 2 ⟨y3e, y3a, y3n, y3c, y3b⟩) b := fun b hb e => by have h1 := O1.lt b hb; have h2 := hg b e; omega
 replace O1 : OwnL w4 (StPageRecord.rows ⟨y1used, ⟨y1data_e, y1data_a, y1data_c, y1data_b⟩⟩) := O1.same hk
 have X2_3 : ∀ b, FootL (FR.rows 4 ⟨y2e, y2a, y2n, y2c, y2b⟩) b → ¬ FootL (FR.rows 2 ⟨y3e, y3a, y3n, y3c, y3b⟩) b := fun b hb e => by have h1 := O2.lt b hb; have h2 := hg b e; omega
 replace O2 : OwnL w4 (FR.rows 4 ⟨y2e, y2a, y2n, y2c, y2b⟩) := O2.same hk
 have hk11 : Same w w4 := hk10.trans hk
 replace b0 : Blk w4 (w.heap.size) 28 [.int .i64 xkind, .int .i64 xtxn, .int .i64 xprev, .int .i64 xpage, .int .i64 xslot, .bool xbU, .slice xbDa xbDb.length xbDc, .bool xaU, .slice xaDa xaDb.length xaDc, .int .i64 xuN, .int .i64 xnT, .slice xtXa xtXn xtXc, .slice xdYa xdYn xdYc, .slice xiMa xiMb.length xiMc] := b0.same hk
 replace b1 : Blk w4 (w.heap.size + 1) 35 [.int .i64 0, .int .i64 0, .int .i64 0, .int .i64 0, .int .i64 0, .bool false, .slice none 0 0, .bool false, .slice none 0 0, .int .i64 0, .int .i64 0, .slice none 0 0, .slice none 0 0, .slice none 0 0] := b1.same hk
 replace b2 : Blk w4 (w.heap.size + 1 + 1) 35 [.int .i64 xkind, .int .i64 xtxn, .int .i64 xprev, .int .i64 xpage, .int .i64 xslot, .bool y0used, .slice y0data_a y0data_b.length y0data_c, .bool y1used, .slice y1data_a y1data_b.length y1data_c, .int .i64 xuN, .int .i64 xnT, .slice y2a y2n y2c, .slice none 0 0, .slice none 0 0] := b2.same hk
 replace hsz : w.heap.size + 1 + 1 + 1 ≤ w4.heap.size := by have := hk.size; omega
 clear hk hg
 have da4_0 := b0.c0
 have dr4_0 := b1.c0
 have fr4_0 : w4.frozen? ⟨w.heap.size + 1, 0, none⟩ = false := b1.frozen 0
 have do4_0 := b2.c0
 have fo4_0 : w4.frozen? ⟨w.heap.size + 1 + 1, 0, none⟩ = false := b2.frozen 0
 have da4_1 := b0.c1
 have dr4_1 := b1.c1
 have fr4_1 : w4.frozen? ⟨w.heap.size + 1, 1, none⟩ = false := b1.frozen 1
 have do4_1 := b2.c1
 have fo4_1 : w4.frozen? ⟨w.heap.size + 1 + 1, 1, none⟩ = false := b2.frozen 1
 have da4_2 := b0.c2
 have dr4_2 := b1.c2
 have fr4_2 : w4.frozen? ⟨w.heap.size + 1, 2, none⟩ = false := b1.frozen 2
 have do4_2 := b2.c2
 have fo4_2 : w4.frozen? ⟨w.heap.size + 1 + 1, 2, none⟩ = false := b2.frozen 2
 have da4_3 := b0.c3
 have dr4_3 := b1.c3
 have fr4_3 : w4.frozen? ⟨w.heap.size + 1, 3, none⟩ = false := b1.frozen 3
 have do4_3 := b2.c3
 have fo4_3 : w4.frozen? ⟨w.heap.size + 1 + 1, 3, none⟩ = false := b2.frozen 3
 have da4_4 := b0.c4
 have dr4_4 := b1.c4
 have fr4_4 : w4.frozen? ⟨w.heap.size + 1, 4, none⟩ = false := b1.frozen 4
 have do4_4 := b2.c4
 have fo4_4 : w4.frozen? ⟨w.heap.size + 1 + 1, 4, none⟩ = false := b2.frozen 4
 have da4_5 := b0.c5
 have dr4_5 := b1.c5
 have fr4_5 : w4.frozen? ⟨w.heap.size + 1, 5, none⟩ = false := b1.frozen 5
 have do4_5 := b2.c5
 have fo4_5 : w4.frozen? ⟨w.heap.size + 1 + 1, 5, none⟩ = false := b2.frozen 5
 have da4_6 := b0.c6
 have dr4_6 := b1.c6
 have fr4_6 : w4.frozen? ⟨w.heap.size + 1, 6, none⟩ = false := b1.frozen 6
 have do4_6 := b2.c6
 have fo4_6 : w4.frozen? ⟨w.heap.size + 1 + 1, 6, none⟩ = false := b2.frozen 6
 have da4_7 := b0.c7
 have dr4_7 := b1.c7
 have fr4_7 : w4.frozen? ⟨w.heap.size + 1, 7, none⟩ = false := b1.frozen 7
 have do4_7 := b2.c7
 have fo4_7 : w4.frozen? ⟨w.heap.size + 1 + 1, 7, none⟩ = false := b2.frozen 7
 have da4_8 := b0.c8
 have dr4_8 := b1.c8
 have fr4_8 : w4.frozen? ⟨w.heap.size + 1, 8, none⟩ = false := b1.frozen 8
 have do4_8 := b2.c8
 have fo4_8 : w4.frozen? ⟨w.heap.size + 1 + 1, 8, none⟩ = false := b2.frozen 8
 have da4_9 := b0.c9
 have dr4_9 := b1.c9
 have fr4_9 : w4.frozen? ⟨w.heap.size + 1, 9, none⟩ = false := b1.frozen 9
 have do4_9 := b2.c9
 have fo4_9 : w4.frozen? ⟨w.heap.size + 1 + 1, 9, none⟩ = false := b2.frozen 9
 have da4_10 := b0.c10
 have dr4_10 := b1.c10
 have fr4_10 : w4.frozen? ⟨w.heap.size + 1, 10, none⟩ = false := b1.frozen 10
 have do4_10 := b2.c10
 have fo4_10 : w4.frozen? ⟨w.heap.size + 1 + 1, 10, none⟩ = false := b2.frozen 10
 have da4_11 := b0.c11
 have dr4_11 := b1.c11
 have fr4_11 : w4.frozen? ⟨w.heap.size + 1, 11, none⟩ = false := b1.frozen 11
 have do4_11 := b2.c11
 have fo4_11 : w4.frozen? ⟨w.heap.size + 1 + 1, 11, none⟩ = false := b2.frozen 11
 have da4_12 := b0.c12
 have dr4_12 := b1.c12
 have fr4_12 : w4.frozen? ⟨w.heap.size + 1, 12, none⟩ = false := b1.frozen 12
 have do4_12 := b2.c12
 have fo4_12 : w4.frozen? ⟨w.heap.size + 1 + 1, 12, none⟩ = false := b2.frozen 12
 have da4_13 := b0.c13
 have dr4_13 := b1.c13
 have fr4_13 : w4.frozen? ⟨w.heap.size + 1, 13, none⟩ = false := b1.frozen 13
 have do4_13 := b2.c13
 have fo4_13 : w4.frozen? ⟨w.heap.size + 1 + 1, 13, none⟩ = false := b2.frozen 13
 have hk12 : Same w (w4.setCell ⟨w.heap.size + 1 + 1, 12, none⟩ (.slice y3a y3n y3c)) := hk11.setCell (.inl (by simp only []; omega)) _
 replace b0 : Blk (w4.setCell ⟨w.heap.size + 1 + 1, 12, none⟩ (.slice y3a y3n y3c)) (w.heap.size) 28 [.int .i64 xkind, .int .i64 xtxn, .int .i64 xprev, .int .i64 xpage, .int .i64 xslot, .bool xbU, .slice xbDa xbDb.length xbDc, .bool xaU, .slice xaDa xaDb.length xaDc, .int .i64 xuN, .int .i64 xnT, .slice xtXa xtXn xtXc, .slice xdYa xdYn xdYc, .slice xiMa xiMb.length xiMc] := b0.other (by simp only []; omega) _
 replace b1 : Blk (w4.setCell ⟨w.heap.size + 1 + 1, 12, none⟩ (.slice y3a y3n y3c)) (w.heap.size + 1) 35 [.int .i64 0, .int .i64 0, .int .i64 0, .int .i64 0, .int .i64 0, .bool false, .slice none 0 0, .bool false, .slice none 0 0, .int .i64 0, .int .i64 0, .slice none 0 0, .slice none 0 0, .slice none 0 0] := b1.other (by simp only []; omega) _
 replace b2 : Blk (w4.setCell ⟨w.heap.size + 1 + 1, 12, none⟩ (.slice y3a y3n y3c)) (w.heap.size + 1 + 1) 35 [.int .i64 xkind, .int .i64 xtxn, .int .i64 xprev, .int .i64 xpage, .int .i64 xslot, .bool y0used, .slice y0data_a y0data_b.length y0data_c, .bool y1used, .slice y1data_a y1data_b.length y1data_c, .int .i64 xuN, .int .i64 xnT, .slice y2a y2n y2c, .slice y3a y3n y3c, .slice none 0 0] := b2.stored 12 _
 replace O0 : OwnL (w4.setCell ⟨w.heap.size + 1 + 1, 12, none⟩ (.slice y3a y3n y3c)) (StPageRecord.rows ⟨y0used, ⟨y0data_e, y0data_a, y0data_c, y0data_b⟩⟩) := O0.kept (Kept.setCell (Kept.refl (fun b => b = w.heap.size + 1 + 1) _) (.inr rfl) _) (fun b hb e => by have := F0 b hb; omega)
 replace O1 : OwnL (w4.setCell ⟨w.heap.size + 1 + 1, 12, none⟩ (.slice y3a y3n y3c)) (StPageRecord.rows ⟨y1used, ⟨y1data_e, y1data_a, y1data_c, y1data_b⟩⟩) := O1.kept (Kept.setCell (Kept.refl (fun b => b = w.heap.size + 1 + 1) _) (.inr rfl) _) (fun b hb e => by have := F1 b hb; omega)
 replace O2 : OwnL (w4.setCell ⟨w.heap.size + 1 + 1, 12, none⟩ (.slice y3a y3n y3c)) (FR.rows 4 ⟨y2e, y2a, y2n, y2c, y2b⟩) := O2.kept (Kept.setCell (Kept.refl (fun b => b = w.heap.size + 1 + 1) _) (.inr rfl) _) (fun b hb e => by have := F2 b hb; omega)
 replace O3 : OwnL (w4.setCell ⟨w.heap.size + 1 + 1, 12, none⟩ (.slice y3a y3n y3c)) (FR.rows 2 ⟨y3e, y3a, y3n, y3c, y3b⟩) := O3.kept (Kept.setCell (Kept.refl (fun b => b = w.heap.size + 1 + 1) _) (.inr rfl) _) (fun b hb e => by have := F3 b hb; omega)
 replace hsz : w.heap.size + 1 + 1 + 1 ≤ (w4.setCell ⟨w.heap.size + 1 + 1, 12, none⟩ (.slice y3a y3n y3c)).heap.size := by rw [World.size_setCell]; exact hsz
 go_wp2_with fail
 refine (toByteS_any _ xiMb _ (by omega) (HV4.out.same hk12)).mono ?_
 rintro e w5 ⟨g4, rfl, hg, ho, hk⟩
 have O4 : OwnL w5 (BS.rows ⟨5, some ⟨g4, 0, none⟩, xiMb.length, xiMb⟩) := OwnL.one ho
 have F4 : ∀ b, FootL (BS.rows ⟨5, some ⟨g4, 0, none⟩, xiMb.length, xiMb⟩) b → w.heap.size + 1 + 1 < b := fun b hb => by have h := (footL_ints _ _ _ _ _).1 hb; have h2 : g4 = b := Option.some.inj h; have h3 := hg; omega
 clear ho
 have X0_4 : ∀ b, FootL (StPageRecord.rows ⟨y0used, ⟨y0data_e, y0data_a, y0data_c, y0data_b⟩⟩) b → ¬ FootL (BS.rows ⟨5, some ⟨g4, 0, none⟩, xiMb.length, xiMb⟩) b := fun b hb e => by have h1 := O0.lt b hb; have h2 := (show (w4.setCell ⟨w.heap.size + 1 + 1, 12, none⟩ (.slice y3a y3n y3c)).heap.size ≤ b from by have h := (footL_ints _ _ _ _ _).1 e; have h2 : g4 = b := Option.some.inj h; omega); omega
 replace O0 : OwnL w5 (StPageRecord.rows ⟨y0used, ⟨y0data_e, y0data_a, y0data_c, y0data_b⟩⟩) := O0.same hk
 have X1_4 : ∀ b, FootL (StPageRecord.rows ⟨y1used, ⟨y1data_e, y1data_a, y1data_c, y1data_b⟩⟩) b → ¬ FootL (BS.rows ⟨5, some ⟨g4, 0, none⟩, xiMb.length, xiMb⟩) b := fun b hb e => by have h1 := O1.lt b hb; have h2 := (show (w4.setCell ⟨w.heap.size + 1 + 1, 12, none⟩ (.slice y3a y3n y3c)).heap.size ≤ b from by have h := (footL_ints _ _ _ _ _).1 e; have h2 : g4 = b := Option.some.inj h; omega); omega
 replace O1 : OwnL w5 (StPageRecord.rows ⟨y1used, ⟨y1data_e, y1data_a, y1data_c, y1data_b⟩⟩) := O1.same hk
 have X2_4 : ∀ b, FootL (FR.rows 4 ⟨y2e, y2a, y2n, y2c, y2b⟩) b → ¬ FootL (BS.rows ⟨5, some ⟨g4, 0, none⟩, xiMb.length, xiMb⟩) b := fun b hb e => by have h1 := O2.lt b hb; have h2 := (show (w4.setCell ⟨w.heap.size + 1 + 1, 12, none⟩ (.slice y3a y3n y3c)).heap.size ≤ b from by have h := (footL_ints _ _ _ _ _).1 e; have h2 : g4 = b := Option.some.inj h; omega); omega
 replace O2 : OwnL w5 (FR.rows 4 ⟨y2e, y2a, y2n, y2c, y2b⟩) := O2.same hk
 have X3_4 : ∀ b, FootL (FR.rows 2 ⟨y3e, y3a, y3n, y3c, y3b⟩) b → ¬ FootL (BS.rows ⟨5, some ⟨g4, 0, none⟩, xiMb.length, xiMb⟩) b := fun b hb e => by have h1 := O3.lt b hb; have h2 := (show (w4.setCell ⟨w.heap.size + 1 + 1, 12, none⟩ (.slice y3a y3n y3c)).heap.size ≤ b from by have h := (footL_ints _ _ _ _ _).1 e; have h2 : g4 = b := Option.some.inj h; omega); omega
 replace O3 : OwnL w5 (FR.rows 2 ⟨y3e, y3a, y3n, y3c, y3b⟩) := O3.same hk
 have hk13 : Same w w5 := hk12.trans hk
 replace b0 : Blk w5 (w.heap.size) 28 [.int .i64 xkind, .int .i64 xtxn, .int .i64 xprev, .int .i64 xpage, .int .i64 xslot, .bool xbU, .slice xbDa xbDb.length xbDc, .bool xaU, .slice xaDa xaDb.length xaDc, .int .i64 xuN, .int .i64 xnT, .slice xtXa xtXn xtXc, .slice xdYa xdYn xdYc, .slice xiMa xiMb.length xiMc] := b0.same hk
 replace b1 : Blk w5 (w.heap.size + 1) 35 [.int .i64 0, .int .i64 0, .int .i64 0, .int .i64 0, .int .i64 0, .bool false, .slice none 0 0, .bool false, .slice none 0 0, .int .i64 0, .int .i64 0, .slice none 0 0, .slice none 0 0, .slice none 0 0] := b1.same hk
 replace b2 : Blk w5 (w.heap.size + 1 + 1) 35 [.int .i64 xkind, .int .i64 xtxn, .int .i64 xprev, .int .i64 xpage, .int .i64 xslot, .bool y0used, .slice y0data_a y0data_b.length y0data_c, .bool y1used, .slice y1data_a y1data_b.length y1data_c, .int .i64 xuN, .int .i64 xnT, .slice y2a y2n y2c, .slice y3a y3n y3c, .slice none 0 0] := b2.same hk
 replace hsz : w.heap.size + 1 + 1 + 1 ≤ w5.heap.size := by have := hk.size; omega
 clear hk hg
 have da5_0 := b0.c0
 have dr5_0 := b1.c0
 have fr5_0 : w5.frozen? ⟨w.heap.size + 1, 0, none⟩ = false := b1.frozen 0
 have do5_0 := b2.c0
 have fo5_0 : w5.frozen? ⟨w.heap.size + 1 + 1, 0, none⟩ = false := b2.frozen 0
 have da5_1 := b0.c1
 have dr5_1 := b1.c1
 have fr5_1 : w5.frozen? ⟨w.heap.size + 1, 1, none⟩ = false := b1.frozen 1
 have do5_1 := b2.c1
 have fo5_1 : w5.frozen? ⟨w.heap.size + 1 + 1, 1, none⟩ = false := b2.frozen 1
 have da5_2 := b0.c2
 have dr5_2 := b1.c2
 have fr5_2 : w5.frozen? ⟨w.heap.size + 1, 2, none⟩ = false := b1.frozen 2
 have do5_2 := b2.c2
 have fo5_2 : w5.frozen? ⟨w.heap.size + 1 + 1, 2, none⟩ = false := b2.frozen 2
 have da5_3 := b0.c3
 have dr5_3 := b1.c3
 have fr5_3 : w5.frozen? ⟨w.heap.size + 1, 3, none⟩ = false := b1.frozen 3
 have do5_3 := b2.c3
 have fo5_3 : w5.frozen? ⟨w.heap.size + 1 + 1, 3, none⟩ = false := b2.frozen 3
 have da5_4 := b0.c4
 have dr5_4 := b1.c4
 have fr5_4 : w5.frozen? ⟨w.heap.size + 1, 4, none⟩ = false := b1.frozen 4
 have do5_4 := b2.c4
 have fo5_4 : w5.frozen? ⟨w.heap.size + 1 + 1, 4, none⟩ = false := b2.frozen 4
 have da5_5 := b0.c5
 have dr5_5 := b1.c5
 have fr5_5 : w5.frozen? ⟨w.heap.size + 1, 5, none⟩ = false := b1.frozen 5
 have do5_5 := b2.c5
 have fo5_5 : w5.frozen? ⟨w.heap.size + 1 + 1, 5, none⟩ = false := b2.frozen 5
 have da5_6 := b0.c6
 have dr5_6 := b1.c6
 have fr5_6 : w5.frozen? ⟨w.heap.size + 1, 6, none⟩ = false := b1.frozen 6
 have do5_6 := b2.c6
 have fo5_6 : w5.frozen? ⟨w.heap.size + 1 + 1, 6, none⟩ = false := b2.frozen 6
 have da5_7 := b0.c7
 have dr5_7 := b1.c7
 have fr5_7 : w5.frozen? ⟨w.heap.size + 1, 7, none⟩ = false := b1.frozen 7
 have do5_7 := b2.c7
 have fo5_7 : w5.frozen? ⟨w.heap.size + 1 + 1, 7, none⟩ = false := b2.frozen 7
 have da5_8 := b0.c8
 have dr5_8 := b1.c8
 have fr5_8 : w5.frozen? ⟨w.heap.size + 1, 8, none⟩ = false := b1.frozen 8
 have do5_8 := b2.c8
 have fo5_8 : w5.frozen? ⟨w.heap.size + 1 + 1, 8, none⟩ = false := b2.frozen 8
 have da5_9 := b0.c9
 have dr5_9 := b1.c9
 have fr5_9 : w5.frozen? ⟨w.heap.size + 1, 9, none⟩ = false := b1.frozen 9
 have do5_9 := b2.c9
 have fo5_9 : w5.frozen? ⟨w.heap.size + 1 + 1, 9, none⟩ = false := b2.frozen 9
 have da5_10 := b0.c10
 have dr5_10 := b1.c10
 have fr5_10 : w5.frozen? ⟨w.heap.size + 1, 10, none⟩ = false := b1.frozen 10
 have do5_10 := b2.c10
 have fo5_10 : w5.frozen? ⟨w.heap.size + 1 + 1, 10, none⟩ = false := b2.frozen 10
 have da5_11 := b0.c11
 have dr5_11 := b1.c11
 have fr5_11 : w5.frozen? ⟨w.heap.size + 1, 11, none⟩ = false := b1.frozen 11
 have do5_11 := b2.c11
 have fo5_11 : w5.frozen? ⟨w.heap.size + 1 + 1, 11, none⟩ = false := b2.frozen 11
 have da5_12 := b0.c12
 have dr5_12 := b1.c12
 have fr5_12 : w5.frozen? ⟨w.heap.size + 1, 12, none⟩ = false := b1.frozen 12
 have do5_12 := b2.c12
 have fo5_12 : w5.frozen? ⟨w.heap.size + 1 + 1, 12, none⟩ = false := b2.frozen 12
 have da5_13 := b0.c13
 have dr5_13 := b1.c13
 have fr5_13 : w5.frozen? ⟨w.heap.size + 1, 13, none⟩ = false := b1.frozen 13
 have do5_13 := b2.c13
 have fo5_13 : w5.frozen? ⟨w.heap.size + 1 + 1, 13, none⟩ = false := b2.frozen 13
 have HKz := (show Hid (Same w w5) from hk13)
 have HB1 := (show Hid (Blk w5 (w.heap.size + 1) 35 [.int .i64 0, .int .i64 0, .int .i64 0, .int .i64 0, .int .i64 0, .bool false, .slice none 0 0, .bool false, .slice none 0 0, .int .i64 0, .int .i64 0, .slice none 0 0, .slice none 0 0, .slice none 0 0]) from b1)
 have HO0 := (show Hid (OwnL w5 (StPageRecord.rows ⟨y0used, ⟨y0data_e, y0data_a, y0data_c, y0data_b⟩⟩)) from O0)
 have HF0 := (show Hid (∀ b, FootL (StPageRecord.rows ⟨y0used, ⟨y0data_e, y0data_a, y0data_c, y0data_b⟩⟩) b → w.heap.size + 1 + 1 < b) from F0)
 have HO1 := (show Hid (OwnL w5 (StPageRecord.rows ⟨y1used, ⟨y1data_e, y1data_a, y1data_c, y1data_b⟩⟩)) from O1)
 have HF1 := (show Hid (∀ b, FootL (StPageRecord.rows ⟨y1used, ⟨y1data_e, y1data_a, y1data_c, y1data_b⟩⟩) b → w.heap.size + 1 + 1 < b) from F1)
 have HO2 := (show Hid (OwnL w5 (FR.rows 4 ⟨y2e, y2a, y2n, y2c, y2b⟩)) from O2)
 have HF2 := (show Hid (∀ b, FootL (FR.rows 4 ⟨y2e, y2a, y2n, y2c, y2b⟩) b → w.heap.size + 1 + 1 < b) from F2)
 have HO3 := (show Hid (OwnL w5 (FR.rows 2 ⟨y3e, y3a, y3n, y3c, y3b⟩)) from O3)
 have HF3 := (show Hid (∀ b, FootL (FR.rows 2 ⟨y3e, y3a, y3n, y3c, y3b⟩) b → w.heap.size + 1 + 1 < b) from F3)
 have HO4 := (show Hid (OwnL w5 (BS.rows ⟨5, some ⟨g4, 0, none⟩, xiMb.length, xiMb⟩)) from O4)
 have HF4 := (show Hid (∀ b, FootL (BS.rows ⟨5, some ⟨g4, 0, none⟩, xiMb.length, xiMb⟩) b → w.heap.size + 1 + 1 < b) from F4)
 have HX0_1 := (show Hid (∀ b, FootL (StPageRecord.rows ⟨y0used, ⟨y0data_e, y0data_a, y0data_c, y0data_b⟩⟩) b → ¬ FootL (StPageRecord.rows ⟨y1used, ⟨y1data_e, y1data_a, y1data_c, y1data_b⟩⟩) b) from X0_1)
 have HX0_2 := (show Hid (∀ b, FootL (StPageRecord.rows ⟨y0used, ⟨y0data_e, y0data_a, y0data_c, y0data_b⟩⟩) b → ¬ FootL (FR.rows 4 ⟨y2e, y2a, y2n, y2c, y2b⟩) b) from X0_2)
 have HX0_3 := (show Hid (∀ b, FootL (StPageRecord.rows ⟨y0used, ⟨y0data_e, y0data_a, y0data_c, y0data_b⟩⟩) b → ¬ FootL (FR.rows 2 ⟨y3e, y3a, y3n, y3c, y3b⟩) b) from X0_3)
 have HX0_4 := (show Hid (∀ b, FootL (StPageRecord.rows ⟨y0used, ⟨y0data_e, y0data_a, y0data_c, y0data_b⟩⟩) b → ¬ FootL (BS.rows ⟨5, some ⟨g4, 0, none⟩, xiMb.length, xiMb⟩) b) from X0_4)
 have HX1_2 := (show Hid (∀ b, FootL (StPageRecord.rows ⟨y1used, ⟨y1data_e, y1data_a, y1data_c, y1data_b⟩⟩) b → ¬ FootL (FR.rows 4 ⟨y2e, y2a, y2n, y2c, y2b⟩) b) from X1_2)
 have HX1_3 := (show Hid (∀ b, FootL (StPageRecord.rows ⟨y1used, ⟨y1data_e, y1data_a, y1data_c, y1data_b⟩⟩) b → ¬ FootL (FR.rows 2 ⟨y3e, y3a, y3n, y3c, y3b⟩) b) from X1_3)
 have HX1_4 := (show Hid (∀ b, FootL (StPageRecord.rows ⟨y1used, ⟨y1data_e, y1data_a, y1data_c, y1data_b⟩⟩) b → ¬ FootL (BS.rows ⟨5, some ⟨g4, 0, none⟩, xiMb.length, xiMb⟩) b) from X1_4)
 have HX2_3 := (show Hid (∀ b, FootL (FR.rows 4 ⟨y2e, y2a, y2n, y2c, y2b⟩) b → ¬ FootL (FR.rows 2 ⟨y3e, y3a, y3n, y3c, y3b⟩) b) from X2_3)
 have HX2_4 := (show Hid (∀ b, FootL (FR.rows 4 ⟨y2e, y2a, y2n, y2c, y2b⟩) b → ¬ FootL (BS.rows ⟨5, some ⟨g4, 0, none⟩, xiMb.length, xiMb⟩) b) from X2_4)
 have HX3_4 := (show Hid (∀ b, FootL (FR.rows 2 ⟨y3e, y3a, y3n, y3c, y3b⟩) b → ¬ FootL (BS.rows ⟨5, some ⟨g4, 0, none⟩, xiMb.length, xiMb⟩) b) from X3_4)
 clear b0 b1 b2 hk0 hk1 hk2 hk3 hk4 hk5 hk6 hk7 hk8 hk9 hk10 hk11 hk12 hk13 O0 O1 O2 O3 O4 F0 F1 F2 F3 F4 X0_1 X0_2 X0_3 X0_4 X1_2 X1_3 X1_4 X2_3 X2_4 X3_4
 go_wp2
 refine bodyPost_ret (v := StLogRecord.val ⟨xkind, xtxn, xprev, xpage, xslot, ⟨y0used, ⟨y0data_e, y0data_a, y0data_c, y0data_b⟩⟩, ⟨y1used, ⟨y1data_e, y1data_a, y1data_c, y1data_b⟩⟩, xuN, xnT, ⟨y2e, y2a, y2n, y2c, y2b⟩, ⟨y3e, y3a, y3n, y3c, y3b⟩, ⟨5, some ⟨g4, 0, none⟩, xiMb.length, xiMb⟩⟩) (by simp [StLogRecord.val, StPageRecord.val, BS.v, FR.v, results, Tryz.results6, go_sem, dr5_0, dr5_1, dr5_2, dr5_3, dr5_4, dr5_5, dr5_6, dr5_7, dr5_8, dr5_9, dr5_10, dr5_11, dr5_12, dr5_13]) rfl ⟨⟨xkind, xtxn, xprev, xpage, xslot, ⟨y0used, ⟨y0data_e, y0data_a, y0data_c, y0data_b⟩⟩, ⟨y1used, ⟨y1data_e, y1data_a, y1data_c, y1data_b⟩⟩, xuN, xnT, ⟨y2e, y2a, y2n, y2c, y2b⟩, ⟨y3e, y3a, y3n, y3c, y3b⟩, ⟨5, some ⟨g4, 0, none⟩, xiMb.length, xiMb⟩⟩, rfl, ?_, ?_, ?_, ?_, ?_⟩
 ·simp only [StLogRecord.dat]; exact Prod.ext_iff.2 (by simp [hd0, hd1, hd2, hd3])
 ·have z0 := HZ0.out; have z1 := HZ1.out; have z2 := HZ2.out; have z3 := HZ3.out; simp only [StLogRecord.szs]; omega
 ·exact fun b hb => ((FootL_append _ _ _).1 hb).elim (fun e0 => by have := HF0.out b (e0); omega) (fun e0 => ((FootL_append _ _ _).1 e0).elim (fun e1 => by have := HF1.out b (e1); omega) (fun e1 => ((FootL_append _ _ _).1 e1).elim (fun e2 => by have := HF2.out b (e2); omega) (fun e2 => ((FootL_append _ _ _).1 e2).elim (fun e3 => by have := HF3.out b (e3); omega) (fun e3 => by have := HF4.out b (e3); omega))))
 ·refine OwnL.kept (R := fun b => b = w.heap.size + 1 ∨ b = w.heap.size + 1 + 1) (show OwnL _ (StLogRecord.rows ⟨xkind, xtxn, xprev, xpage, xslot, ⟨y0used, ⟨y0data_e, y0data_a, y0data_c, y0data_b⟩⟩, ⟨y1used, ⟨y1data_e, y1data_a, y1data_c, y1data_b⟩⟩, xuN, xnT, ⟨y2e, y2a, y2n, y2c, y2b⟩, ⟨y3e, y3a, y3n, y3c, y3b⟩, ⟨5, some ⟨g4, 0, none⟩, xiMb.length, xiMb⟩⟩) from (HO0.out).append ((HO1.out).append ((HO2.out).append ((HO3.out).append (HO4.out) (fun b hb e => HX3_4.out b hb e)) (fun b hb e => ((FootL_append _ _ _).1 e).elim (fun e3 => HX2_3.out b hb e3) (fun e3 => HX2_4.out b hb e3))) (fun b hb e => ((FootL_append _ _ _).1 e).elim (fun e2 => HX1_2.out b hb e2) (fun e2 => ((FootL_append _ _ _).1 e2).elim (fun e3 => HX1_3.out b hb e3) (fun e3 => HX1_4.out b hb e3)))) (fun b hb e => ((FootL_append _ _ _).1 e).elim (fun e1 => HX0_1.out b hb e1) (fun e1 => ((FootL_append _ _ _).1 e1).elim (fun e2 => HX0_2.out b hb e2) (fun e2 => ((FootL_append _ _ _).1 e2).elim (fun e3 => HX0_3.out b hb e3) (fun e3 => HX0_4.out b hb e3))))) ?_ ?_
  ·exact (Kept.setCell (Kept.setCell (Kept.setCell (Kept.setCell (Kept.setCell (Kept.setCell (Kept.setCell (Kept.setCell (Kept.setCell (Kept.setCell (Kept.setCell (Kept.setCell (Kept.setCell (Kept.setCell (Kept.setCell (Kept.refl (fun b => b = w.heap.size + 1 ∨ b = w.heap.size + 1 + 1) _) (p := ⟨w.heap.size + 1 + 1, 13, none⟩) (.inr (.inr rfl)) _) (p := ⟨w.heap.size + 1, 0, none⟩) (.inr (.inl rfl)) _) (p := ⟨w.heap.size + 1, 1, none⟩) (.inr (.inl rfl)) _) (p := ⟨w.heap.size + 1, 2, none⟩) (.inr (.inl rfl)) _) (p := ⟨w.heap.size + 1, 3, none⟩) (.inr (.inl rfl)) _) (p := ⟨w.heap.size + 1, 4, none⟩) (.inr (.inl rfl)) _) (p := ⟨w.heap.size + 1, 5, none⟩) (.inr (.inl rfl)) _) (p := ⟨w.heap.size + 1, 6, none⟩) (.inr (.inl rfl)) _) (p := ⟨w.heap.size + 1, 7, none⟩) (.inr (.inl rfl)) _) (p := ⟨w.heap.size + 1, 8, none⟩) (.inr (.inl rfl)) _) (p := ⟨w.heap.size + 1, 9, none⟩) (.inr (.inl rfl)) _) (p := ⟨w.heap.size + 1, 10, none⟩) (.inr (.inl rfl)) _) (p := ⟨w.heap.size + 1, 11, none⟩) (.inr (.inl rfl)) _) (p := ⟨w.heap.size + 1, 12, none⟩) (.inr (.inl rfl)) _) (p := ⟨w.heap.size + 1, 13, none⟩) (.inr (.inl rfl)) _)
  ·exact fun b hb e => ((FootL_append _ _ _).1 hb).elim (fun e0 => by have := HF0.out b (e0); omega) (fun e0 => ((FootL_append _ _ _).1 e0).elim (fun e1 => by have := HF1.out b (e1); omega) (fun e1 => ((FootL_append _ _ _).1 e1).elim (fun e2 => by have := HF2.out b (e2); omega) (fun e2 => ((FootL_append _ _ _).1 e2).elim (fun e3 => by have := HF3.out b (e3); omega) (fun e3 => by have := HF4.out b (e3); omega))))
 ·exact (Kept.setCell (Kept.setCell (Kept.setCell (Kept.setCell (Kept.setCell (Kept.setCell (Kept.setCell (Kept.setCell (Kept.setCell (Kept.setCell (Kept.setCell (Kept.setCell (Kept.setCell (Kept.setCell (Kept.setCell HKz.out (p := ⟨w.heap.size + 1 + 1, 13, none⟩) (.inl (by simp only []; omega)) _) (p := ⟨w.heap.size + 1, 0, none⟩) (.inl (by simp only []; omega)) _) (p := ⟨w.heap.size + 1, 1, none⟩) (.inl (by simp only []; omega)) _) (p := ⟨w.heap.size + 1, 2, none⟩) (.inl (by simp only []; omega)) _) (p := ⟨w.heap.size + 1, 3, none⟩) (.inl (by simp only []; omega)) _) (p := ⟨w.heap.size + 1, 4, none⟩) (.inl (by simp only []; omega)) _) (p := ⟨w.heap.size + 1, 5, none⟩) (.inl (by simp only []; omega)) _) (p := ⟨w.heap.size + 1, 6, none⟩) (.inl (by simp only []; omega)) _) (p := ⟨w.heap.size + 1, 7, none⟩) (.inl (by simp only []; omega)) _) (p := ⟨w.heap.size + 1, 8, none⟩) (.inl (by simp only []; omega)) _) (p := ⟨w.heap.size + 1, 9, none⟩) (.inl (by simp only []; omega)) _) (p := ⟨w.heap.size + 1, 10, none⟩) (.inl (by simp only []; omega)) _) (p := ⟨w.heap.size + 1, 11, none⟩) (.inl (by simp only []; omega)) _) (p := ⟨w.heap.size + 1, 12, none⟩) (.inl (by simp only []; omega)) _) (p := ⟨w.heap.size + 1, 13, none⟩) (.inl (by simp only []; omega)) _)
end Go.Proofs.YtdgmecmkkddpeaaGreat
