import Derived.Test.YtepdakgfioffgaaGreatG01
import Derived.Test.YtepdakgfioffgaaGreatG00
import Derived.Test.YtepdakgfioffgaaGreatTyLogRecord
import Derived.Deep.DeepCutAuto
namespace Go.Proofs.YtepdakgfioffgaaGreat
set_option linter.unusedVariables false
set_option linter.unusedSimpArgs false
open Go.RowKit
structure StLogFrame where
 lsn : Int
 epoch : Int
 record : StLogRecord
def StLogFrame.val (x : StLogFrame) : Value := .agg #[.int .i64 x.lsn, .int .i64 x.epoch, .int .i64 x.record.kind, .int .i64 x.record.txn, .int .i64 x.record.prev, .int .i64 x.record.page, .int .i64 x.record.slot, .bool x.record.before.used, x.record.before.data.v, .bool x.record.after.used, x.record.after.data.v, .int .i64 x.record.uN, .int .i64 x.record.nT, x.record.txns.v, x.record.dirty.v, x.record.image.v]
def StLogFrame.rows (x : StLogFrame) : List Row := x.record.rows
def StLogFrame.dat (x : StLogFrame) : Int × Int × (Int × Int × Int × Int × Int × (Bool × List Int) × (Bool × List Int) × Int × Int × List Int × List Int × List Int) := (x.lsn, x.epoch, x.record.dat)
def StLogFrame.size (x : StLogFrame) : Int := x.record.size
theorem StLogFrame.size_le (x : StLogFrame) : 0 ≤ x.size := by
 unfold StLogFrame.size
 have h0 := x.record.size_le
 omega
def StLogFrame.marked (x : StLogFrame) (k : Int) : StLogFrame := ⟨x.lsn, x.epoch, x.record.marked (k)⟩
theorem StLogFrame.foot_marked (x : StLogFrame) (k : Int) (b : Nat) : FootL (x.marked k).rows b ↔ FootL x.rows b := by
 exact StLogRecord.foot_marked _ _ b
def StLogFrame.rd (w : World) (x : StLogFrame) : Prop := StLogRecord.rd w x.record
theorem StLogFrame.rd.kept {R : Nat → Prop} {w w' : World} {x : StLogFrame} (h : StLogFrame.rd w x) (hk : Kept R w w') (hr : ∀ b, FootL x.rows b → ¬ R b) : StLogFrame.rd w' x :=
 StLogRecord.rd.kept (h) hk (fun b hb => hr b (hb))
theorem StLogFrame.rd.same {w w' : World} {x : StLogFrame} (h : StLogFrame.rd w x) (hk : Same w w') : StLogFrame.rd w' x := h.kept hk (fun _ _ => id)
theorem StLogFrame.own_rd {w : World} {x : StLogFrame} (h : OwnL w x.rows) : StLogFrame.rd w x :=
 (StLogRecord.own_rd h)
def StLogFrame.szs (x : StLogFrame) : Int := x.record.szs
theorem StLogFrame.szs_le (x : StLogFrame) : 0 ≤ x.szs := by
 unfold StLogFrame.szs
 have h0 := x.record.szs_le
 omega
set_option maxRecDepth 100000 in
set_option maxHeartbeats 4000000 in
theorem eqLogFrame_own (x y : StLogFrame) (w : World) (hn : x.size ≤ 1125899906842624) (hd : x.dat = y.dat) (ha : OwnL w x.rows) (hb : OwnL w y.rows) :
  Calls Tryz.prog 65 #[x.val, y.val] w fun e w' => e = .returned (.bool true) ∧ Same w w' := by
 obtain ⟨fH, dk, ⟨aO, bj, aR, aQ, aP, ⟨ak, ⟨cp, ar, ap, ae⟩⟩, ⟨ao, ⟨cy, ax, aw, ai⟩⟩, bE, bF, ⟨dR, aS, aT, aV, dt⟩, ⟨dE, aK, aJ, aN, de⟩, ⟨dG, aL, aM, aF⟩⟩⟩ := x
 obtain ⟨Uf, Jh, ⟨uV, vN, uR, uY, uX, ⟨oU, ⟨iC, dI, dH, n1⟩⟩, ⟨pi, ⟨iT, dP, dO, oA⟩⟩, zc, zk, ⟨kh, fp, fq, fm, rq⟩, ⟨jZ, fa, eV, e6, qS⟩, ⟨j1, eU, eT, qR⟩⟩⟩ := y
 simp only [StLogFrame.dat, StLogRecord.dat, StPageRecord.dat, Prod.mk.injEq] at hd
 obtain ⟨rfl, rfl, ⟨rfl, rfl, rfl, rfl, rfl, ⟨rfl, rfl⟩, ⟨rfl, rfl⟩, rfl, rfl, rfl, rfl, rfl⟩⟩ := hd
 simp only [StLogFrame.size, StLogRecord.size, StPageRecord.size] at hn
 have yJ := (show Hid (OwnL w (StLogRecord.rows ⟨aO, bj, aR, aQ, aP, ⟨ak, ⟨cp, ar, ap, ae⟩⟩, ⟨ao, ⟨cy, ax, aw, ai⟩⟩, bE, bF, ⟨dR, aS, aT, aV, dt⟩, ⟨dE, aK, aJ, aN, de⟩, ⟨dG, aL, aM, aF⟩⟩)) from ha)
 have yR := (show Hid (OwnL w (StLogRecord.rows ⟨aO, bj, aR, aQ, aP, ⟨ak, ⟨iC, dI, dH, ae⟩⟩, ⟨ao, ⟨iT, dP, dO, ai⟩⟩, bE, bF, ⟨kh, fp, fq, fm, dt⟩, ⟨jZ, fa, eV, e6, de⟩, ⟨j1, eU, eT, aF⟩⟩)) from hb)
 clear ha hb
 dsimp only [StLogFrame.val, StLogRecord.val, StPageRecord.val, BS.v, FR.v]
 go_enter Tryz.func65, Tryz.ntmps65
 have ep : Same w ((w.alloc (.cells #[.int .i64 fH, .int .i64 dk, .int .i64 aO, .int .i64 bj, .int .i64 aR, .int .i64 aQ, .int .i64 aP, .bool ak, .slice ar ae.length ap, .bool ao, .slice ax ai.length aw, .int .i64 bE, .int .i64 bF, .slice aS aT aV, .slice aK aJ aN, .slice aL aF.length aM] 51)).alloc (.cells #[.int .i64 fH, .int .i64 dk, .int .i64 aO, .int .i64 bj, .int .i64 aR, .int .i64 aQ, .int .i64 aP, .bool ak, .slice dI ae.length dH, .bool ao, .slice dP ai.length dO, .int .i64 bE, .int .i64 bF, .slice fp fq fm, .slice fa eV e6, .slice eU aF.length eT] 51)) := ((Kept.refl _ _).alloc _).alloc _
 have bk := (show Hid (Same w _) from ep)
 have mK := (show Hid (Blk ((w.alloc (.cells #[.int .i64 fH, .int .i64 dk, .int .i64 aO, .int .i64 bj, .int .i64 aR, .int .i64 aQ, .int .i64 aP, .bool ak, .slice ar ae.length ap, .bool ao, .slice ax ai.length aw, .int .i64 bE, .int .i64 bF, .slice aS aT aV, .slice aK aJ aN, .slice aL aF.length aM] 51)).alloc (.cells #[.int .i64 fH, .int .i64 dk, .int .i64 aO, .int .i64 bj, .int .i64 aR, .int .i64 aQ, .int .i64 aP, .bool ak, .slice dI ae.length dH, .bool ao, .slice dP ai.length dO, .int .i64 bE, .int .i64 bF, .slice fp fq fm, .slice fa eV e6, .slice eU aF.length eT] 51)) w.heap.size 51 [.int .i64 fH, .int .i64 dk, .int .i64 aO, .int .i64 bj, .int .i64 aR, .int .i64 aQ, .int .i64 aP, .bool ak, .slice ar ae.length ap, .bool ao, .slice ax ai.length aw, .int .i64 bE, .int .i64 bF, .slice aS aT aV, .slice aK aJ aN, .slice aL aF.length aM]) from (Blk.new w #[.int .i64 fH, .int .i64 dk, .int .i64 aO, .int .i64 bj, .int .i64 aR, .int .i64 aQ, .int .i64 aP, .bool ak, .slice ar ae.length ap, .bool ao, .slice ax ai.length aw, .int .i64 bE, .int .i64 bF, .slice aS aT aV, .slice aK aJ aN, .slice aL aF.length aM] 51).alloc _)
 have mR := (show Hid (Blk ((w.alloc (.cells #[.int .i64 fH, .int .i64 dk, .int .i64 aO, .int .i64 bj, .int .i64 aR, .int .i64 aQ, .int .i64 aP, .bool ak, .slice ar ae.length ap, .bool ao, .slice ax ai.length aw, .int .i64 bE, .int .i64 bF, .slice aS aT aV, .slice aK aJ aN, .slice aL aF.length aM] 51)).alloc (.cells #[.int .i64 fH, .int .i64 dk, .int .i64 aO, .int .i64 bj, .int .i64 aR, .int .i64 aQ, .int .i64 aP, .bool ak, .slice dI ae.length dH, .bool ao, .slice dP ai.length dO, .int .i64 bE, .int .i64 bF, .slice fp fq fm, .slice fa eV e6, .slice eU aF.length eT] 51)) (w.heap.size + 1) 51 [.int .i64 fH, .int .i64 dk, .int .i64 aO, .int .i64 bj, .int .i64 aR, .int .i64 aQ, .int .i64 aP, .bool ak, .slice dI ae.length dH, .bool ao, .slice dP ai.length dO, .int .i64 bE, .int .i64 bF, .slice fp fq fm, .slice fa eV e6, .slice eU aF.length eT]) from by have h := Blk.new (w.alloc (.cells #[.int .i64 fH, .int .i64 dk, .int .i64 aO, .int .i64 bj, .int .i64 aR, .int .i64 aQ, .int .i64 aP, .bool ak, .slice ar ae.length ap, .bool ao, .slice ax ai.length aw, .int .i64 bE, .int .i64 bF, .slice aS aT aV, .slice aK aJ aN, .slice aL aF.length aM] 51)) #[.int .i64 fH, .int .i64 dk, .int .i64 aO, .int .i64 bj, .int .i64 aR, .int .i64 aQ, .int .i64 aP, .bool ak, .slice dI ae.length dH, .bool ao, .slice dP ai.length dO, .int .i64 bE, .int .i64 bF, .slice fp fq fm, .slice fa eV e6, .slice eU aF.length eT] 51; rwa [World.size_alloc] at h)
 clear ep
 go_wp2_with fail
 refine (eqLogRecord_own ⟨aO, bj, aR, aQ, aP, ⟨ak, ⟨cp, ar, ap, ae⟩⟩, ⟨ao, ⟨cy, ax, aw, ai⟩⟩, bE, bF, ⟨dR, aS, aT, aV, dt⟩, ⟨dE, aK, aJ, aN, de⟩, ⟨dG, aL, aM, aF⟩⟩ ⟨aO, bj, aR, aQ, aP, ⟨ak, ⟨iC, dI, dH, ae⟩⟩, ⟨ao, ⟨iT, dP, dO, ai⟩⟩, bE, bF, ⟨kh, fp, fq, fm, dt⟩, ⟨jZ, fa, eV, e6, de⟩, ⟨j1, eU, eT, aF⟩⟩ _ (by simp only [StLogRecord.size, StPageRecord.size]; omega) rfl (yJ.out.same bk.out) (yR.out.same bk.out)).mono ?_
 rintro e w1 ⟨rfl, hk⟩
 have bq := hid (bk.out.trans hk)
 have kr := hid (mK.out.same hk)
 have kp := hid (mR.out.same hk)
 clear hk bk mK mR
 go_wp2
 go_ret
 exact ⟨rfl, bq.out⟩
set_option maxRecDepth 100000 in
set_option maxHeartbeats 4000000 in
theorem szLogFrame_any (x : StLogFrame) (left : Int) (w : World) (h0 : 0 ≤ left) (h1 : left ≤ 1048576) (ha : StLogFrame.rd w x) :
  Calls Tryz.prog 43 #[x.val, .int .i64 left] w fun e w' => ∃ r : Int, e = .returned (.int .i64 r) ∧ (r = -1 ∨ (r = left - x.szs ∧ 0 ≤ r)) ∧ Same w w' := by
 obtain ⟨fH, dk, ⟨aO, bj, aR, aQ, aP, ⟨ak, ⟨cp, ar, ap, ae⟩⟩, ⟨ao, ⟨cy, ax, aw, ai⟩⟩, bE, bF, ⟨dR, aS, aT, aV, dt⟩, ⟨dE, aK, aJ, aN, de⟩, ⟨dG, aL, aM, aF⟩⟩⟩ := x
 have pf := (show Hid (StLogRecord.rd w ⟨aO, bj, aR, aQ, aP, ⟨ak, ⟨cp, ar, ap, ae⟩⟩, ⟨ao, ⟨cy, ax, aw, ai⟩⟩, bE, bF, ⟨dR, aS, aT, aV, dt⟩, ⟨dE, aK, aJ, aN, de⟩, ⟨dG, aL, aM, aF⟩⟩) from ha)
 clear ha
 dsimp only [StLogFrame.val, StLogRecord.val, StPageRecord.val, BS.v, FR.v]
 go_enter Tryz.func43, Tryz.ntmps43
 have bk := (show Hid (Same w (w.alloc (.cells #[.int .i64 fH, .int .i64 dk, .int .i64 aO, .int .i64 bj, .int .i64 aR, .int .i64 aQ, .int .i64 aP, .bool ak, .slice ar ae.length ap, .bool ao, .slice ax ai.length aw, .int .i64 bE, .int .i64 bF, .slice aS aT aV, .slice aK aJ aN, .slice aL aF.length aM] 84))) from (Kept.refl _ _).alloc _)
 have cv := (show Hid (Blk (w.alloc (.cells #[.int .i64 fH, .int .i64 dk, .int .i64 aO, .int .i64 bj, .int .i64 aR, .int .i64 aQ, .int .i64 aP, .bool ak, .slice ar ae.length ap, .bool ao, .slice ax ai.length aw, .int .i64 bE, .int .i64 bF, .slice aS aT aV, .slice aK aJ aN, .slice aL aF.length aM] 84)) w.heap.size 84 [.int .i64 fH, .int .i64 dk, .int .i64 aO, .int .i64 bj, .int .i64 aR, .int .i64 aQ, .int .i64 aP, .bool ak, .slice ar ae.length ap, .bool ao, .slice ax ai.length aw, .int .i64 bE, .int .i64 bF, .slice aS aT aV, .slice aK aJ aN, .slice aL aF.length aM]) from Blk.new w #[.int .i64 fH, .int .i64 dk, .int .i64 aO, .int .i64 bj, .int .i64 aR, .int .i64 aQ, .int .i64 aP, .bool ak, .slice ar ae.length ap, .bool ao, .slice ax ai.length aw, .int .i64 bE, .int .i64 bF, .slice aS aT aV, .slice aK aJ aN, .slice aL aF.length aM] 84)
 go_wp2_with fail
 refine (szLogRecord_any ⟨aO, bj, aR, aQ, aP, ⟨ak, ⟨cp, ar, ap, ae⟩⟩, ⟨ao, ⟨cy, ax, aw, ai⟩⟩, bE, bF, ⟨dR, aS, aT, aV, dt⟩, ⟨dE, aK, aJ, aN, de⟩, ⟨dG, aL, aM, aF⟩⟩ left _ (by omega) (by omega) (pf.out.same bk.out)).mono ?_
 rintro e w1 ⟨r1, rfl, hr, hk⟩
 have rx := StLogRecord.szs_le ⟨aO, bj, aR, aQ, aP, ⟨ak, ⟨cp, ar, ap, ae⟩⟩, ⟨ao, ⟨cy, ax, aw, ai⟩⟩, bE, bF, ⟨dR, aS, aT, aV, dt⟩, ⟨dE, aK, aJ, aN, de⟩, ⟨dG, aL, aM, aF⟩⟩
 have bq := hid (bk.out.trans hk)
 have bG := hid (cv.out.same hk)
 clear hk
 rcases hr with rfl | ⟨hr, pR⟩
 ·go_wp2
  go_ret
  exact ⟨_, rfl, .inl rfl, bq.out⟩
 have C0 : r1 ≤ 1048576 := by omega
 have nk := (show Hid (_ = _) from hr)
 clear hr
 go_wp2
 go_ret
 exact ⟨_, rfl, .inr ⟨by have e1 := nk.out; simp only [StLogFrame.szs]; omega, pR⟩, bq.out⟩
set_option maxRecDepth 100000 in
set_option maxHeartbeats 16000000 in
theorem toLogFrame_any (x : StLogFrame) (w : World) (hn : x.szs ≤ 1073741824) (ha : StLogFrame.rd w x) :
  Calls Tryz.prog 48 #[x.val] w fun e w' => ∃ y : StLogFrame, e = .returned y.val ∧ y.dat = x.dat ∧ y.szs = x.szs ∧ (∀ b, FootL y.rows b → w.heap.size ≤ b) ∧ OwnL w' y.rows ∧ Same w w' := by
 obtain ⟨fH, dk, ⟨aO, bj, aR, aQ, aP, ⟨ak, ⟨cp, ar, ap, ae⟩⟩, ⟨ao, ⟨cy, ax, aw, ai⟩⟩, bE, bF, ⟨dR, aS, aT, aV, dt⟩, ⟨dE, aK, aJ, aN, de⟩, ⟨dG, aL, aM, aF⟩⟩⟩ := x
 have pf := (show Hid (StLogRecord.rd w ⟨aO, bj, aR, aQ, aP, ⟨ak, ⟨cp, ar, ap, ae⟩⟩, ⟨ao, ⟨cy, ax, aw, ai⟩⟩, bE, bF, ⟨dR, aS, aT, aV, dt⟩, ⟨dE, aK, aJ, aN, de⟩, ⟨dG, aL, aM, aF⟩⟩) from ha)
 clear ha
 simp only [StLogFrame.szs] at hn
 have rx := StLogRecord.szs_le ⟨aO, bj, aR, aQ, aP, ⟨ak, ⟨cp, ar, ap, ae⟩⟩, ⟨ao, ⟨cy, ax, aw, ai⟩⟩, bE, bF, ⟨dR, aS, aT, aV, dt⟩, ⟨dE, aK, aJ, aN, de⟩, ⟨dG, aL, aM, aF⟩⟩
 dsimp only [StLogFrame.val, StLogRecord.val, StPageRecord.val, BS.v, FR.v]
 go_enter Tryz.func48, Tryz.ntmps48
 have ep : Same w (((w.alloc (.cells #[.int .i64 fH, .int .i64 dk, .int .i64 aO, .int .i64 bj, .int .i64 aR, .int .i64 aQ, .int .i64 aP, .bool ak, .slice ar ae.length ap, .bool ao, .slice ax ai.length aw, .int .i64 bE, .int .i64 bF, .slice aS aT aV, .slice aK aJ aN, .slice aL aF.length aM] 84)).alloc (.cells #[.int .i64 0, .int .i64 0, .int .i64 0, .int .i64 0, .int .i64 0, .int .i64 0, .int .i64 0, .bool false, .slice none 0 0, .bool false, .slice none 0 0, .int .i64 0, .int .i64 0, .slice none 0 0, .slice none 0 0, .slice none 0 0] 51)).alloc (.cells #[.int .i64 fH, .int .i64 dk, .int .i64 0, .int .i64 0, .int .i64 0, .int .i64 0, .int .i64 0, .bool false, .slice none 0 0, .bool false, .slice none 0 0, .int .i64 0, .int .i64 0, .slice none 0 0, .slice none 0 0, .slice none 0 0] 51)) := (((Kept.refl _ _).alloc _).alloc _).alloc _
 have b0 : Blk (((w.alloc (.cells #[.int .i64 fH, .int .i64 dk, .int .i64 aO, .int .i64 bj, .int .i64 aR, .int .i64 aQ, .int .i64 aP, .bool ak, .slice ar ae.length ap, .bool ao, .slice ax ai.length aw, .int .i64 bE, .int .i64 bF, .slice aS aT aV, .slice aK aJ aN, .slice aL aF.length aM] 84)).alloc (.cells #[.int .i64 0, .int .i64 0, .int .i64 0, .int .i64 0, .int .i64 0, .int .i64 0, .int .i64 0, .bool false, .slice none 0 0, .bool false, .slice none 0 0, .int .i64 0, .int .i64 0, .slice none 0 0, .slice none 0 0, .slice none 0 0] 51)).alloc (.cells #[.int .i64 fH, .int .i64 dk, .int .i64 0, .int .i64 0, .int .i64 0, .int .i64 0, .int .i64 0, .bool false, .slice none 0 0, .bool false, .slice none 0 0, .int .i64 0, .int .i64 0, .slice none 0 0, .slice none 0 0, .slice none 0 0] 51)) (w.heap.size) 84 [.int .i64 fH, .int .i64 dk, .int .i64 aO, .int .i64 bj, .int .i64 aR, .int .i64 aQ, .int .i64 aP, .bool ak, .slice ar ae.length ap, .bool ao, .slice ax ai.length aw, .int .i64 bE, .int .i64 bF, .slice aS aT aV, .slice aK aJ aN, .slice aL aF.length aM] := ((Blk.new w #[.int .i64 fH, .int .i64 dk, .int .i64 aO, .int .i64 bj, .int .i64 aR, .int .i64 aQ, .int .i64 aP, .bool ak, .slice ar ae.length ap, .bool ao, .slice ax ai.length aw, .int .i64 bE, .int .i64 bF, .slice aS aT aV, .slice aK aJ aN, .slice aL aF.length aM] 84).alloc _).alloc _
 have b1 : Blk (((w.alloc (.cells #[.int .i64 fH, .int .i64 dk, .int .i64 aO, .int .i64 bj, .int .i64 aR, .int .i64 aQ, .int .i64 aP, .bool ak, .slice ar ae.length ap, .bool ao, .slice ax ai.length aw, .int .i64 bE, .int .i64 bF, .slice aS aT aV, .slice aK aJ aN, .slice aL aF.length aM] 84)).alloc (.cells #[.int .i64 0, .int .i64 0, .int .i64 0, .int .i64 0, .int .i64 0, .int .i64 0, .int .i64 0, .bool false, .slice none 0 0, .bool false, .slice none 0 0, .int .i64 0, .int .i64 0, .slice none 0 0, .slice none 0 0, .slice none 0 0] 51)).alloc (.cells #[.int .i64 fH, .int .i64 dk, .int .i64 0, .int .i64 0, .int .i64 0, .int .i64 0, .int .i64 0, .bool false, .slice none 0 0, .bool false, .slice none 0 0, .int .i64 0, .int .i64 0, .slice none 0 0, .slice none 0 0, .slice none 0 0] 51)) (w.heap.size + 1) 51 [.int .i64 0, .int .i64 0, .int .i64 0, .int .i64 0, .int .i64 0, .int .i64 0, .int .i64 0, .bool false, .slice none 0 0, .bool false, .slice none 0 0, .int .i64 0, .int .i64 0, .slice none 0 0, .slice none 0 0, .slice none 0 0] := by have h := (Blk.new (w.alloc (.cells #[.int .i64 fH, .int .i64 dk, .int .i64 aO, .int .i64 bj, .int .i64 aR, .int .i64 aQ, .int .i64 aP, .bool ak, .slice ar ae.length ap, .bool ao, .slice ax ai.length aw, .int .i64 bE, .int .i64 bF, .slice aS aT aV, .slice aK aJ aN, .slice aL aF.length aM] 84)) #[.int .i64 0, .int .i64 0, .int .i64 0, .int .i64 0, .int .i64 0, .int .i64 0, .int .i64 0, .bool false, .slice none 0 0, .bool false, .slice none 0 0, .int .i64 0, .int .i64 0, .slice none 0 0, .slice none 0 0, .slice none 0 0] 51).alloc (.cells #[.int .i64 fH, .int .i64 dk, .int .i64 0, .int .i64 0, .int .i64 0, .int .i64 0, .int .i64 0, .bool false, .slice none 0 0, .bool false, .slice none 0 0, .int .i64 0, .int .i64 0, .slice none 0 0, .slice none 0 0, .slice none 0 0] 51); rwa [World.size_alloc] at h
 have b2 : Blk (((w.alloc (.cells #[.int .i64 fH, .int .i64 dk, .int .i64 aO, .int .i64 bj, .int .i64 aR, .int .i64 aQ, .int .i64 aP, .bool ak, .slice ar ae.length ap, .bool ao, .slice ax ai.length aw, .int .i64 bE, .int .i64 bF, .slice aS aT aV, .slice aK aJ aN, .slice aL aF.length aM] 84)).alloc (.cells #[.int .i64 0, .int .i64 0, .int .i64 0, .int .i64 0, .int .i64 0, .int .i64 0, .int .i64 0, .bool false, .slice none 0 0, .bool false, .slice none 0 0, .int .i64 0, .int .i64 0, .slice none 0 0, .slice none 0 0, .slice none 0 0] 51)).alloc (.cells #[.int .i64 fH, .int .i64 dk, .int .i64 0, .int .i64 0, .int .i64 0, .int .i64 0, .int .i64 0, .bool false, .slice none 0 0, .bool false, .slice none 0 0, .int .i64 0, .int .i64 0, .slice none 0 0, .slice none 0 0, .slice none 0 0] 51)) (w.heap.size + 1 + 1) 51 [.int .i64 fH, .int .i64 dk, .int .i64 0, .int .i64 0, .int .i64 0, .int .i64 0, .int .i64 0, .bool false, .slice none 0 0, .bool false, .slice none 0 0, .int .i64 0, .int .i64 0, .slice none 0 0, .slice none 0 0, .slice none 0 0] := by have h := Blk.new ((w.alloc (.cells #[.int .i64 fH, .int .i64 dk, .int .i64 aO, .int .i64 bj, .int .i64 aR, .int .i64 aQ, .int .i64 aP, .bool ak, .slice ar ae.length ap, .bool ao, .slice ax ai.length aw, .int .i64 bE, .int .i64 bF, .slice aS aT aV, .slice aK aJ aN, .slice aL aF.length aM] 84)).alloc (.cells #[.int .i64 0, .int .i64 0, .int .i64 0, .int .i64 0, .int .i64 0, .int .i64 0, .int .i64 0, .bool false, .slice none 0 0, .bool false, .slice none 0 0, .int .i64 0, .int .i64 0, .slice none 0 0, .slice none 0 0, .slice none 0 0] 51)) #[.int .i64 fH, .int .i64 dk, .int .i64 0, .int .i64 0, .int .i64 0, .int .i64 0, .int .i64 0, .bool false, .slice none 0 0, .bool false, .slice none 0 0, .int .i64 0, .int .i64 0, .slice none 0 0, .slice none 0 0, .slice none 0 0] 51; rwa [World.size_alloc, World.size_alloc] at h
 have i1 : (((w.alloc (.cells #[.int .i64 fH, .int .i64 dk, .int .i64 aO, .int .i64 bj, .int .i64 aR, .int .i64 aQ, .int .i64 aP, .bool ak, .slice ar ae.length ap, .bool ao, .slice ax ai.length aw, .int .i64 bE, .int .i64 bF, .slice aS aT aV, .slice aK aJ aN, .slice aL aF.length aM] 84)).alloc (.cells #[.int .i64 0, .int .i64 0, .int .i64 0, .int .i64 0, .int .i64 0, .int .i64 0, .int .i64 0, .bool false, .slice none 0 0, .bool false, .slice none 0 0, .int .i64 0, .int .i64 0, .slice none 0 0, .slice none 0 0, .slice none 0 0] 51)).alloc (.cells #[.int .i64 fH, .int .i64 dk, .int .i64 0, .int .i64 0, .int .i64 0, .int .i64 0, .int .i64 0, .bool false, .slice none 0 0, .bool false, .slice none 0 0, .int .i64 0, .int .i64 0, .slice none 0 0, .slice none 0 0, .slice none 0 0] 51)).heap.size = w.heap.size + 1 + 1 + 1 := by simp only [World.size_alloc]
 go_wp2_with fail
 refine (toLogRecord_any ⟨aO, bj, aR, aQ, aP, ⟨ak, ⟨cp, ar, ap, ae⟩⟩, ⟨ao, ⟨cy, ax, aw, ai⟩⟩, bE, bF, ⟨dR, aS, aT, aV, dt⟩, ⟨dE, aK, aJ, aN, de⟩, ⟨dG, aL, aM, aF⟩⟩ _ (by omega) (pf.out.same ep)).mono ?_
 rintro e w1 ⟨⟨kG, mh, kO, kW, kF, ⟨fD, ⟨eW, eX, eY, eZ⟩⟩, ⟨fS, ⟨fk, fu, fw, fj⟩⟩, pG, pE, ⟨jh, jp, jk, jf, jo⟩, ⟨iN, iP, iJ, iF, iR⟩, ⟨iM, iL, iD, iG⟩⟩, rfl, jB, j9, hg, O0, hk⟩
 have ry := (show Hid (StLogRecord.szs ⟨kG, mh, kO, kW, kF, ⟨fD, ⟨eW, eX, eY, eZ⟩⟩, ⟨fS, ⟨fk, fu, fw, fj⟩⟩, pG, pE, ⟨jh, jp, jk, jf, jo⟩, ⟨iN, iP, iJ, iF, iR⟩, ⟨iM, iL, iD, iG⟩⟩ = StLogRecord.szs ⟨aO, bj, aR, aQ, aP, ⟨ak, ⟨cp, ar, ap, ae⟩⟩, ⟨ao, ⟨cy, ax, aw, ai⟩⟩, bE, bF, ⟨dR, aS, aT, aV, dt⟩, ⟨dE, aK, aJ, aN, de⟩, ⟨dG, aL, aM, aF⟩⟩) from j9)
 clear j9
 have F0 : ∀ b, FootL (StLogRecord.rows ⟨kG, mh, kO, kW, kF, ⟨fD, ⟨eW, eX, eY, eZ⟩⟩, ⟨fS, ⟨fk, fu, fw, fj⟩⟩, pG, pE, ⟨jh, jp, jk, jf, jo⟩, ⟨iN, iP, iJ, iF, iR⟩, ⟨iM, iL, iD, iG⟩⟩) b → w.heap.size + 1 + 1 < b := fun b hb => by have h := hg b hb; omega
 dsimp only [StLogRecord.val, StPageRecord.val, StPageRecord.val, BS.v, FR.v]
 have bg : Same w w1 := ep.trans hk
 replace b0 : Blk w1 (w.heap.size) 84 [.int .i64 fH, .int .i64 dk, .int .i64 aO, .int .i64 bj, .int .i64 aR, .int .i64 aQ, .int .i64 aP, .bool ak, .slice ar ae.length ap, .bool ao, .slice ax ai.length aw, .int .i64 bE, .int .i64 bF, .slice aS aT aV, .slice aK aJ aN, .slice aL aF.length aM] := b0.same hk
 replace b1 : Blk w1 (w.heap.size + 1) 51 [.int .i64 0, .int .i64 0, .int .i64 0, .int .i64 0, .int .i64 0, .int .i64 0, .int .i64 0, .bool false, .slice none 0 0, .bool false, .slice none 0 0, .int .i64 0, .int .i64 0, .slice none 0 0, .slice none 0 0, .slice none 0 0] := b1.same hk
 replace b2 : Blk w1 (w.heap.size + 1 + 1) 51 [.int .i64 fH, .int .i64 dk, .int .i64 0, .int .i64 0, .int .i64 0, .int .i64 0, .int .i64 0, .bool false, .slice none 0 0, .bool false, .slice none 0 0, .int .i64 0, .int .i64 0, .slice none 0 0, .slice none 0 0, .slice none 0 0] := b2.same hk
 replace i1 : w.heap.size + 1 + 1 + 1 ≤ w1.heap.size := by have := hk.size; omega
 clear hk hg
 have xQ : w1.cell? ⟨w.heap.size, 0, none⟩ = some (.int .i64 fH) := b0.cell 0
 have qg : w1.cell? ⟨w.heap.size + 1, 0, none⟩ = some (.int .i64 0) := b1.cell 0
 have vJ : w1.frozen? ⟨w.heap.size + 1, 0, none⟩ = false := b1.frozen 0
 have vr : w1.cell? ⟨w.heap.size + 1 + 1, 0, none⟩ = some (.int .i64 fH) := b2.cell 0
 have wD : w1.frozen? ⟨w.heap.size + 1 + 1, 0, none⟩ = false := b2.frozen 0
 have wL : w1.cell? ⟨w.heap.size, 1, none⟩ = some (.int .i64 dk) := b0.cell 1
 have qf : w1.cell? ⟨w.heap.size + 1, 1, none⟩ = some (.int .i64 0) := b1.cell 1
 have vG : w1.frozen? ⟨w.heap.size + 1, 1, none⟩ = false := b1.frozen 1
 have vC : w1.cell? ⟨w.heap.size + 1 + 1, 1, none⟩ = some (.int .i64 dk) := b2.cell 1
 have vl : w1.frozen? ⟨w.heap.size + 1 + 1, 1, none⟩ = false := b2.frozen 1
 have A5 : w1.cell? ⟨w.heap.size, 2, none⟩ = some (.int .i64 aO) := b0.cell 2
 have vL : w1.cell? ⟨w.heap.size + 1, 2, none⟩ = some (.int .i64 0) := b1.cell 2
 have DD : w1.frozen? ⟨w.heap.size + 1, 2, none⟩ = false := b1.frozen 2
 have B8 : w1.cell? ⟨w.heap.size + 1 + 1, 2, none⟩ = some (.int .i64 0) := b2.cell 2
 have D5 : w1.frozen? ⟨w.heap.size + 1 + 1, 2, none⟩ = false := b2.frozen 2
 have En : w1.cell? ⟨w.heap.size, 3, none⟩ = some (.int .i64 bj) := b0.cell 3
 have wC : w1.cell? ⟨w.heap.size + 1, 3, none⟩ = some (.int .i64 0) := b1.cell 3
 have BR : w1.frozen? ⟨w.heap.size + 1, 3, none⟩ = false := b1.frozen 3
 have Cp : w1.cell? ⟨w.heap.size + 1 + 1, 3, none⟩ = some (.int .i64 0) := b2.cell 3
 have CU : w1.frozen? ⟨w.heap.size + 1 + 1, 3, none⟩ = false := b2.frozen 3
 have BQ : w1.cell? ⟨w.heap.size, 4, none⟩ = some (.int .i64 aR) := b0.cell 4
 have xi : w1.cell? ⟨w.heap.size + 1, 4, none⟩ = some (.int .i64 0) := b1.cell 4
 have Db : w1.frozen? ⟨w.heap.size + 1, 4, none⟩ = false := b1.frozen 4
 have CQ : w1.cell? ⟨w.heap.size + 1 + 1, 4, none⟩ = some (.int .i64 0) := b2.cell 4
 have Dg : w1.frozen? ⟨w.heap.size + 1 + 1, 4, none⟩ = false := b2.frozen 4
 have El : w1.cell? ⟨w.heap.size, 5, none⟩ = some (.int .i64 aQ) := b0.cell 5
 have wo : w1.cell? ⟨w.heap.size + 1, 5, none⟩ = some (.int .i64 0) := b1.cell 5
 have Cv : w1.frozen? ⟨w.heap.size + 1, 5, none⟩ = false := b1.frozen 5
 have Dw : w1.cell? ⟨w.heap.size + 1 + 1, 5, none⟩ = some (.int .i64 0) := b2.cell 5
 have Dj : w1.frozen? ⟨w.heap.size + 1 + 1, 5, none⟩ = false := b2.frozen 5
 have C3 : w1.cell? ⟨w.heap.size, 6, none⟩ = some (.int .i64 aP) := b0.cell 6
 have xo : w1.cell? ⟨w.heap.size + 1, 6, none⟩ = some (.int .i64 0) := b1.cell 6
 have Ck : w1.frozen? ⟨w.heap.size + 1, 6, none⟩ = false := b1.frozen 6
 have C4 : w1.cell? ⟨w.heap.size + 1 + 1, 6, none⟩ = some (.int .i64 0) := b2.cell 6
 have C6 : w1.frozen? ⟨w.heap.size + 1 + 1, 6, none⟩ = false := b2.frozen 6
 have B7 : w1.cell? ⟨w.heap.size, 7, none⟩ = some (.bool ak) := b0.cell 7
 have xJ : w1.cell? ⟨w.heap.size + 1, 7, none⟩ = some (.bool false) := b1.cell 7
 have DL : w1.frozen? ⟨w.heap.size + 1, 7, none⟩ = false := b1.frozen 7
 have BA : w1.cell? ⟨w.heap.size + 1 + 1, 7, none⟩ = some (.bool false) := b2.cell 7
 have Bn : w1.frozen? ⟨w.heap.size + 1 + 1, 7, none⟩ = false := b2.frozen 7
 have Ce : w1.cell? ⟨w.heap.size, 8, none⟩ = some (.slice ar ae.length ap) := b0.cell 8
 have vD : w1.cell? ⟨w.heap.size + 1, 8, none⟩ = some (.slice none 0 0) := b1.cell 8
 have Du : w1.frozen? ⟨w.heap.size + 1, 8, none⟩ = false := b1.frozen 8
 have A4 : w1.cell? ⟨w.heap.size + 1 + 1, 8, none⟩ = some (.slice none 0 0) := b2.cell 8
 have CJ : w1.frozen? ⟨w.heap.size + 1 + 1, 8, none⟩ = false := b2.frozen 8
 have Ex : w1.cell? ⟨w.heap.size, 9, none⟩ = some (.bool ao) := b0.cell 9
 have xd : w1.cell? ⟨w.heap.size + 1, 9, none⟩ = some (.bool false) := b1.cell 9
 have Dv : w1.frozen? ⟨w.heap.size + 1, 9, none⟩ = false := b1.frozen 9
 have D1 : w1.cell? ⟨w.heap.size + 1 + 1, 9, none⟩ = some (.bool false) := b2.cell 9
 have Ca : w1.frozen? ⟨w.heap.size + 1 + 1, 9, none⟩ = false := b2.frozen 9
 have yD : w1.cell? ⟨w.heap.size, 10, none⟩ = some (.slice ax ai.length aw) := b0.cell 10
 have sX : w1.cell? ⟨w.heap.size + 1, 10, none⟩ = some (.slice none 0 0) := b1.cell 10
 have zy : w1.frozen? ⟨w.heap.size + 1, 10, none⟩ = false := b1.frozen 10
 have xZ : w1.cell? ⟨w.heap.size + 1 + 1, 10, none⟩ = some (.slice none 0 0) := b2.cell 10
 have zw : w1.frozen? ⟨w.heap.size + 1 + 1, 10, none⟩ = false := b2.frozen 10
 have zn : w1.cell? ⟨w.heap.size, 11, none⟩ = some (.int .i64 bE) := b0.cell 11
 have sK : w1.cell? ⟨w.heap.size + 1, 11, none⟩ = some (.int .i64 0) := b1.cell 11
 have ze : w1.frozen? ⟨w.heap.size + 1, 11, none⟩ = false := b1.frozen 11
 have Ad : w1.cell? ⟨w.heap.size + 1 + 1, 11, none⟩ = some (.int .i64 0) := b2.cell 11
 have zK : w1.frozen? ⟨w.heap.size + 1 + 1, 11, none⟩ = false := b2.frozen 11
 have yg : w1.cell? ⟨w.heap.size, 12, none⟩ = some (.int .i64 bF) := b0.cell 12
 have s4 : w1.cell? ⟨w.heap.size + 1, 12, none⟩ = some (.int .i64 0) := b1.cell 12
 have zr : w1.frozen? ⟨w.heap.size + 1, 12, none⟩ = false := b1.frozen 12
 have zT : w1.cell? ⟨w.heap.size + 1 + 1, 12, none⟩ = some (.int .i64 0) := b2.cell 12
 have yz : w1.frozen? ⟨w.heap.size + 1 + 1, 12, none⟩ = false := b2.frozen 12
 have yM : w1.cell? ⟨w.heap.size, 13, none⟩ = some (.slice aS aT aV) := b0.cell 13
 have rW : w1.cell? ⟨w.heap.size + 1, 13, none⟩ = some (.slice none 0 0) := b1.cell 13
 have zP : w1.frozen? ⟨w.heap.size + 1, 13, none⟩ = false := b1.frozen 13
 have yL : w1.cell? ⟨w.heap.size + 1 + 1, 13, none⟩ = some (.slice none 0 0) := b2.cell 13
 have zF : w1.frozen? ⟨w.heap.size + 1 + 1, 13, none⟩ = false := b2.frozen 13
 have Kd : w1.cell? ⟨w.heap.size, 14, none⟩ = some (.slice aK aJ aN) := b0.cell 14
 have yX : w1.cell? ⟨w.heap.size + 1, 14, none⟩ = some (.slice none 0 0) := b1.cell 14
 have Hs : w1.frozen? ⟨w.heap.size + 1, 14, none⟩ = false := b1.frozen 14
 have IE : w1.cell? ⟨w.heap.size + 1 + 1, 14, none⟩ = some (.slice none 0 0) := b2.cell 14
 have I4 : w1.frozen? ⟨w.heap.size + 1 + 1, 14, none⟩ = false := b2.frozen 14
 have Gu : w1.cell? ⟨w.heap.size, 15, none⟩ = some (.slice aL aF.length aM) := b0.cell 15
 have yY : w1.cell? ⟨w.heap.size + 1, 15, none⟩ = some (.slice none 0 0) := b1.cell 15
 have Hh : w1.frozen? ⟨w.heap.size + 1, 15, none⟩ = false := b1.frozen 15
 have IQ : w1.cell? ⟨w.heap.size + 1 + 1, 15, none⟩ = some (.slice none 0 0) := b2.cell 15
 have J0 : w1.frozen? ⟨w.heap.size + 1 + 1, 15, none⟩ = false := b2.frozen 15
 have yk := (show Hid (Same w w1) from bg)
 have bG := (show Hid (Blk w1 (w.heap.size + 1) 51 [.int .i64 0, .int .i64 0, .int .i64 0, .int .i64 0, .int .i64 0, .int .i64 0, .int .i64 0, .bool false, .slice none 0 0, .bool false, .slice none 0 0, .int .i64 0, .int .i64 0, .slice none 0 0, .slice none 0 0, .slice none 0 0]) from b1)
 have pM := (show Hid (OwnL w1 (StLogRecord.rows ⟨kG, mh, kO, kW, kF, ⟨fD, ⟨eW, eX, eY, eZ⟩⟩, ⟨fS, ⟨fk, fu, fw, fj⟩⟩, pG, pE, ⟨jh, jp, jk, jf, jo⟩, ⟨iN, iP, iJ, iF, iR⟩, ⟨iM, iL, iD, iG⟩⟩)) from O0)
 have vH := (show Hid (∀ b, FootL (StLogRecord.rows ⟨kG, mh, kO, kW, kF, ⟨fD, ⟨eW, eX, eY, eZ⟩⟩, ⟨fS, ⟨fk, fu, fw, fj⟩⟩, pG, pE, ⟨jh, jp, jk, jf, jo⟩, ⟨iN, iP, iJ, iF, iR⟩, ⟨iM, iL, iD, iG⟩⟩) b → w.heap.size + 1 + 1 < b) from F0)
 clear b0 b1 b2 ep bg O0 F0 
 go_wp2
 refine bodyPost_ret (v := StLogFrame.val ⟨fH, dk, ⟨kG, mh, kO, kW, kF, ⟨fD, ⟨eW, eX, eY, eZ⟩⟩, ⟨fS, ⟨fk, fu, fw, fj⟩⟩, pG, pE, ⟨jh, jp, jk, jf, jo⟩, ⟨iN, iP, iJ, iF, iR⟩, ⟨iM, iL, iD, iG⟩⟩⟩) (by simp [StLogFrame.val, StLogRecord.val, StPageRecord.val, BS.v, FR.v, results, Tryz.results48, go_sem, qg, qf, vL, wC, xi, wo, xo, xJ, vD, xd, sX, sK, s4, rW, yX, yY]) rfl ⟨⟨fH, dk, ⟨kG, mh, kO, kW, kF, ⟨fD, ⟨eW, eX, eY, eZ⟩⟩, ⟨fS, ⟨fk, fu, fw, fj⟩⟩, pG, pE, ⟨jh, jp, jk, jf, jo⟩, ⟨iN, iP, iJ, iF, iR⟩, ⟨iM, iL, iD, iG⟩⟩⟩, rfl, ?_, ?_, ?_, ?_, ?_⟩
 ·simp only [StLogFrame.dat]; exact Prod.ext_iff.2 (by simp [jB])
 ·have z0 := ry.out; simp only [StLogFrame.szs]; omega
 ·exact fun b hb => by have := vH.out b (hb); omega
 ·refine OwnL.kept (R := fun b => b = w.heap.size + 1 ∨ b = w.heap.size + 1 + 1) (show OwnL _ (StLogFrame.rows ⟨fH, dk, ⟨kG, mh, kO, kW, kF, ⟨fD, ⟨eW, eX, eY, eZ⟩⟩, ⟨fS, ⟨fk, fu, fw, fj⟩⟩, pG, pE, ⟨jh, jp, jk, jf, jo⟩, ⟨iN, iP, iJ, iF, iR⟩, ⟨iM, iL, iD, iG⟩⟩⟩) from pM.out) ?_ ?_
  ·exact (Kept.setCell (Kept.setCell (Kept.setCell (Kept.setCell (Kept.setCell (Kept.setCell (Kept.setCell (Kept.setCell (Kept.setCell (Kept.setCell (Kept.setCell (Kept.setCell (Kept.setCell (Kept.setCell (Kept.setCell (Kept.setCell (Kept.setCell (Kept.setCell (Kept.setCell (Kept.setCell (Kept.setCell (Kept.setCell (Kept.setCell (Kept.setCell (Kept.setCell (Kept.setCell (Kept.setCell (Kept.setCell (Kept.setCell (Kept.setCell (Kept.refl (fun b => b = w.heap.size + 1 ∨ b = w.heap.size + 1 + 1) _) (p := ⟨w.heap.size + 1 + 1, 2, none⟩) (.inr (.inr rfl)) _) (p := ⟨w.heap.size + 1 + 1, 3, none⟩) (.inr (.inr rfl)) _) (p := ⟨w.heap.size + 1 + 1, 4, none⟩) (.inr (.inr rfl)) _) (p := ⟨w.heap.size + 1 + 1, 5, none⟩) (.inr (.inr rfl)) _) (p := ⟨w.heap.size + 1 + 1, 6, none⟩) (.inr (.inr rfl)) _) (p := ⟨w.heap.size + 1 + 1, 7, none⟩) (.inr (.inr rfl)) _) (p := ⟨w.heap.size + 1 + 1, 8, none⟩) (.inr (.inr rfl)) _) (p := ⟨w.heap.size + 1 + 1, 9, none⟩) (.inr (.inr rfl)) _) (p := ⟨w.heap.size + 1 + 1, 10, none⟩) (.inr (.inr rfl)) _) (p := ⟨w.heap.size + 1 + 1, 11, none⟩) (.inr (.inr rfl)) _) (p := ⟨w.heap.size + 1 + 1, 12, none⟩) (.inr (.inr rfl)) _) (p := ⟨w.heap.size + 1 + 1, 13, none⟩) (.inr (.inr rfl)) _) (p := ⟨w.heap.size + 1 + 1, 14, none⟩) (.inr (.inr rfl)) _) (p := ⟨w.heap.size + 1 + 1, 15, none⟩) (.inr (.inr rfl)) _) (p := ⟨w.heap.size + 1, 0, none⟩) (.inr (.inl rfl)) _) (p := ⟨w.heap.size + 1, 1, none⟩) (.inr (.inl rfl)) _) (p := ⟨w.heap.size + 1, 2, none⟩) (.inr (.inl rfl)) _) (p := ⟨w.heap.size + 1, 3, none⟩) (.inr (.inl rfl)) _) (p := ⟨w.heap.size + 1, 4, none⟩) (.inr (.inl rfl)) _) (p := ⟨w.heap.size + 1, 5, none⟩) (.inr (.inl rfl)) _) (p := ⟨w.heap.size + 1, 6, none⟩) (.inr (.inl rfl)) _) (p := ⟨w.heap.size + 1, 7, none⟩) (.inr (.inl rfl)) _) (p := ⟨w.heap.size + 1, 8, none⟩) (.inr (.inl rfl)) _) (p := ⟨w.heap.size + 1, 9, none⟩) (.inr (.inl rfl)) _) (p := ⟨w.heap.size + 1, 10, none⟩) (.inr (.inl rfl)) _) (p := ⟨w.heap.size + 1, 11, none⟩) (.inr (.inl rfl)) _) (p := ⟨w.heap.size + 1, 12, none⟩) (.inr (.inl rfl)) _) (p := ⟨w.heap.size + 1, 13, none⟩) (.inr (.inl rfl)) _) (p := ⟨w.heap.size + 1, 14, none⟩) (.inr (.inl rfl)) _) (p := ⟨w.heap.size + 1, 15, none⟩) (.inr (.inl rfl)) _)
  ·exact fun b hb e => by have := vH.out b (hb); omega
 ·exact (Kept.setCell (Kept.setCell (Kept.setCell (Kept.setCell (Kept.setCell (Kept.setCell (Kept.setCell (Kept.setCell (Kept.setCell (Kept.setCell (Kept.setCell (Kept.setCell (Kept.setCell (Kept.setCell (Kept.setCell (Kept.setCell (Kept.setCell (Kept.setCell (Kept.setCell (Kept.setCell (Kept.setCell (Kept.setCell (Kept.setCell (Kept.setCell (Kept.setCell (Kept.setCell (Kept.setCell (Kept.setCell (Kept.setCell (Kept.setCell yk.out (p := ⟨w.heap.size + 1 + 1, 2, none⟩) (.inl (by simp only []; omega)) _) (p := ⟨w.heap.size + 1 + 1, 3, none⟩) (.inl (by simp only []; omega)) _) (p := ⟨w.heap.size + 1 + 1, 4, none⟩) (.inl (by simp only []; omega)) _) (p := ⟨w.heap.size + 1 + 1, 5, none⟩) (.inl (by simp only []; omega)) _) (p := ⟨w.heap.size + 1 + 1, 6, none⟩) (.inl (by simp only []; omega)) _) (p := ⟨w.heap.size + 1 + 1, 7, none⟩) (.inl (by simp only []; omega)) _) (p := ⟨w.heap.size + 1 + 1, 8, none⟩) (.inl (by simp only []; omega)) _) (p := ⟨w.heap.size + 1 + 1, 9, none⟩) (.inl (by simp only []; omega)) _) (p := ⟨w.heap.size + 1 + 1, 10, none⟩) (.inl (by simp only []; omega)) _) (p := ⟨w.heap.size + 1 + 1, 11, none⟩) (.inl (by simp only []; omega)) _) (p := ⟨w.heap.size + 1 + 1, 12, none⟩) (.inl (by simp only []; omega)) _) (p := ⟨w.heap.size + 1 + 1, 13, none⟩) (.inl (by simp only []; omega)) _) (p := ⟨w.heap.size + 1 + 1, 14, none⟩) (.inl (by simp only []; omega)) _) (p := ⟨w.heap.size + 1 + 1, 15, none⟩) (.inl (by simp only []; omega)) _) (p := ⟨w.heap.size + 1, 0, none⟩) (.inl (by simp only []; omega)) _) (p := ⟨w.heap.size + 1, 1, none⟩) (.inl (by simp only []; omega)) _) (p := ⟨w.heap.size + 1, 2, none⟩) (.inl (by simp only []; omega)) _) (p := ⟨w.heap.size + 1, 3, none⟩) (.inl (by simp only []; omega)) _) (p := ⟨w.heap.size + 1, 4, none⟩) (.inl (by simp only []; omega)) _) (p := ⟨w.heap.size + 1, 5, none⟩) (.inl (by simp only []; omega)) _) (p := ⟨w.heap.size + 1, 6, none⟩) (.inl (by simp only []; omega)) _) (p := ⟨w.heap.size + 1, 7, none⟩) (.inl (by simp only []; omega)) _) (p := ⟨w.heap.size + 1, 8, none⟩) (.inl (by simp only []; omega)) _) (p := ⟨w.heap.size + 1, 9, none⟩) (.inl (by simp only []; omega)) _) (p := ⟨w.heap.size + 1, 10, none⟩) (.inl (by simp only []; omega)) _) (p := ⟨w.heap.size + 1, 11, none⟩) (.inl (by simp only []; omega)) _) (p := ⟨w.heap.size + 1, 12, none⟩) (.inl (by simp only []; omega)) _) (p := ⟨w.heap.size + 1, 13, none⟩) (.inl (by simp only []; omega)) _) (p := ⟨w.heap.size + 1, 14, none⟩) (.inl (by simp only []; omega)) _) (p := ⟨w.heap.size + 1, 15, none⟩) (.inl (by simp only []; omega)) _)
end Go.Proofs.YtepdakgfioffgaaGreat
