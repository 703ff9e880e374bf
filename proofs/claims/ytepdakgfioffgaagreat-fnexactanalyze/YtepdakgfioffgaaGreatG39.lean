import Derived.Test.YtepdakgfioffgaaGreatG30
import Derived.Test.YtepdakgfioffgaaGreatG37
import Derived.Test.YtepdakgfioffgaaGreatG38
import Derived.Test.YtepdakgfioffgaaGreatAzSp
import Derived.Test.YtepdakgfioffgaaGreatG36
import Derived.Test.YtepdakgfioffgaaGreatG00
import Derived.Test.YtepdakgfioffgaaGreatG04
import Derived.Deep.DeepCutAuto
namespace Go.Proofs.YtepdakgfioffgaaGreat
open Go.RowKit
set_option linter.unusedVariables false
set_option linter.unusedSimpArgs false
set_option maxRecDepth 100000 in
set_option maxHeartbeats 4000000 in
theorem markAnalysis_own (x : StAnalysis) (k0 : Int) (w : World) (h0 : 0 ≤ k0) (h1 : k0 + x.size ≤ 1125899906842624) (ha : OwnL w x.rows) :
    Calls Tryz.prog 11 #[x.val, .int .i64 k0] w fun e w' => e = .returned (.int .i64 (k0 + x.size)) ∧ OwnL w' (x.marked k0).rows ∧ Kept (FootL x.rows) w w' := by
  have dh := ha.lt
  have xF := (show Hid (∀ b, FootL x.rows b → b < w.heap.size) from dh)
  have HA := (show Hid (OwnL w x.rows) from ha)
  clear dh
  obtain ⟨gR, jz, gQ, ez, ⟨gu, dM, du, dL, dK⟩, ⟨fI, cZ, cJ, dd, dX⟩, ⟨iH, dU, dF, dV, gT⟩⟩ := x
  have wY := (show Hid (OwnL w [⟨gu, 4, .slice dM du dL, du, vals .i64 dK⟩]) from ha.left)
  have xp := (show Hid (OwnL w [⟨fI, 2, .slice cZ cJ dd, cJ, vals .i64 dX⟩]) from ha.right.left)
  have xR := (show Hid (OwnL w [⟨iH, 1, .slice dU dF dV, dF, vals .i64 gT⟩]) from ha.right.right)
  have r7 := (show Hid (∀ b, FootL [⟨gu, 4, .slice dM du dL, du, vals .i64 dK⟩] b → ¬ FootL [⟨fI, 2, .slice cZ cJ dd, cJ, vals .i64 dX⟩] b) from fun b hi hj => OwnL.cut (ha) b hi ((FootL_append _ _ _).2 (.inl hj)))
  have sB := (show Hid (∀ b, FootL [⟨gu, 4, .slice dM du dL, du, vals .i64 dK⟩] b → ¬ FootL [⟨iH, 1, .slice dU dF dV, dF, vals .i64 gT⟩] b) from fun b hi hj => OwnL.cut (ha) b hi ((FootL_append _ _ _).2 (.inr (hj))))
  have s2 := (show Hid (∀ b, FootL [⟨fI, 2, .slice cZ cJ dd, cJ, vals .i64 dX⟩] b → ¬ FootL [⟨iH, 1, .slice dU dF dV, dF, vals .i64 gT⟩] b) from fun b hi hj => OwnL.cut (ha.right) b hi (hj))
  clear ha
  simp only [StAnalysis.size] at h1
  dsimp only [StAnalysis.val, BS.v, FR.v]
  go_enter Tryz.func11, Tryz.ntmps11
  have C2 := (show Hid (Kept (FootL (StAnalysis.rows ⟨gR, jz, gQ, ez, ⟨gu, dM, du, dL, dK⟩, ⟨fI, cZ, cJ, dd, dX⟩, ⟨iH, dU, dF, dV, gT⟩⟩)) w (w.alloc (.cells #[.int .i64 gR, .int .i64 jz, .int .i64 gQ, .int .i64 ez, .slice dM du dL, .slice cZ cJ dd, .slice dU dF dV] 30))) from (Kept.refl _ _).alloc _)
  have Dq := (show Hid (Blk (w.alloc (.cells #[.int .i64 gR, .int .i64 jz, .int .i64 gQ, .int .i64 ez, .slice dM du dL, .slice cZ cJ dd, .slice dU dF dV] 30)) w.heap.size 30 [.int .i64 gR, .int .i64 jz, .int .i64 gQ, .int .i64 ez, .slice dM du dL, .slice cZ cJ dd, .slice dU dF dV]) from Blk.new w #[.int .i64 gR, .int .i64 jz, .int .i64 gQ, .int .i64 ez, .slice dM du dL, .slice cZ cJ dd, .slice dU dF dV] 30)
  go_wp2_with fail
  refine (markTxnEntryS_own ⟨gu, dM, du, dL, dK⟩ (k0) _ (by omega) (by dsimp only; omega) (wY.out.same ((Kept.refl _ _).alloc _))).mono ?_
  rintro e w1 ⟨rfl, ho, hk⟩
  have uW := hid (Dq.out.kept hk (fun e => by have := xF.out _ ((FootL_append _ _ _).2 (.inl e)); omega))
  have DR := hid (C2.out.next hk (fun b _ e => (FootL_append _ _ _).2 (.inl e)))
  have xI := (show Hid (OwnL w1 (FR.rows 4 (FR.marked ⟨gu, dM, du, dL, dK⟩ (k0)))) from ho)
  have vO := hid ((xp.out.same ((Kept.refl _ _).alloc _)).kept hk (fun b hb e => r7.out b e hb))
  have wH := hid ((xR.out.same ((Kept.refl _ _).alloc _)).kept hk (fun b hb e => sB.out b e hb))
  clear ho hk Dq C2 wY xp xR
  have Gm : w1.cell? ⟨w.heap.size, 5, none⟩ = some (.slice cZ cJ dd) := uW.out.cell 5
  have FI : w1.cell? ⟨w.heap.size, 6, none⟩ = some (.slice dU dF dV) := uW.out.cell 6
  go_wp2_with fail
  refine (markDirtyEntryS_own ⟨fI, cZ, cJ, dd, dX⟩ (k0 + (dK.length : Int)) _ (by omega) (by dsimp only; omega) (vO.out)).mono ?_
  rintro e w2 ⟨rfl, ho, hk⟩
  have yi := hid (uW.out.kept hk (fun e => by have := xF.out _ ((FootL_append _ _ _).2 (.inr ((FootL_append _ _ _).2 (.inl e)))); omega))
  have Bs := hid (DR.out.next hk (fun b _ e => (FootL_append _ _ _).2 (.inr ((FootL_append _ _ _).2 (.inl e)))))
  have xl := (show Hid (OwnL w2 (FR.rows 4 (FR.marked ⟨gu, dM, du, dL, dK⟩ (k0)))) from (xI.out).kept hk (fun b hb e => r7.out b ((FR.foot_marked 4 _ _ b).1 hb) e))
  have wO := (show Hid (OwnL w2 (FR.rows 2 (FR.marked ⟨fI, cZ, cJ, dd, dX⟩ (k0 + (dK.length : Int))))) from ho)
  have vE := (show Hid (OwnL w2 [⟨iH, 1, .slice dU dF dV, dF, vals .i64 gT⟩]) from (wH.out).kept hk (fun b hb e => s2.out b e hb))
  clear ho hk uW DR xI vO wH
  have eE : w2.cell? ⟨w.heap.size, 6, none⟩ = some (.slice dU dF dV) := yi.out.cell 6
  go_wp2_with fail
  refine (markInt64SF_own ⟨iH, dU, dF, dV, gT⟩ (k0 + (dK.length : Int) + (dX.length : Int)) _ (by omega) (by dsimp only; omega) (vE.out)).mono ?_
  rintro e w3 ⟨rfl, ho, hk⟩
  have Sq := hid (yi.out.kept hk (fun e => by have := xF.out _ ((FootL_append _ _ _).2 (.inr ((FootL_append _ _ _).2 (.inr (e))))); omega))
  have Hk := hid (Bs.out.next hk (fun b _ e => (FootL_append _ _ _).2 (.inr ((FootL_append _ _ _).2 (.inr (e))))))
  have Bl := (show Hid (OwnL w3 (FR.rows 4 (FR.marked ⟨gu, dM, du, dL, dK⟩ (k0)))) from (xl.out).kept hk (fun b hb e => sB.out b ((FR.foot_marked 4 _ _ b).1 hb) e))
  have Eu := (show Hid (OwnL w3 (FR.rows 2 (FR.marked ⟨fI, cZ, cJ, dd, dX⟩ (k0 + (dK.length : Int))))) from (wO.out).kept hk (fun b hb e => s2.out b ((FR.foot_marked 2 _ _ b).1 hb) e))
  have DY := (show Hid (OwnL w3 (FR.rows 1 (FR.marked ⟨iH, dU, dF, dV, gT⟩ (k0 + (dK.length : Int) + (dX.length : Int))))) from ho)
  clear ho hk yi Bs xl wO vE
  go_wp2
  go_ret
  refine ⟨by first | rfl | (refine ret_int ?_; simp only [StAnalysis.size]; omega), ?_, Hk.out⟩
  exact (Bl.out).append ((Eu.out).append (DY.out) (fun b hb e => s2.out b ((FR.foot_marked 2 _ _ b).1 hb) ((FR.foot_marked 1 _ _ b).1 e))) (fun b hb e => ((FootL_append _ _ _).1 e).elim (fun e1 => r7.out b ((FR.foot_marked 4 _ _ b).1 hb) ((FR.foot_marked 2 _ _ b).1 e1)) (fun e1 => sB.out b ((FR.foot_marked 4 _ _ b).1 hb) ((FR.foot_marked 1 _ _ b).1 e1)))
set_option maxRecDepth 100000 in
set_option maxHeartbeats 4000000 in
theorem heldAnalysis_own (x : StAnalysis) (k0 : Int) (w : World) (h0 : 0 ≤ k0) (h1 : k0 + x.size ≤ 1125899906842624) (ha : OwnL w (x.marked k0).rows) :
    Calls Tryz.prog 12 #[x.val, .int .i64 k0] w fun e w' => e = .returned (.int .i64 (k0 + x.size)) ∧ Same w w' := by
  obtain ⟨gR, jz, gQ, ez, ⟨gu, dM, du, dL, dK⟩, ⟨fI, cZ, cJ, dd, dX⟩, ⟨iH, dU, dF, dV, gT⟩⟩ := x
  have pM := (show Hid (OwnL w (FR.rows 4 (FR.marked ⟨gu, dM, du, dL, dK⟩ (k0)))) from ha.left)
  have nh := (show Hid (OwnL w (FR.rows 2 (FR.marked ⟨fI, cZ, cJ, dd, dX⟩ (k0 + (dK.length : Int))))) from ha.right.left)
  have jb := (show Hid (OwnL w (FR.rows 1 (FR.marked ⟨iH, dU, dF, dV, gT⟩ (k0 + (dK.length : Int) + (dX.length : Int))))) from ha.right.right)
  clear ha
  simp only [StAnalysis.size] at h1
  dsimp only [StAnalysis.val, BS.v, FR.v]
  go_enter Tryz.func12, Tryz.ntmps12
  have bk := (show Hid (Same w (w.alloc (.cells #[.int .i64 gR, .int .i64 jz, .int .i64 gQ, .int .i64 ez, .slice dM du dL, .slice cZ cJ dd, .slice dU dF dV] 30))) from (Kept.refl _ _).alloc _)
  have cv := (show Hid (Blk (w.alloc (.cells #[.int .i64 gR, .int .i64 jz, .int .i64 gQ, .int .i64 ez, .slice dM du dL, .slice cZ cJ dd, .slice dU dF dV] 30)) w.heap.size 30 [.int .i64 gR, .int .i64 jz, .int .i64 gQ, .int .i64 ez, .slice dM du dL, .slice cZ cJ dd, .slice dU dF dV]) from Blk.new w #[.int .i64 gR, .int .i64 jz, .int .i64 gQ, .int .i64 ez, .slice dM du dL, .slice cZ cJ dd, .slice dU dF dV] 30)
  have QX : ¬ (k0 + (dK.length : Int)) < 0 := by omega
  go_wp2_with fail
  refine (heldTxnEntryS_own ⟨gu, dM, du, dL, dK⟩ (k0) _ (by omega) (by dsimp only; omega) (pM.out.same bk.out)).mono ?_
  rintro e w1 ⟨rfl, hk⟩
  have bq := hid (bk.out.trans hk)
  have bG := hid (cv.out.same hk)
  clear hk
  have Gm : w1.cell? ⟨w.heap.size, 5, none⟩ = some (.slice cZ cJ dd) := bG.out.cell 5
  have FI : w1.cell? ⟨w.heap.size, 6, none⟩ = some (.slice dU dF dV) := bG.out.cell 6
  have L5 : ¬ (k0 + (dK.length : Int) + (dX.length : Int)) < 0 := by omega
  go_wp2_with fail
  refine (heldDirtyEntryS_own ⟨fI, cZ, cJ, dd, dX⟩ (k0 + (dK.length : Int)) _ (by omega) (by dsimp only; omega) (nh.out.same bq.out)).mono ?_
  rintro e w2 ⟨rfl, hk⟩
  have cw := hid (bq.out.trans hk)
  have cx := hid (bG.out.same hk)
  clear hk
  have eE : w2.cell? ⟨w.heap.size, 6, none⟩ = some (.slice dU dF dV) := cx.out.cell 6
  have P8 : ¬ (k0 + (dK.length : Int) + (dX.length : Int) + (gT.length : Int)) < 0 := by omega
  go_wp2_with fail
  refine (heldInt64SF_own ⟨iH, dU, dF, dV, gT⟩ (k0 + (dK.length : Int) + (dX.length : Int)) _ (by omega) (by dsimp only; omega) (jb.out.same cw.out)).mono ?_
  rintro e w3 ⟨rfl, hk⟩
  have dZ := hid (cw.out.trans hk)
  have gv := hid (cx.out.same hk)
  clear hk
  go_wp2
  go_ret
  exact ⟨by first | rfl | (refine ret_int ?_; simp only [StAnalysis.size]; omega), dZ.out⟩
end Go.Proofs.YtepdakgfioffgaaGreat

namespace Go.Proofs.YtepdakgfioffgaaGreat
open Go.RowKit
set_option linter.unusedVariables false
set_option linter.unusedSimpArgs false
theorem range2 {w : World} {b : Nat} {x y : Value} (h0 : w.cell? ⟨b, 0, none⟩ = some x) (h1 : w.cell? ⟨b, 1, none⟩ = some y) : w.rangeAt b 0 [x, y] := fun j v hv => by
  match j with
  | 0 => simp at hv; rw [← hv]; exact h0
  | 1 => simp at hv; rw [← hv]; exact h1
  | j + 2 => simp at hv
theorem hok_of {qs : List StLogFrame} (h : FrOK qs) : ∀ p ∈ qs, p.record.isB ∧ p.record.szs ≤ 1073741824 := fun p hp => ⟨h.isB p hp, by have h1 := h.each p hp; have h2 : p.record.szs = p.szs := rfl; omega⟩
theorem azAns_small {w : World} {ps : List StLogFrame} {en c : Int} (fG : ∀ p ∈ ps, StLogFrame.rd w p) {y : StAnalysis} (hd : y.dat = azAns (datFr ps) en c) : y.size ≤ 1000 := by
  obtain ⟨yc, yf, ye, yn, ⟨e4, ta, tn, tc, tb⟩, ⟨AR, da, dn, dc, db⟩, ⟨e1, ia, il, ic, ib⟩⟩ := y
  have yH : ∀ k : Int, azAns (datFr ps) en c = azBad k → StAnalysis.size ⟨yc, yf, ye, yn, ⟨e4, ta, tn, tc, tb⟩, ⟨AR, da, dn, dc, db⟩, ⟨e1, ia, il, ic, ib⟩⟩ ≤ 1000 := fun k h => by
    rw [h] at hd
    simp only [StAnalysis.dat, azBad, Prod.mk.injEq] at hd
    obtain ⟨_, _, _, _, rfl, rfl, rfl⟩ := hd
    simp [StAnalysis.size]
  rcases lr : bgAt (fs6 ps) c with _ | k
  · exact yH 1 (azAns_1 lr)
  cases hB : (ps.any strayD || nbg fAfter (fs5 ps)) with
  | true => exact yH 2 (azAns_2 lr hB)
  | false =>
    cases hz : azF (dTab (ps.getD (k + 1) zFr).dat) (((fs6 ps).take (kpN (fs6 ps) (k + 2) ps.length)).drop (k + 2)) with
    | none => exact yH 2 (azAns_3 lr hB rfl hz)
    | some s =>
      obtain ⟨bg, l0⟩ := bgAt_is lr
      rw [fs6_length] at bg
      have MA : ∀ (m : Nat) (h : m < ps.length), strayD ps[m] = false := fun m h => by
        have h1 := (Bool.or_eq_false_iff.1 hB).1
        rw [List.any_eq_false] at h1
        simpa using h1 ps[m] (List.getElem_mem h)
      have hP : ps.getD (k + 1) zFr = ps[k + 1] := by rw [List.getD_eq_getElem?_getD, List.getElem?_eq_getElem bg]; rfl
      have hk : (ps.getD (k + 1) zFr).record.kind = 7 := by rw [hP]; rw [fs6_at ps (k + 1) bg] at l0; exact l0
      have hr : StLogRecord.rd w (ps.getD (k + 1) zFr).record := by rw [hP]; exact fG _ (List.getElem_mem bg)
      have vy : strayD (ps.getD (k + 1) zFr) = false := by rw [hP]; exact MA (k + 1) bg
      have hA := azF_ok (dTab_ok vy hk ⟨_, hr.2.2.1.2.1⟩ ⟨_, hr.2.2.2.1.2.1⟩) hz
      have hb := azF_b (dTab_b vy hk ⟨_, hr.2.2.1.2.1⟩ ⟨_, hr.2.2.2.1.2.1⟩) (good_part MA) hz
      rw [azAns_4 lr hB rfl hz] at hd
      simp only [StAnalysis.dat, Prod.mk.injEq] at hd
      obtain ⟨_, _, _, _, rfl, rfl, rfl⟩ := hd
      have h1 := hA.few
      have h2 := hA.dy.len16 hb.dy
      have h3 := hA.im.len16 hb.im
      simp only [StAnalysis.size, flat4_length, flat2_length]
      omega
set_option maxRecDepth 100000 in
set_option maxHeartbeats 16000000 in
theorem analyze_law (v0 : Value) (l5 : List StLogFrame) (en c : Int) (w : World) (Fp : RdFr w v0 l5) (Le : ∀ p ∈ l5, p.isB) :
    Calls Tryz.prog 3 #[.agg #[v0, .int .i64 en], .int .i64 c] w fun e w' => e = .returned (.bool true) ∧ Same w w' := by
  obtain ⟨pT, po, rfl⟩ := Fp.form
  have qP := Fp.row.max
  unfold maxLen at qP
  have cv := (show Hid (∀ p ∈ l5, p.isB) from Le)
  obtain ⟨L, hL⟩ : ∃ L, l5.length = L := ⟨_, rfl⟩
  have pf := (show Hid (RdFr w (.slice pT L po) l5) from hL ▸ Fp)
  rw [hL] at qP ⊢
  have HL := hid hL
  clear Le Fp hL
  go_enter Tryz.func3, Tryz.ntmps3
  go_upto_region 1 with fail
  have xW := hid (sameA w [.slice pT L po, .int .i64 en] 24)
  have pD := hid (Blk.newL w [.slice pT L po, .int .i64 en] 24)
  generalize w.alloc (.cells #[.slice pT L po, .int .i64 en] 24) = w1 at *
  obtain ⟨AB, EA⟩ : ∃ x, w.heap.size = x := ⟨_, rfl⟩
  rw [EA] at pD ⊢
  have Vo : w.heap.size ≤ AB := by omega
  have VJ := pD.out.lt
  clear EA
  have m7 := pD.out.c0
  have m0 := pD.out.c1
  have lA := pD.out.lt
  go_wp2_with fail
  refine (szScan_any (.slice pT L po) l5 en 1048576 w1 (by omega) (by omega) (pf.out.same xW.out)).mono ?_
  rintro e w2 ⟨Ru, rfl, hr, hk⟩
  clear m7 m0 lA
  have T2 := hk.size
  have rJ := hid (pD.out.same hk)
  have ve := hid (xW.out.trans hk)
  clear pD xW
  clear hk
  rcases hr with rfl | ⟨hr, EW⟩
  · go_wp2
    go_ret
    exact ⟨rfl, ve.out⟩
  have TC := sizeFr_nonneg l5
  rw [HL.out] at hr
  have Tp : L ≤ 1048576 := by omega
  have rx : sizeFr l5 ≤ 1048576 := by omega
  have Vs : ¬ Ru < 0 := by omega
  have mY : Hid (∀ p ∈ l5, p.szs ≤ 1073741824) := fun p hp => by have := sizeFr_mem l5 p hp; omega
  have EU : Hid (∀ qs : List StLogFrame, datFr qs = datFr l5 → szsFr qs = szsFr l5 → FrOK qs) := fun qs hq qH => FrOK.of hq qH cv.out (by rw [HL.out]; exact Tp) rx
  have lZ : Hid (∀ qs : List StLogFrame, datFr qs = datFr l5 → qs.length = L) := fun qs hq => by rw [← datFr_length, hq, datFr_length]; exact HL.out
  clear hr
  have m7 := rJ.out.c0
  have m0 := rJ.out.c1
  have lA := rJ.out.lt
  go_wp2_with fail
  refine (toScan_any (.slice pT L po) l5 en w2 (by rw [HL.out]; omega) mY.out (pf.out.same ve.out)).mono ?_
  rw [HL.out]
  rintro e w3 ⟨gC, qC, rfl, hq, qH, hf, ho, hk⟩
  have Rk : Hid (datFr qC = datFr l5) := hq
  have LW : Hid (FrOK qC) := EU.out qC hq qH
  have NE : Hid (qC.length = L) := lZ.out qC hq
  have je := (show Hid (∀ b, footFr (.slice (some ⟨gC, 0, none⟩) L L) qC b → w2.heap.size ≤ b ∧ b < w3.heap.size) from fun b hb => ⟨hf b hb, ho.lt b hb⟩)
  clear hq qH hf
  clear m7 m0 lA
  have Ri := hk.size
  have Bg := hid (rJ.out.same hk)
  have Cm := hid (ve.out.trans hk)
  clear rJ ve
  have vh := (show Hid (OwnFr w3 (.slice (some ⟨gC, 0, none⟩) L L) qC) from ho)
  clear ho hk
  go_wp2_with fail
  have j7 := specAnalyze_any (some ⟨gC, 0, none⟩) L qC en c w3 (hok_of LW.out) LW.out.len (by rw [NE.out]; exact vh.out.rd)
  rw [NE.out] at j7
  refine j7.mono ?_
  clear j7
  rintro e w4 ⟨yW, rfl, hd, hf, ho, hk⟩
  have VM : StAnalysis.size yW ≤ 1000 := azAns_small (vh.out.rd.data) hd
  rw [Rk.out] at hd
  have UA := StAnalysis.size_le yW
  have GK := (show Hid (StAnalysis.dat yW = azAns (datFr l5) en c) from hd)
  dsimp only [StAnalysis.val, FR.v]
  have Lp := (show Hid (∀ b, FootL (StAnalysis.rows yW) b → w3.heap.size ≤ b ∧ b < w4.heap.size) from fun b hb => ⟨hf b hb, ho.lt b hb⟩)
  clear hd hf
  have Ur := hk.size
  have DX := hid (Bg.out.same hk)
  have Tr := hid (vh.out.same hk)
  have CC := hid (Cm.out.trans hk)
  clear Bg vh Cm
  have CW := (show Hid (OwnL w4 (StAnalysis.rows yW)) from ho)
  clear ho hk
  go_upto_region 6 with fail
  have hk := sameA w4 [.int .i64 yW.code, .int .i64 yW.frs, .int .i64 yW.endL, .int .i64 yW.nT, .slice yW.txns.a yW.txns.n yW.txns.c, .slice yW.dirty.a yW.dirty.n yW.dirty.c, .slice yW.img.a yW.img.n yW.img.c] 30
  have eg := Blk.newL w4 [.int .i64 yW.code, .int .i64 yW.frs, .int .i64 yW.endL, .int .i64 yW.nT, .slice yW.txns.a yW.txns.n yW.txns.c, .slice yW.dirty.a yW.dirty.n yW.dirty.c, .slice yW.img.a yW.img.n yW.img.c] 30
  have zM := eg.lt
  generalize w4.alloc (.cells #[.int .i64 yW.code, .int .i64 yW.frs, .int .i64 yW.endL, .int .i64 yW.nT, .slice yW.txns.a yW.txns.n yW.txns.c, .slice yW.dirty.a yW.dirty.n yW.dirty.c, .slice yW.img.a yW.img.n yW.img.c] 30) = w5 at *
  obtain ⟨Z, hZ⟩ : ∃ x, w4.heap.size = x := ⟨_, rfl⟩
  have Vt : w4.heap.size = Z := hZ
  rw [hZ] at eg zM ⊢
  have RU := hk.size
  have rN := hid (DX.out.same hk)
  have BZ := hid (CW.out.same hk)
  have qG := hid (CC.out.trans hk)
  clear DX CW CC
  have xD := (show Hid (Blk w5 Z 30 [.int .i64 yW.code, .int .i64 yW.frs, .int .i64 yW.endL, .int .i64 yW.nT, .slice yW.txns.a yW.txns.n yW.txns.c, .slice yW.dirty.a yW.dirty.n yW.dirty.c, .slice yW.img.a yW.img.n yW.img.c]) from eg)
  clear hk eg hZ
  have m7 := rN.out.c0
  have m0 := rN.out.c1
  have lA := rN.out.lt
  go_wp2_with fail
  refine (toScan_any (.slice pT L po) l5 en w5 (by rw [HL.out]; omega) mY.out (pf.out.same qG.out)).mono ?_
  rw [HL.out]
  rintro e w6 ⟨gX, qX, rfl, hq, qH, hf, ho, hk⟩
  have Pm : Hid (datFr qX = datFr l5) := hq
  have AI : Hid (FrOK qX) := EU.out qX hq qH
  have qV : Hid (qX.length = L) := lZ.out qX hq
  have tN := (show Hid (∀ b, footFr (.slice (some ⟨gX, 0, none⟩) L L) qX b → w5.heap.size ≤ b ∧ b < w6.heap.size) from fun b hb => ⟨hf b hb, ho.lt b hb⟩)
  clear hq qH hf
  clear m7 m0 lA
  have Tz := hk.size
  have CF := hid (rN.out.same hk)
  have Bo := hid (BZ.out.same hk)
  have xx := hid (xD.out.same hk)
  have sM := hid (qG.out.trans hk)
  clear rN BZ xD qG
  have Bh := (show Hid (OwnFr w6 (.slice (some ⟨gX, 0, none⟩) L L) qX) from ho)
  clear ho hk
  go_upto_region 7 with fail
  have hk := sameA w6 [.slice (some ⟨gX, 0, none⟩) L L, .int .i64 en] 34
  have eg := Blk.newL w6 [.slice (some ⟨gX, 0, none⟩) L L, .int .i64 en] 34
  have zM := eg.lt
  generalize w6.alloc (.cells #[.slice (some ⟨gX, 0, none⟩) L L, .int .i64 en] 34) = w7 at *
  obtain ⟨X, hX⟩ : ∃ x, w6.heap.size = x := ⟨_, rfl⟩
  have VP : w6.heap.size = X := hX
  rw [hX] at eg zM ⊢
  have UJ := hk.size
  have Ds := hid (CF.out.same hk)
  have CP := hid (Bo.out.same hk)
  have xh := hid (xx.out.same hk)
  have uj := hid (Bh.out.same hk)
  have BD := hid (sM.out.trans hk)
  clear CF Bo xx Bh sM
  have oC := (show Hid (Blk w7 X 34 [.slice (some ⟨gX, 0, none⟩) L L, .int .i64 en]) from eg)
  clear hk eg hX
  have lU := oC.out.c0
  have lS := oC.out.c1
  have zY := oC.out.lt
  go_wp2_with fail
  have j7 := implAnalyze_any (some ⟨gX, 0, none⟩) L qX en c w7 (hok_of AI.out) AI.out.len (by rw [qV.out]; exact Nat.le_refl _) (by rw [qV.out]; exact uj.out.rd)
  rw [qV.out] at j7
  refine j7.mono ?_
  clear j7
  rintro e w8 ⟨yG, rfl, hd, hf, ho, hk⟩
  have Vu : StAnalysis.size yG ≤ 1000 := azAns_small (uj.out.rd.data) hd
  rw [Pm.out] at hd
  have RO := StAnalysis.size_le yG
  have K5 := (show Hid (StAnalysis.dat yG = azAns (datFr l5) en c) from hd)
  dsimp only [StAnalysis.val, FR.v]
  have xS := (show Hid (∀ b, FootL (StAnalysis.rows yG) b → w7.heap.size ≤ b ∧ b < w8.heap.size) from fun b hb => ⟨hf b hb, ho.lt b hb⟩)
  clear hd hf
  clear lU lS zY
  have Sr := hk.size
  have Cz := hid (Ds.out.same hk)
  have Dy := hid (CP.out.same hk)
  have vV := hid (xh.out.same hk)
  have BB := hid (uj.out.same hk)
  have wT := hid (oC.out.same hk)
  have rL := hid (BD.out.trans hk)
  clear Ds CP xh uj oC BD
  have BH := (show Hid (OwnL w8 (StAnalysis.rows yG)) from ho)
  clear ho hk
  go_upto_region 8 with fail
  have hk := sameA w8 [.int .i64 yG.code, .int .i64 yG.frs, .int .i64 yG.endL, .int .i64 yG.nT, .slice yG.txns.a yG.txns.n yG.txns.c, .slice yG.dirty.a yG.dirty.n yG.dirty.c, .slice yG.img.a yG.img.n yG.img.c] 30
  have eg := Blk.newL w8 [.int .i64 yG.code, .int .i64 yG.frs, .int .i64 yG.endL, .int .i64 yG.nT, .slice yG.txns.a yG.txns.n yG.txns.c, .slice yG.dirty.a yG.dirty.n yG.dirty.c, .slice yG.img.a yG.img.n yG.img.c] 30
  have zM := eg.lt
  generalize w8.alloc (.cells #[.int .i64 yG.code, .int .i64 yG.frs, .int .i64 yG.endL, .int .i64 yG.nT, .slice yG.txns.a yG.txns.n yG.txns.c, .slice yG.dirty.a yG.dirty.n yG.dirty.c, .slice yG.img.a yG.img.n yG.img.c] 30) = w9 at *
  obtain ⟨Y, hY⟩ : ∃ x, w8.heap.size = x := ⟨_, rfl⟩
  have U5 : w8.heap.size = Y := hY
  rw [hY] at eg zM ⊢
  have Rn := hk.size
  have Co := hid (Cz.out.same hk)
  have zI := hid (Dy.out.same hk)
  have kx := hid (vV.out.same hk)
  have C9 := hid (BB.out.same hk)
  have xG := hid (wT.out.same hk)
  have yv := hid (BH.out.same hk)
  have Ew := hid (rL.out.trans hk)
  clear Cz Dy vV BB wT BH rL
  have ky := (show Hid (Blk w9 Y 30 [.int .i64 yG.code, .int .i64 yG.frs, .int .i64 yG.endL, .int .i64 yG.nT, .slice yG.txns.a yG.txns.n yG.txns.c, .slice yG.dirty.a yG.dirty.n yG.dirty.c, .slice yG.img.a yG.img.n yG.img.c]) from eg)
  clear hk eg hY
  have od := kx.out.c0
  have oM := kx.out.c1
  have oQ := kx.out.c2
  have oG := kx.out.c3
  have oz := kx.out.c4
  have oI := kx.out.c5
  have n2 := kx.out.c6
  have A1 := kx.out.lt
  have lw := ky.out.c0
  have lk := ky.out.c1
  have lm := ky.out.c2
  have lg := ky.out.c3
  have lb := ky.out.c4
  have lv := ky.out.c5
  have lh := ky.out.c6
  have uI := ky.out.lt
  go_wp2_with fail
  refine (eqAnalysis_own yG yW w9 (by omega) (K5.out.trans GK.out.symm) yv.out zI.out).mono ?_
  rintro e vw ⟨rfl, hk⟩
  clear od oM oQ oG oz oI n2 lw lk lm lg lb lv lh A1 uI
  have Qs := hk.size
  have n3 := hid (Co.out.same hk)
  have vv := hid (zI.out.same hk)
  have tF := hid (kx.out.same hk)
  have vW := hid (C9.out.same hk)
  have mP := hid (xG.out.same hk)
  have xy := hid (yv.out.same hk)
  have sD := hid (ky.out.same hk)
  have vQ := hid (Ew.out.trans hk)
  clear Co zI kx C9 xG yv ky Ew
  clear hk
  have m7 := n3.out.c0
  have m0 := n3.out.c1
  have lA := n3.out.lt
  have lU := mP.out.c0
  have lS := mP.out.c1
  have zY := mP.out.lt
  go_wp2_with fail
  refine wp_region_V (fun wx : World => (wx.cell? ⟨X, 0, none⟩ = some (.slice (some ⟨gX, 0, none⟩) L L) ∧ wx.cell? ⟨X, 1, none⟩ = some (.int .i64 en)) ∧ wx.cell? ⟨AB, 0, none⟩ = some (.slice pT L po) ∧ wx.cell? ⟨AB, 1, none⟩ = some (.int .i64 en)) 99 5 rfl (by kernel_rfl) ?_
  have hk : Same vw vw.drew := (Kept.refl _ _).drew
  generalize vw.drew = J4 at *
  have hS : (fun wx : World => (wx.cell? ⟨X, 0, none⟩ = some (.slice (some ⟨gX, 0, none⟩) L L) ∧ wx.cell? ⟨X, 1, none⟩ = some (.int .i64 en)) ∧ wx.cell? ⟨AB, 0, none⟩ = some (.slice pT L po) ∧ wx.cell? ⟨AB, 1, none⟩ = some (.int .i64 en)) J4 := ⟨⟨hk.cellOf lU id, hk.cellOf lS id⟩, hk.cellOf m7 id, hk.cellOf m0 id⟩
  refine tkV 0 31 (.agg #[.slice (some ⟨gX, 0, none⟩) L L, .int .i64 en]) hS ?_ (hy := fun wx cI => exec_load_mid (cs := [.slice (some ⟨gX, 0, none⟩) L L, .int .i64 en]) rfl rfl (range2 cI.1.1 cI.1.2) Tryz.underlying34 rfl (by kernel_rfl))
  refine tkV 1 32 (.agg #[.slice pT L po, .int .i64 en]) hS ?_ (hy := fun wx cI => exec_load_mid (cs := [.slice pT L po, .int .i64 en]) rfl rfl (range2 cI.2.1 cI.2.2) Tryz.underlying24 rfl (by kernel_rfl))
  clear m7 m0 lU lS lA zY
  have OY := hk.size
  have vi := hid (n3.out.same hk)
  have xf := hid (vv.out.same hk)
  have rK := hid (tF.out.same hk)
  have vI := hid (vW.out.same hk)
  have ru := hid (mP.out.same hk)
  have xj := hid (xy.out.same hk)
  have sq := hid (sD.out.same hk)
  have rz := hid (vQ.out.trans hk)
  clear n3 vv tF vW mP xy sD vQ
  clear hk
  refine wpAnyV_one (i := 2) (by kernel_rfl) rfl (fun Kc hK => ?_)
  go_simp
  refine (toScan_any (.slice pT L po) l5 en J4 (by rw [HL.out]; omega) mY.out (pf.out.same rz.out)).mono ?_
  rw [HL.out]
  rintro e EI ⟨gD, qD, rfl, hq, qH, hf, ho, hk⟩
  have hS : (fun wx : World => (wx.cell? ⟨X, 0, none⟩ = some (.slice (some ⟨gX, 0, none⟩) L L) ∧ wx.cell? ⟨X, 1, none⟩ = some (.int .i64 en)) ∧ wx.cell? ⟨AB, 0, none⟩ = some (.slice pT L po) ∧ wx.cell? ⟨AB, 1, none⟩ = some (.int .i64 en)) EI := ⟨⟨hk.cellOf hS.1.1 id, hk.cellOf hS.1.2 id⟩, hk.cellOf hS.2.1 id, hk.cellOf hS.2.2 id⟩
  have Rq : Hid (datFr qD = datFr l5) := hq
  have UQ : Hid (FrOK qD) := EU.out qD hq qH
  have tP : Hid (qD.length = L) := lZ.out qD hq
  have VI := (show Hid (∀ b, footFr (.slice (some ⟨gD, 0, none⟩) L L) qD b → J4.heap.size ≤ b ∧ b < EI.heap.size) from fun b hb => ⟨hf b hb, ho.lt b hb⟩)
  clear hq qH hf
  have Mv := hk.size
  have wG := hid (vi.out.same hk)
  have xq := hid (xf.out.same hk)
  have rR := hid (rK.out.same hk)
  have pX := hid (vI.out.same hk)
  have tg := hid (ru.out.same hk)
  have wA := hid (xj.out.same hk)
  have sL := hid (sq.out.same hk)
  have vK := hid (rz.out.trans hk)
  clear vi xf rK vI ru xj sq rz
  have tz := (show Hid (OwnFr EI (.slice (some ⟨gD, 0, none⟩) L L) qD) from ho)
  clear ho hk
  refine hK.out _ _ (fun _ => hS) ?_
  clear hK Kc
  try simp only [Act.put, sA, s0, sS]
  refine wpAnyV_one (i := 3) (by kernel_rfl) rfl (fun Kc hK => ?_)
  go_simp
  refine (eqScan_own (.slice (some ⟨gX, 0, none⟩) L L) (.slice (some ⟨gD, 0, none⟩) L L) qX qD en EI (Nat.le_trans AI.out.len (by omega)) (Pm.out.trans Rq.out.symm) (fun p hp => by have h1 := StLogFrame.size_rd (pX.out.rd.data p hp); have h2 := AI.out.each p hp; omega) pX.out tz.out).mono ?_
  rintro e Ll ⟨rfl, hk⟩
  have hS : (fun wx : World => (wx.cell? ⟨X, 0, none⟩ = some (.slice (some ⟨gX, 0, none⟩) L L) ∧ wx.cell? ⟨X, 1, none⟩ = some (.int .i64 en)) ∧ wx.cell? ⟨AB, 0, none⟩ = some (.slice pT L po) ∧ wx.cell? ⟨AB, 1, none⟩ = some (.int .i64 en)) Ll := ⟨⟨hk.cellOf hS.1.1 id, hk.cellOf hS.1.2 id⟩, hk.cellOf hS.2.1 id, hk.cellOf hS.2.2 id⟩
  have Mw := hk.size
  have vB := hid (wG.out.same hk)
  have wM := hid (xq.out.same hk)
  have sf := hid (rR.out.same hk)
  have wQ := hid (pX.out.same hk)
  have ml := hid (tg.out.same hk)
  have wP := hid (wA.out.same hk)
  have rS := hid (sL.out.same hk)
  have Qz := hid (tz.out.same hk)
  have vP := hid (vK.out.trans hk)
  clear wG xq rR pX tg wA sL tz vK
  clear hk
  refine hK.out _ _ (fun _ => hS) ?_
  clear hK Kc
  try simp only [Act.put, sA, s0, sS]
  refine tk 4 35 hS ?_
  refine wpAnyV_done (by kernel_rfl) ?_
  clear hS
  have lU := ml.out.c0
  have lS := ml.out.c1
  have zY := ml.out.lt
  go_wp2_with fail
  have S9 : mzFr qX ≤ 11 * qX.length + 4 * sizeFr qX := mzFr_rd wQ.out.rd.data
  have Jd := mzFr_nonneg qX
  have Jb := AI.out.sum
  have FF := AI.out.len
  refine (markScan_own (.slice (some ⟨gX, 0, none⟩) L L) qX en 1 Ll (by omega) (by omega) (by omega) wQ.out).mono ?_
  rintro e QI ⟨rfl, _, hk⟩
  obtain ⟨E1, hE⟩ : ∃ E : Int, 1 + mzFr qX = E := ⟨_, rfl⟩
  have T7 : ¬ E1 < 0 := by omega
  have UO : (decide (E1 < 0)) = false := decide_eq_false T7
  rw [hE]
  clear hE S9 Jd Jb FF
  clear lU lS zY
  have LB := hk.size
  have wn := hid (vB.out.kept hk (fun e => by have h1 := tN.out _ e; omega))
  have sJ := hid (wM.out.kept hk (fun b hb e => by have h1 := tN.out _ e; have h2 := Lp.out b hb; omega))
  have jF := hid (sf.out.kept hk (fun e => by have h1 := tN.out _ e; omega))
  have s6 := hid (ml.out.kept hk (fun e => by have h1 := tN.out _ e; omega))
  have rV := hid (wP.out.kept hk (fun b hb e => by have h1 := tN.out _ e; have h2 := xS.out b hb; omega))
  have jI := hid (rS.out.kept hk (fun e => by have h1 := tN.out _ e; omega))
  have wV := hid (vP.out.next hk (fun b hb e => by have h1 := tN.out _ e; omega))
  clear vB wM sf ml wP rS vP
  clear hk
  have od := jF.out.c0
  have oM := jF.out.c1
  have oQ := jF.out.c2
  have oG := jF.out.c3
  have oz := jF.out.c4
  have oI := jF.out.c5
  have n2 := jF.out.c6
  have A1 := jF.out.lt
  have lw := jI.out.c0
  have lk := jI.out.c1
  have lm := jI.out.c2
  have lg := jI.out.c3
  have lb := jI.out.c4
  have lv := jI.out.c5
  have lh := jI.out.c6
  have uI := jI.out.lt
  go_wp2_with fail
  refine (eqAnalysis_own yG yW QI (by omega) (K5.out.trans GK.out.symm) rV.out sJ.out).mono ?_
  rintro e Bf ⟨rfl, hk⟩
  clear od oM oQ oG oz oI n2 lw lk lm lg lb lv lh A1 uI
  have OJ := hk.size
  have xg := hid (wn.out.same hk)
  have vu := hid (sJ.out.same hk)
  have sY := hid (jF.out.same hk)
  have sR := hid (s6.out.same hk)
  have C1 := hid (rV.out.same hk)
  have jG := hid (jI.out.same hk)
  have vo := hid (wV.out.trans hk)
  clear wn sJ jF s6 rV jI wV
  clear hk
  obtain ⟨M, hM⟩ : ∃ M, 1 + StAnalysis.size yG = M := ⟨_, rfl⟩
  have HM := (show Hid (1 + StAnalysis.size yG = M) from hM)
  have VB : ¬ M < 0 := by omega
  have Vl : 0 ≤ M ∧ M ≤ 1125899906842624 := by omega
  clear hM
  have lw := jG.out.c0
  have lk := jG.out.c1
  have lm := jG.out.c2
  have lg := jG.out.c3
  have lb := jG.out.c4
  have lv := jG.out.c5
  have lh := jG.out.c6
  have uI := jG.out.lt
  go_wp2_with fail
  have hm := markAnalysis_own yG 1 Bf (by omega) (by rw [HM.out]; omega) C1.out
  rw [HM.out] at hm
  dsimp only [StAnalysis.val, FR.v] at hm
  refine hm.mono ?_
  clear hm
  rintro e QF ⟨rfl, ho, hk⟩
  clear lw lk lm lg lb lv lh uI
  have Nv := hk.size
  have vn := hid (xg.out.kept hk (fun e => by have h1 := xS.out _ e; omega))
  have xL := hid (vu.out.kept hk (fun b hb e => by have h1 := xS.out _ e; have h2 := Lp.out b hb; omega))
  have tH := hid (sY.out.kept hk (fun e => by have h1 := xS.out _ e; omega))
  have tG := hid (sR.out.kept hk (fun e => by have h1 := xS.out _ e; omega))
  have jD := hid (jG.out.kept hk (fun e => by have h1 := xS.out _ e; omega))
  have vz := hid (vo.out.next hk (fun b hb e => by have h1 := xS.out _ e; omega))
  clear xg vu sY sR jG vo
  have sW := (show Hid (OwnL QF (StAnalysis.marked yG 1).rows) from ho)
  clear hk ho
  have Vd := (show Hid (∀ b, FootL (StAnalysis.marked yG 1).rows b → _ ∧ _) from fun b hb => xS.out b ((StAnalysis.foot_marked _ _ b).1 hb))
  have lw := jD.out.c0
  have lk := jD.out.c1
  have lm := jD.out.c2
  have lg := jD.out.c3
  have lb := jD.out.c4
  have lv := jD.out.c5
  have lh := jD.out.c6
  have uI := jD.out.lt
  go_wp2_with fail
  have hm := heldAnalysis_own yG 1 QF (by omega) (by rw [HM.out]; omega) sW.out
  rw [HM.out] at hm
  dsimp only [StAnalysis.val, FR.v] at hm
  refine hm.mono ?_
  clear hm
  rintro e Lr ⟨rfl, hk⟩
  clear lw lk lm lg lb lv lh uI
  have OI := hk.size
  have oD := hid (vn.out.same hk)
  have xw := hid (xL.out.same hk)
  have rI := hid (tH.out.same hk)
  have sk := hid (tG.out.same hk)
  have sx := hid (jD.out.same hk)
  have vU := hid (sW.out.same hk)
  have rp := hid (vz.out.trans hk)
  clear vn xL tH tG jD sW vz
  clear hk
  have m7 := oD.out.c0
  have m0 := oD.out.c1
  have lA := oD.out.lt
  go_wp2_with fail
  refine (toScan_any (.slice pT L po) l5 en Lr (by rw [HL.out]; omega) mY.out (pf.out.same rp.out)).mono ?_
  rw [HL.out]
  rintro e EG ⟨gJ, qJ, rfl, hq, qH, hf, ho, hk⟩
  have Ux : Hid (datFr qJ = datFr l5) := hq
  have Oy : Hid (FrOK qJ) := EU.out qJ hq qH
  have Hd : Hid (qJ.length = L) := lZ.out qJ hq
  have Vn := (show Hid (∀ b, footFr (.slice (some ⟨gJ, 0, none⟩) L L) qJ b → Lr.heap.size ≤ b ∧ b < EG.heap.size) from fun b hb => ⟨hf b hb, ho.lt b hb⟩)
  clear hq qH hf
  clear m7 m0 lA
  have Pd := hk.size
  have xv := hid (oD.out.same hk)
  have vZ := hid (xw.out.same hk)
  have tl := hid (rI.out.same hk)
  have mw := hid (sk.out.same hk)
  have rG := hid (sx.out.same hk)
  have vR := hid (vU.out.same hk)
  have xN := hid (rp.out.trans hk)
  clear oD xw rI sk sx vU rp
  have qd := (show Hid (OwnFr EG (.slice (some ⟨gJ, 0, none⟩) L L) qJ) from ho)
  clear ho hk
  have lU := mw.out.c0
  have lS := mw.out.c1
  have zY := mw.out.lt
  go_wp2_with fail
  have j7 := implAnalyze_any (some ⟨gJ, 0, none⟩) L qJ en c EG (hok_of Oy.out) Oy.out.len (by rw [Hd.out]; exact Nat.le_refl _) (by rw [Hd.out]; exact qd.out.rd)
  rw [Hd.out] at j7
  refine j7.mono ?_
  clear j7
  rintro e yS ⟨yQ, rfl, hd, hf, ho, hk⟩
  have UW : StAnalysis.size yQ ≤ 1000 := azAns_small (qd.out.rd.data) hd
  rw [Ux.out] at hd
  have Rt := StAnalysis.size_le yQ
  have uf := (show Hid (StAnalysis.dat yQ = azAns (datFr l5) en c) from hd)
  dsimp only [StAnalysis.val, FR.v]
  have CI := (show Hid (∀ b, FootL (StAnalysis.rows yQ) b → EG.heap.size ≤ b ∧ b < yS.heap.size) from fun b hb => ⟨hf b hb, ho.lt b hb⟩)
  clear hd hf
  clear lU lS zY
  have P7 := hk.size
  have vA := hid (xv.out.same hk)
  have wB := hid (vZ.out.same hk)
  have sH := hid (tl.out.same hk)
  have sj := hid (mw.out.same hk)
  have s9 := hid (rG.out.same hk)
  have vS := hid (vR.out.same hk)
  have Rc := hid (qd.out.same hk)
  have xK := hid (xN.out.trans hk)
  clear xv vZ tl mw rG vR qd xN
  have xm := (show Hid (OwnL yS (StAnalysis.rows yQ)) from ho)
  clear ho hk
  go_upto_region 25 with fail
  have hk := sameA yS [.int .i64 yQ.code, .int .i64 yQ.frs, .int .i64 yQ.endL, .int .i64 yQ.nT, .slice yQ.txns.a yQ.txns.n yQ.txns.c, .slice yQ.dirty.a yQ.dirty.n yQ.dirty.c, .slice yQ.img.a yQ.img.n yQ.img.c] 30
  have eg := Blk.newL yS [.int .i64 yQ.code, .int .i64 yQ.frs, .int .i64 yQ.endL, .int .i64 yQ.nT, .slice yQ.txns.a yQ.txns.n yQ.txns.c, .slice yQ.dirty.a yQ.dirty.n yQ.dirty.c, .slice yQ.img.a yQ.img.n yQ.img.c] 30
  have zM := eg.lt
  generalize yS.alloc (.cells #[.int .i64 yQ.code, .int .i64 yQ.frs, .int .i64 yQ.endL, .int .i64 yQ.nT, .slice yQ.txns.a yQ.txns.n yQ.txns.c, .slice yQ.dirty.a yQ.dirty.n yQ.dirty.c, .slice yQ.img.a yQ.img.n yQ.img.c] 30) = mV at *
  obtain ⟨V, hV⟩ : ∃ x, yS.heap.size = x := ⟨_, rfl⟩
  have Vk : yS.heap.size = V := hV
  rw [hV] at eg zM ⊢
  have K3 := hk.size
  have wJ := hid (vA.out.same hk)
  have rQ := hid (wB.out.same hk)
  have jH := hid (sH.out.same hk)
  have s5 := hid (sj.out.same hk)
  have tt := hid (s9.out.same hk)
  have vX := hid (vS.out.same hk)
  have tv := hid (xm.out.same hk)
  have wX := hid (xK.out.trans hk)
  clear vA wB sH sj s9 vS xm xK
  have jM := (show Hid (Blk mV V 30 [.int .i64 yQ.code, .int .i64 yQ.frs, .int .i64 yQ.endL, .int .i64 yQ.nT, .slice yQ.txns.a yQ.txns.n yQ.txns.c, .slice yQ.dirty.a yQ.dirty.n yQ.dirty.c, .slice yQ.img.a yQ.img.n yQ.img.c]) from eg)
  clear hk eg hV
  have od := jH.out.c0
  have oM := jH.out.c1
  have oQ := jH.out.c2
  have oG := jH.out.c3
  have oz := jH.out.c4
  have oI := jH.out.c5
  have n2 := jH.out.c6
  have A1 := jH.out.lt
  have DV := jM.out.c0
  have D2 := jM.out.c1
  have DO := jM.out.c2
  have Be := jM.out.c3
  have Ct := jM.out.c4
  have BN := jM.out.c5
  have Cy := jM.out.c6
  have R3 := jM.out.lt
  go_wp2_with fail
  refine (eqAnalysis_own yQ yW mV (by omega) (uf.out.trans GK.out.symm) tv.out rQ.out).mono ?_
  rintro e T9 ⟨rfl, hk⟩
  clear od oM oQ oG oz oI n2 DV D2 DO Be Ct BN Cy A1 R3
  have N2 := hk.size
  have xH := hid (wJ.out.same hk)
  have vM := hid (rQ.out.same hk)
  have rE := hid (jH.out.same hk)
  have sT := hid (s5.out.same hk)
  have jE := hid (tt.out.same hk)
  have rA := hid (vX.out.same hk)
  have xB := hid (tv.out.same hk)
  have tu := hid (jM.out.same hk)
  have wF := hid (wX.out.trans hk)
  clear wJ rQ jH s5 tt vX tv jM wX
  clear hk
  have lw := jE.out.c0
  have lk := jE.out.c1
  have lm := jE.out.c2
  have lg := jE.out.c3
  have lb := jE.out.c4
  have lv := jE.out.c5
  have lh := jE.out.c6
  have uI := jE.out.lt
  go_wp2_with fail
  have hm := heldAnalysis_own yG 1 T9 (by omega) (by rw [HM.out]; omega) rA.out
  rw [HM.out] at hm
  dsimp only [StAnalysis.val, FR.v] at hm
  refine hm.mono ?_
  clear hm
  rintro e U0 ⟨rfl, hk⟩
  clear lw lk lm lg lb lv lh uI
  have QE := hk.size
  have Mb := hid (xH.out.same hk)
  have ND := hid (vM.out.same hk)
  have G7 := hid (rE.out.same hk)
  have JU := hid (sT.out.same hk)
  have GR := hid (jE.out.same hk)
  have LU := hid (rA.out.same hk)
  have ME := hid (xB.out.same hk)
  have KE := hid (tu.out.same hk)
  have Cg := hid (wF.out.trans hk)
  clear xH vM rE sT jE rA xB tu wF
  clear hk
  go_wp2
  go_ret
  exact ⟨rfl, Cg.out⟩
end Go.Proofs.YtepdakgfioffgaaGreat

namespace Go.Proofs.YtepdakgfioffgaaGreat.fnExactAnalyze
open Go.ChangeShapes Go.WideShapes Go.ChangeAt Go.RowKit
set_option linter.unusedVariables false
theorem own : ownKnob Tryz.prog.godebug = none := by kernel_rfl
theorem laidOut : laidOutB Tryz.prog = true := by kernel_rfl
set_option maxRecDepth 100000 in
theorem lifted (os : Os) (started : os.Started) (H : Type) (enc : TypeId × Value → H) :
    ReturnsInHanded {} Tryz.checked os 3 .any (Rows.fnExactAnalyzeSpec.pre6 enc Tryz.prog Tryz.f3 Rows.fnExactAnalyzeRow.domain false) (Rows.fnExactAnalyzeSpec.post enc Tryz.prog Tryz.f3 false true false false) := by
  refine returnsInHanded_of_change (C := Tryz.checked) own started (by kernel_rfl) Tryz.func3
    (ChangeSpec.witness6 (enc := enc) (C := Tryz.checked) false ⟨#[], #[.agg #[.slice none 0 0, .int .i64 0], .int .i64 0], []⟩ 8 (by kernel_rfl) (by kernel_rfl) (by kernel_rfl) (by kernel_rfl)) ?_
  intro W base args ds gs before xP hW SU _
  have qK : ∀ (j : Nat) t v, Tryz.f3.params[j]? = some t → args[j]? = some v → Value.okWide Tryz.prog W .any base t v := xP
  have Ty := hW
  obtain ⟨p, q, O5, hV, rfl, U4, gK⟩ := hW
  have hA : DataW.TrodAll enc Tryz.prog W 0 (fun _ => true) true Tryz.f3.params.toList args.toList ds p := O5
  rw [Tryz.params3] at hA qK
  obtain ⟨v0, Vy, d0, Vj, p0, q0, Qg, rfl, rfl, h0, r0⟩ := trodAll_cons hA
  obtain ⟨v1, VC, d1, Ve, p1, q1, rfl, rfl, rfl, h1, r1⟩ := trodAll_cons r0
  obtain ⟨rfl, rfl, rfl⟩ := trodAll_nil r1
  obtain rfl : args = #[v0, v1] := by cases args; simp_all
  obtain ⟨rfl, rfl⟩ := trodVars_none hV
  have k0 := h0
  have TH : ∀ x ∈ p0, x.block < W.heap.size := by obtain ⟨m, hm⟩ := k0; exact DataW.trod_lt m _ _ _ hm
  obtain ⟨UK, Sc, S4, rfl, Sb, TF⟩ := open_scan (qK 0 24 v0 rfl rfl) h0
  obtain ⟨a1, rfl, rfl, rfl, w1⟩ := open_int Tryz.underlying2 (qK 1 2 v1 rfl rfl) h1
  clear O5 xP
  refine (analyze_law UK Sc S4 a1 W Sb TF).mono fun e W' ⟨he, hk⟩ => ?_
  have MI : Below W.heap.size W W' := hk.below (Nat.le_refl _) (fun _ _ => id)
  subst he
  exact ⟨_, rfl, _, _, _, [], _, [], Ty, trodAll_mk1 (shut_bool Tryz.underlying4 _), (trodAll_cons_mk (Below.trod laidOut (by kernel_rfl) (of_decide_eq_true (by kernel_rfl)) k0 MI TH) (trodAll_cons_mk (shut_int Tryz.underlying2 w1) trodAll_mk0)), rfl, MI.frame _, fun h => by cases h⟩
theorem over : Rows.fnExactAnalyzeRow.holds Tryz.pinned (OpenSpec.ofChange Rows.fnExactAnalyzeSpec) :=
  OpenClaim.holds_of_wide 3 Tryz.f3 rfl rfl rfl rfl rfl rfl rfl ⟨rfl, rfl, rfl, rfl, rfl⟩ rfl rfl rfl rfl rfl (by kernel_rfl) Tryz.func3 (by kernel_rfl)
    (of_decide_eq_true (by kernel_rfl)) (by unfold Func.isWrapper; first | (rw [if_pos (by decide +kernel)]; kernel_rfl) | (rw [if_neg (by decide +kernel)]; exact ⟨rfl, rfl⟩))
    (fun os started H enc _ => lifted os started H enc)
end Go.Proofs.YtepdakgfioffgaaGreat.fnExactAnalyze
namespace Go.Proofs.YtepdakgfioffgaaGreat
theorem analyze_proved : Rows.FnExactAnalyzeSaid := fnExactAnalyze.over
#print axioms analyze_proved
end Go.Proofs.YtepdakgfioffgaaGreat
