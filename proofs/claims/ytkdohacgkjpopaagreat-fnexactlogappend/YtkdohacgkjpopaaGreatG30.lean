import Derived.Test.YtkdohacgkjpopaaGreatG00
import Derived.Test.YtkdohacgkjpopaaGreatG22
import Derived.Test.YtkdohacgkjpopaaGreatG29
import Derived.Deep.DeepCutAuto
import Derived.Deep.RegionWith
import Derived.Deep.DeepMust
namespace Go.Proofs.YtkdohacgkjpopaaGreat
set_option maxRecDepth 100000
set_option maxHeartbeats 16000000
set_option linter.unusedVariables false
set_option linter.unusedSimpArgs false
open Go.RowKit
structure StAppendResult where
 code : Int
 lsn : Int
 log : StLog
def StAppendResult.val (x : StAppendResult) : Value := .agg #[.int .i64 x.code, .int .i64 x.lsn, .int .i64 x.log.sectors, .int .i64 x.log.epoch, .int .i64 x.log.stop, .int .i64 x.log.flushed, x.log.tail.v]
def StAppendResult.rows (x : StAppendResult) : List Row := x.log.rows
def StAppendResult.dat (x : StAppendResult) : Int × Int × (Int × Int × Int × Int × List Int) := (x.code, x.lsn, x.log.dat)
def StAppendResult.size (x : StAppendResult) : Int := x.log.size
theorem StAppendResult.size_le (x : StAppendResult) : 0 ≤ x.size := by
 unfold StAppendResult.size
 have h0 := x.log.size_le
 omega
def StAppendResult.marked (x : StAppendResult) (k : Int) : StAppendResult := ⟨x.code, x.lsn, x.log.marked (k)⟩
theorem StAppendResult.foot_marked (x : StAppendResult) (k : Int) (b : Nat) : FootL (x.marked k).rows b ↔ FootL x.rows b := by
 exact StLog.foot_marked _ _ b
def StAppendResult.rd (w : World) (x : StAppendResult) : Prop := StLog.rd w x.log
theorem StAppendResult.rd.kept {R : Nat → Prop} {w w' : World} {x : StAppendResult} (h : StAppendResult.rd w x) (hk : Kept R w w') (hr : ∀ b, FootL x.rows b → ¬ R b) : StAppendResult.rd w' x :=
 StLog.rd.kept (h) hk (fun b hb => hr b (hb))
theorem StAppendResult.rd.same {w w' : World} {x : StAppendResult} (h : StAppendResult.rd w x) (hk : Same w w') : StAppendResult.rd w' x := h.kept hk (fun _ _ => id)
theorem StAppendResult.own_rd {w : World} {x : StAppendResult} (h : OwnL w x.rows) : StAppendResult.rd w x :=
 (StLog.own_rd h)
def StAppendResult.szs (x : StAppendResult) : Int := x.log.szs
theorem StAppendResult.szs_le (x : StAppendResult) : 0 ≤ x.szs := by
 unfold StAppendResult.szs
 have h0 := x.log.szs_le
 omega
theorem eqAppendResult_own (x y : StAppendResult) (w : World) (hn : x.size ≤ 1125899906842624) (hd : x.dat = y.dat) (ha : OwnL w x.rows) (hb : OwnL w y.rows) :
  Calls Tryz.prog 10 #[x.val, y.val] w fun e w' => e = .returned (.bool true) ∧ Same w w' := by
 obtain ⟨xcode, xlsn, ⟨xlog_sectors, xlog_epoch, xlog_stop, xlog_flushed, ⟨xlog_tail_e, xlog_tail_a, xlog_tail_c, xlog_tail_b⟩⟩⟩ := x
 obtain ⟨ycode, ylsn, ⟨ylog_sectors, ylog_epoch, ylog_stop, ylog_flushed, ⟨ylog_tail_e, ylog_tail_a, ylog_tail_c, ylog_tail_b⟩⟩⟩ := y
 simp only [StAppendResult.dat, StLog.dat, Prod.mk.injEq] at hd
 obtain ⟨rfl, rfl, ⟨rfl, rfl, rfl, rfl, rfl⟩⟩ := hd
 simp only [StAppendResult.size, StLog.size] at hn
 have Hx0 := (show Hid (OwnL w (StLog.rows ⟨xlog_sectors, xlog_epoch, xlog_stop, xlog_flushed, ⟨xlog_tail_e, xlog_tail_a, xlog_tail_c, xlog_tail_b⟩⟩)) from ha)
 have Hy0 := (show Hid (OwnL w (StLog.rows ⟨xlog_sectors, xlog_epoch, xlog_stop, xlog_flushed, ⟨ylog_tail_e, ylog_tail_a, ylog_tail_c, xlog_tail_b⟩⟩)) from hb)
 clear ha hb
 dsimp only [StAppendResult.val, StLog.val, BS.v]
 go_enter Tryz.func10, Tryz.ntmps10
 have hk0 : Same w ((w.alloc (.cells #[.int .i64 xcode, .int .i64 xlsn, .int .i64 xlog_sectors, .int .i64 xlog_epoch, .int .i64 xlog_stop, .int .i64 xlog_flushed, .slice xlog_tail_a xlog_tail_b.length xlog_tail_c] 35)).alloc (.cells #[.int .i64 xcode, .int .i64 xlsn, .int .i64 xlog_sectors, .int .i64 xlog_epoch, .int .i64 xlog_stop, .int .i64 xlog_flushed, .slice ylog_tail_a xlog_tail_b.length ylog_tail_c] 35)) := ((Kept.refl _ _).alloc _).alloc _
 have HK0 := (show Hid (Same w _) from hk0)
 obtain ⟨_, HBx0, HBy0⟩ := new2 w [.int .i64 xcode, .int .i64 xlsn, .int .i64 xlog_sectors, .int .i64 xlog_epoch, .int .i64 xlog_stop, .int .i64 xlog_flushed, .slice xlog_tail_a xlog_tail_b.length xlog_tail_c] 35 [.int .i64 xcode, .int .i64 xlsn, .int .i64 xlog_sectors, .int .i64 xlog_epoch, .int .i64 xlog_stop, .int .i64 xlog_flushed, .slice ylog_tail_a xlog_tail_b.length ylog_tail_c] 35
 clear hk0
 go_wp2_with fail
 refine (eqLog_own ⟨xlog_sectors, xlog_epoch, xlog_stop, xlog_flushed, ⟨xlog_tail_e, xlog_tail_a, xlog_tail_c, xlog_tail_b⟩⟩ ⟨xlog_sectors, xlog_epoch, xlog_stop, xlog_flushed, ⟨ylog_tail_e, ylog_tail_a, ylog_tail_c, xlog_tail_b⟩⟩ _ (by simp only [StLog.size]; omega) rfl (Hx0.out.same HK0.out) (Hy0.out.same HK0.out)).mono ?_
 rintro e w1 ⟨rfl, hk⟩
 have HK1 := hid (HK0.out.trans hk)
 have HBx1 := hid (HBx0.out.same hk)
 have HBy1 := hid (HBy0.out.same hk)
 clear hk HK0 HBx0 HBy0
 go_wp2
 go_ret
 exact ⟨rfl, HK1.out⟩
theorem markAppendResult_own (x : StAppendResult) (k0 : Int) (w : World) (h0 : 0 ≤ k0) (h1 : k0 + x.size ≤ 1125899906842624) (ha : OwnL w x.rows) :
  Calls Tryz.prog 15 #[x.val, .int .i64 k0] w fun e w' => e = .returned (.int .i64 (k0 + x.size)) ∧ OwnL w' (x.marked k0).rows ∧ Kept (FootL x.rows) w w' := by
 have hlt := ha.lt
 have HLT := (show Hid (∀ b, FootL x.rows b → b < w.heap.size) from hlt)
 have HA := (show Hid (OwnL w x.rows) from ha)
 clear hlt
 obtain ⟨xcode, xlsn, ⟨xlog_sectors, xlog_epoch, xlog_stop, xlog_flushed, ⟨xlog_tail_e, xlog_tail_a, xlog_tail_c, xlog_tail_b⟩⟩⟩ := x
 have HO0_0 := (show Hid (OwnL w (StLog.rows ⟨xlog_sectors, xlog_epoch, xlog_stop, xlog_flushed, ⟨xlog_tail_e, xlog_tail_a, xlog_tail_c, xlog_tail_b⟩⟩)) from ha)
 clear ha
 simp only [StAppendResult.size] at h1
 have hz0 := StLog.size_le ⟨xlog_sectors, xlog_epoch, xlog_stop, xlog_flushed, ⟨xlog_tail_e, xlog_tail_a, xlog_tail_c, xlog_tail_b⟩⟩
 dsimp only [StAppendResult.val, StLog.val, BS.v]
 go_enter Tryz.func15, Tryz.ntmps15
 have HK_0 := (show Hid (Kept (FootL (StAppendResult.rows ⟨xcode, xlsn, ⟨xlog_sectors, xlog_epoch, xlog_stop, xlog_flushed, ⟨xlog_tail_e, xlog_tail_a, xlog_tail_c, xlog_tail_b⟩⟩⟩)) w (w.alloc (.cells #[.int .i64 xcode, .int .i64 xlsn, .int .i64 xlog_sectors, .int .i64 xlog_epoch, .int .i64 xlog_stop, .int .i64 xlog_flushed, .slice xlog_tail_a xlog_tail_b.length xlog_tail_c] 35))) from (Kept.refl _ _).alloc _)
 have HB_0 := hid (Blk.newL w [.int .i64 xcode, .int .i64 xlsn, .int .i64 xlog_sectors, .int .i64 xlog_epoch, .int .i64 xlog_stop, .int .i64 xlog_flushed, .slice xlog_tail_a xlog_tail_b.length xlog_tail_c] 35)
 go_wp2_with fail
 refine (markLog_own ⟨xlog_sectors, xlog_epoch, xlog_stop, xlog_flushed, ⟨xlog_tail_e, xlog_tail_a, xlog_tail_c, xlog_tail_b⟩⟩ (k0) _ (by omega) (by omega) (HO0_0.out.same ((Kept.refl _ _).alloc _))).mono ?_
 rintro e w1 ⟨rfl, ho, hk⟩
 have HB_1 := (show Hid (Blk w1 w.heap.size 35 [.int .i64 xcode, .int .i64 xlsn, .int .i64 xlog_sectors, .int .i64 xlog_epoch, .int .i64 xlog_stop, .int .i64 xlog_flushed, .slice xlog_tail_a xlog_tail_b.length xlog_tail_c]) from HB_0.out.kept hk (fun e => by have := HLT.out _ (e); omega))
 have HK_1 := (show Hid (Kept (FootL (StAppendResult.rows ⟨xcode, xlsn, ⟨xlog_sectors, xlog_epoch, xlog_stop, xlog_flushed, ⟨xlog_tail_e, xlog_tail_a, xlog_tail_c, xlog_tail_b⟩⟩⟩)) w w1) from HK_0.out.next hk (fun b _ e => e))
 have HO0_1 := (show Hid (OwnL w1 (StLog.marked ⟨xlog_sectors, xlog_epoch, xlog_stop, xlog_flushed, ⟨xlog_tail_e, xlog_tail_a, xlog_tail_c, xlog_tail_b⟩⟩ (k0)).rows) from ho)
 clear ho hk HB_0 HK_0 HO0_0
 have hsz0 : StLog.size ⟨xlog_sectors, xlog_epoch, xlog_stop, xlog_flushed, ⟨xlog_tail_e, xlog_tail_a, xlog_tail_c, xlog_tail_b⟩⟩ = StLog.size ⟨xlog_sectors, xlog_epoch, xlog_stop, xlog_flushed, ⟨xlog_tail_e, xlog_tail_a, xlog_tail_c, xlog_tail_b⟩⟩ := rfl
 go_wp2
 go_ret
 refine ⟨rfl, ?_, HK_1.out⟩
 exact HO0_1.out
theorem heldAppendResult_own (x : StAppendResult) (k0 : Int) (w : World) (h0 : 0 ≤ k0) (h1 : k0 + x.size ≤ 1125899906842624) (ha : OwnL w (x.marked k0).rows) :
  Calls Tryz.prog 16 #[x.val, .int .i64 k0] w fun e w' => e = .returned (.int .i64 (k0 + x.size)) ∧ Same w w' := by
 obtain ⟨xcode, xlsn, ⟨xlog_sectors, xlog_epoch, xlog_stop, xlog_flushed, ⟨xlog_tail_e, xlog_tail_a, xlog_tail_c, xlog_tail_b⟩⟩⟩ := x
 have HO0 := (show Hid (OwnL w (StLog.marked ⟨xlog_sectors, xlog_epoch, xlog_stop, xlog_flushed, ⟨xlog_tail_e, xlog_tail_a, xlog_tail_c, xlog_tail_b⟩⟩ (k0)).rows) from ha)
 clear ha
 simp only [StAppendResult.size] at h1
 have hz0 := StLog.size_le ⟨xlog_sectors, xlog_epoch, xlog_stop, xlog_flushed, ⟨xlog_tail_e, xlog_tail_a, xlog_tail_c, xlog_tail_b⟩⟩
 dsimp only [StAppendResult.val, StLog.val, BS.v]
 go_enter Tryz.func16, Tryz.ntmps16
 obtain ⟨HK0, HB0⟩ := new1 w [.int .i64 xcode, .int .i64 xlsn, .int .i64 xlog_sectors, .int .i64 xlog_epoch, .int .i64 xlog_stop, .int .i64 xlog_flushed, .slice xlog_tail_a xlog_tail_b.length xlog_tail_c] 35
 have hneg0 : ¬ (k0 + (StLog.size ⟨xlog_sectors, xlog_epoch, xlog_stop, xlog_flushed, ⟨xlog_tail_e, xlog_tail_a, xlog_tail_c, xlog_tail_b⟩⟩)) < 0 := by omega
 go_wp2_with fail
 refine (heldLog_own ⟨xlog_sectors, xlog_epoch, xlog_stop, xlog_flushed, ⟨xlog_tail_e, xlog_tail_a, xlog_tail_c, xlog_tail_b⟩⟩ (k0) _ (by omega) (by omega) (HO0.out.same HK0.out)).mono ?_
 rintro e w1 ⟨rfl, hk⟩
 have HK1 := hid (HK0.out.trans hk)
 have HB1 := hid (HB0.out.same hk)
 clear hk
 go_wp2
 go_ret
 exact ⟨rfl, HK1.out⟩
abbrev RecT : Type := Int × Int × Int × Int × Int × (Bool × List Int) × (Bool × List Int) × Int × Int × List Int × List Int × List Int
abbrev LogT : Type := Int × Int × Int × Int × List Int
def appOK (dl : LogT) (dr : RecT) : Prop := logFd dl = 0 ∧ recFd dr = 0 ∧ dl.2.2.1 + fsFd dr ≤ 1099511627776
def appOKDec (dl : LogT) (dr : RecT) : Decidable (appOK dl dr) := by unfold appOK; infer_instance
def appD (dl : LogT) (dr : RecT) : Int × Int × LogT :=
 @ite _ (appOK dl dr) (appOKDec dl dr) (0, dl.2.2.1, (dl.1, dl.2.1, dl.2.2.1 + fsFd dr, dl.2.2.2.1, dl.2.2.2.2 ++ frFd dl.2.2.1 dl.2.1 dr)) (1, 0, (0, 0, 0, 0, []))
theorem appD_yes {dl : LogT} {dr : RecT} (h : appOK dl dr) : appD dl dr = (0, dl.2.2.1, (dl.1, dl.2.1, dl.2.2.1 + fsFd dr, dl.2.2.2.1, dl.2.2.2.2 ++ frFd dl.2.2.1 dl.2.1 dr)) := if_pos h
theorem appD_no {dl : LogT} {dr : RecT} (h : ¬ appOK dl dr) : appD dl dr = (1, 0, (0, 0, 0, 0, [])) := if_neg h
theorem numB_len {x : Int} {n : Nat} (hn : 1 ≤ n ∧ n ≤ 8) (h0 : 0 ≤ x) (h1 : x < 256 ^ n) : (numB x n).length = n := by rw [numB_lows hn h0 h1, lows_length]
theorem frFd_len {lsn ep : Int} {d : RecT} (hB : IsB (recBd d)) (h : recFd d = 0) (hl : 1 ≤ lsn ∧ lsn ≤ 1099511627776) (he : 1 ≤ ep ∧ ep ≤ 4294967295) : ((frFd lsn ep d).length : Int) = fsFd d := by
 rw [frFd_yes ⟨h, hl, he⟩, fsFd_good h]
 obtain ⟨ha, hb⟩ := recBd_length h
 have hs : (sumB lsn ep (recBd d)).length = 12 + (recBd d).length := by
  have h1 : (numB lsn 8).length = 8 := numB_len (n := 8) (by omega) (by omega) (by omega)
  have h2 : (numB ep 4).length = 4 := numB_len (n := 4) (by omega) (by omega) (by omega)
  simp only [sumB, List.length_append, h1, h2]
 have hc := crcOn_le 0 (sumB lsn ep (recBd d)) (by omega) (by omega) (sumB_isB hB)
 have h3 : (numB (20 + ((recBd d).length : Int)) 4).length = 4 := numB_len (n := 4) (by omega) (by omega) (by omega)
 have h4 : (numB (crcOn 0 (sumB lsn ep (recBd d))) 4).length = 4 := numB_len (n := 4) (by omega) (by omega) (by omega)
 simp only [frB, List.length_append, h3, h4, hs]
 omega
theorem zeroApp_own (w : World) (k : Int) : OwnL w (StAppendResult.rows ⟨k, 0, ⟨0, 0, 0, 0, ⟨0, none, 0, []⟩⟩⟩) := OwnL.one (Own.nil 0 0 .u8 w)
theorem zeroApp_foot (k : Int) (b : Nat) : ¬ FootL (StAppendResult.rows ⟨k, 0, ⟨0, 0, 0, 0, ⟨0, none, 0, []⟩⟩⟩) b := fun h => by have := (footL_ints _ _ _ _ _).1 h; simp [BS.v, Value.ownBlock] at this
theorem Blk.all7' {w : World} {B : Nat} {e : TypeId} {v0 v1 v2 v3 v4 v5 v6 : Value} (h : Blk w B e [v0, v1, v2, v3, v4, v5, v6]) : w.cell? ⟨B, 0, none⟩ = some v0 ∧ w.cell? ⟨B, 1, none⟩ = some v1 ∧ w.cell? ⟨B, 2, none⟩ = some v2 ∧ w.cell? ⟨B, 3, none⟩ = some v3 ∧ w.cell? ⟨B, 4, none⟩ = some v4 ∧ w.cell? ⟨B, 5, none⟩ = some v5 ∧ w.cell? ⟨B, 6, none⟩ = some v6 := ⟨h.cell 0, h.cell 1, h.cell 2, h.cell 3, h.cell 4, h.cell 5, h.cell 6⟩
theorem Blk.newC (w : World) (xs : List Value) (e : TypeId) (ys : List Value) (e' : TypeId) (zs : List Value) (e'' : TypeId) : Blk (((w.alloc (.cells xs.toArray e)).alloc (.cells ys.toArray e')).alloc (.cells zs.toArray e'')) (w.heap.size + 1 + 1) e'' zs := by
 have h := Blk.newL ((w.alloc (.cells xs.toArray e)).alloc (.cells ys.toArray e')) zs e''
 rwa [World.size_alloc, World.size_alloc] at h
theorem specFrame_any (lsn ep : Int) (x : StLogRecord) (w : World) (hL : IsI lsn) (hE : IsI ep) (hB : x.isB) (hn : x.szs ≤ 1073741824) (hv : StLogRecord.rd w x) : Calls Tryz.prog 25 #[.int .i64 lsn, .int .i64 ep, x.val] w fun e w' => ∃ a c, e = .returned (.slice a (frFd lsn ep x.dat).length c) ∧ (∀ b, (Value.slice a (frFd lsn ep x.dat).length c).ownBlock = some b → w.heap.size ≤ b) ∧ Own 0 5 .u8 w' (.slice a (frFd lsn ep x.dat).length c) (frFd lsn ep x.dat) ∧ Same w w' := by
 have HF := (show Hid (∀ wx, Same w wx → Calls Tryz.prog 22 #[x.val] wx fun e w' => e = .returned (.int .i64 (recFd x.dat)) ∧ Same wx w') from fun wx (h : Same w wx) => specRec_any x wx hB hn (StLogRecord.rd.same hv h))
 have HE := hid (fun wx (h : Same w wx) => specEnc_any x wx hB hn (StLogRecord.rd.same hv h))
 have HS := hid (fun wx (h : Same w wx) => specFs_any x wx hB hn (StLogRecord.rd.same hv h))
 by_cases hy : recFd x.dat = 0 ∧ (1 ≤ lsn ∧ lsn ≤ 1099511627776) ∧ (1 ≤ ep ∧ ep ≤ 4294967295)
 ·have hRl := recBd_length hy.1
  have hRB := recBd_isB hB hy.1
  rw [frFd_yes hy]
  rw [hy.1] at HF
  rw [encFd_good hy.1] at HE
  rw [fsFd_good hy.1] at HS
  have hy2 := hy.2
  clear hy hB hn hv
  generalize recBd x.dat = R at *
  obtain ⟨kind, txn, prev, page, slot, ⟨bU, ⟨bDe, bDa, bDc, bDb⟩⟩, ⟨aU, ⟨aDe, aDa, aDc, aDb⟩⟩, uN, nT, ⟨tXe, tXa, tXn, tXc, tXb⟩, ⟨dYe, dYa, dYn, dYc, dYb⟩, ⟨iMe, iMa, iMc, iMb⟩⟩ := x
  dsimp only [StLogRecord.val, StPageRecord.val, BS.v, FR.v] at HF HE HS ⊢
  obtain ⟨⟨hl1, hl2⟩, he1, he2⟩ := hy2
  have HI1 := (show Hid (∀ wx, Calls Tryz.prog 42 #[.int .i64 lsn, .int .i64 1, .int .i64 1099511627776] wx fun e w' => e = .returned (.bool true) ∧ Same wx w') from fun wx => by have h := l4In_any lsn 1 1099511627776 wx; rwa [show inB lsn 1 1099511627776 = true by simp [inB]; omega] at h)
  have HI2 := (show Hid (∀ wx, Calls Tryz.prog 42 #[.int .i64 ep, .int .i64 1, .int .i64 4294967295] wx fun e w' => e = .returned (.bool true) ∧ Same wx w') from fun wx => by have h := l4In_any ep 1 4294967295 wx; rwa [show inB ep 1 4294967295 = true by simp [inB]; omega] at h)
  obtain ⟨HK0, HB0⟩ := new1 w [.int .i64 kind, .int .i64 txn, .int .i64 prev, .int .i64 page, .int .i64 slot, .bool bU, .slice bDa bDb.length bDc, .bool aU, .slice aDa aDb.length aDc, .int .i64 uN, .int .i64 nT, .slice tXa tXn tXc, .slice dYa dYn dYc, .slice iMa iMb.length iMc] 42
  have b0 := HB0.out
  have hzb := b0.lt
  have HSB := hid (sumB_isB (lsn := lsn) (ep := ep) hRB)
  have hsl := sumB_length lsn ep R
  have hcr := crcOn_le 0 (sumB lsn ep R) (by omega) (by omega) HSB.out
  go_enter Tryz.func25, Tryz.ntmps25
  go_wp2_with fail
  refine (HF.out _ HK0.out).mono ?_
  rintro e w1 ⟨rfl, hk⟩
  have HK1 := hid (HK0.out.trans hk)
  have b1 := b0.same hk
  clear hk
  go_wp2_with fail
  refine (HI1.out _).mono ?_
  rintro e w2 ⟨rfl, hk⟩
  have HK2 := hid (HK1.out.trans hk)
  have b2 := b1.same hk
  clear hk
  go_wp2_with fail
  refine (HI2.out _).mono ?_
  rintro e w3 ⟨rfl, hk⟩
  have HK3 := hid (HK2.out.trans hk)
  have b3 := b2.same hk
  clear hk
  go_wp2_with fail
  have hS : ((fun wx : World => wx.cell? ⟨w.heap.size, 0, none⟩ = some (.int .i64 kind) ∧ wx.cell? ⟨w.heap.size, 1, none⟩ = some (.int .i64 txn) ∧ wx.cell? ⟨w.heap.size, 2, none⟩ = some (.int .i64 prev) ∧ wx.cell? ⟨w.heap.size, 3, none⟩ = some (.int .i64 page) ∧ wx.cell? ⟨w.heap.size, 4, none⟩ = some (.int .i64 slot) ∧ wx.cell? ⟨w.heap.size, 5, none⟩ = some (.bool bU) ∧ wx.cell? ⟨w.heap.size, 6, none⟩ = some (.slice bDa bDb.length bDc) ∧ wx.cell? ⟨w.heap.size, 7, none⟩ = some (.bool aU) ∧ wx.cell? ⟨w.heap.size, 8, none⟩ = some (.slice aDa aDb.length aDc) ∧ wx.cell? ⟨w.heap.size, 9, none⟩ = some (.int .i64 uN) ∧ wx.cell? ⟨w.heap.size, 10, none⟩ = some (.int .i64 nT) ∧ wx.cell? ⟨w.heap.size, 11, none⟩ = some (.slice tXa tXn tXc) ∧ wx.cell? ⟨w.heap.size, 12, none⟩ = some (.slice dYa dYn dYc) ∧ wx.cell? ⟨w.heap.size, 13, none⟩ = some (.slice iMa iMb.length iMc))) w3.drew := by exact ⟨b3.cell 0, b3.cell 1, b3.cell 2, b3.cell 3, b3.cell 4, b3.cell 5, b3.cell 6, b3.cell 7, b3.cell 8, b3.cell 9, b3.cell 10, b3.cell 11, b3.cell 12, b3.cell 13⟩
  refine wp_region_V ((fun wx : World => wx.cell? ⟨w.heap.size, 0, none⟩ = some (.int .i64 kind) ∧ wx.cell? ⟨w.heap.size, 1, none⟩ = some (.int .i64 txn) ∧ wx.cell? ⟨w.heap.size, 2, none⟩ = some (.int .i64 prev) ∧ wx.cell? ⟨w.heap.size, 3, none⟩ = some (.int .i64 page) ∧ wx.cell? ⟨w.heap.size, 4, none⟩ = some (.int .i64 slot) ∧ wx.cell? ⟨w.heap.size, 5, none⟩ = some (.bool bU) ∧ wx.cell? ⟨w.heap.size, 6, none⟩ = some (.slice bDa bDb.length bDc) ∧ wx.cell? ⟨w.heap.size, 7, none⟩ = some (.bool aU) ∧ wx.cell? ⟨w.heap.size, 8, none⟩ = some (.slice aDa aDb.length aDc) ∧ wx.cell? ⟨w.heap.size, 9, none⟩ = some (.int .i64 uN) ∧ wx.cell? ⟨w.heap.size, 10, none⟩ = some (.int .i64 nT) ∧ wx.cell? ⟨w.heap.size, 11, none⟩ = some (.slice tXa tXn tXc) ∧ wx.cell? ⟨w.heap.size, 12, none⟩ = some (.slice dYa dYn dYc) ∧ wx.cell? ⟨w.heap.size, 13, none⟩ = some (.slice iMa iMb.length iMc))) 99 8 rfl (by kernel_rfl) ?_
  refine tk 0 22 hS ?_
  refine tk 2 24 hS ?_
  refine tk 4 26 hS ?_
  refine wpAnyV_one (i := 1) (by kernel_rfl) rfl (fun K hK => ?_)
  go_simp
  refine (specPut_any lsn 8 _ (by unfold IsI; omega) (by unfold IsI; omega)).mono ?_
  rintro e w4 ⟨a4, c4, rfl, hf, ho, hk⟩
  have HK4 := hid (HK3.out.drew.trans hk)
  have HF4 := (show Hid (∀ b, (Value.slice a4 (numB lsn 8).length c4).ownBlock = some b → w.heap.size ≤ b) from fun b hb => Nat.le_trans HK3.out.drew.size (hf b hb))
  have HF4b := (show Hid (∀ b, (Value.slice a4 (numB lsn 8).length c4).ownBlock = some b → w.heap.size + 1 ≤ b) from fun b hb => Nat.le_trans (by have := b3.lt; simp only [World.size_drew]; omega) (hf b hb))
  have HO4 := (show Hid (Own 0 5 .u8 w4 (Value.slice a4 (numB lsn 8).length c4) (numB lsn 8)) from ho)
  have b4 := b3.drew.same hk
  clear hf ho hk
  have hS : ((fun wx : World => wx.cell? ⟨w.heap.size, 0, none⟩ = some (.int .i64 kind) ∧ wx.cell? ⟨w.heap.size, 1, none⟩ = some (.int .i64 txn) ∧ wx.cell? ⟨w.heap.size, 2, none⟩ = some (.int .i64 prev) ∧ wx.cell? ⟨w.heap.size, 3, none⟩ = some (.int .i64 page) ∧ wx.cell? ⟨w.heap.size, 4, none⟩ = some (.int .i64 slot) ∧ wx.cell? ⟨w.heap.size, 5, none⟩ = some (.bool bU) ∧ wx.cell? ⟨w.heap.size, 6, none⟩ = some (.slice bDa bDb.length bDc) ∧ wx.cell? ⟨w.heap.size, 7, none⟩ = some (.bool aU) ∧ wx.cell? ⟨w.heap.size, 8, none⟩ = some (.slice aDa aDb.length aDc) ∧ wx.cell? ⟨w.heap.size, 9, none⟩ = some (.int .i64 uN) ∧ wx.cell? ⟨w.heap.size, 10, none⟩ = some (.int .i64 nT) ∧ wx.cell? ⟨w.heap.size, 11, none⟩ = some (.slice tXa tXn tXc) ∧ wx.cell? ⟨w.heap.size, 12, none⟩ = some (.slice dYa dYn dYc) ∧ wx.cell? ⟨w.heap.size, 13, none⟩ = some (.slice iMa iMb.length iMc))) w4 := by exact ⟨b4.cell 0, b4.cell 1, b4.cell 2, b4.cell 3, b4.cell 4, b4.cell 5, b4.cell 6, b4.cell 7, b4.cell 8, b4.cell 9, b4.cell 10, b4.cell 11, b4.cell 12, b4.cell 13⟩
  refine hK.out _ _ (fun _ => hS) ?_
  clear hK K
  try simp only [Act.put, sA, s0, sS]
  refine wpAnyV_one (i := 3) (by kernel_rfl) rfl (fun K hK => ?_)
  go_simp
  refine (l4Put_own _ (numB lsn 8) ep 4 _ (by unfold IsI; omega) (by unfold IsI; omega) (by have := numB_length lsn 8; omega) HO4.out).mono ?_
  rintro e w5 ⟨a5, n5, c5, rfl, hown, hg⟩
  have HK5 := hid (hg.same HK4.out HF4.out)
  have HF5 := hid (hg.fresh HK4.out HF4.out)
  have HO5 := (show Hid (Own 0 5 .u8 w5 (Value.slice a5 n5 c5) (numB lsn 8 ++ numB ep 4)) from hown)
  have b5 := b4.kept hg.kept (fun e => by have := HF4.out _ e; have := hzb; exact absurd (HF4b.out _ e) (by omega))
  have HF5b := (show Hid (∀ b, (Value.slice a5 n5 c5).ownBlock = some b → w.heap.size + 1 ≤ b) from fun b hb => (hg.own b hb).elim (fun h => by have := HF4b.out b h; omega) (fun h => by have := b4.lt; omega))
  clear hown hg
  have hS : ((fun wx : World => wx.cell? ⟨w.heap.size, 0, none⟩ = some (.int .i64 kind) ∧ wx.cell? ⟨w.heap.size, 1, none⟩ = some (.int .i64 txn) ∧ wx.cell? ⟨w.heap.size, 2, none⟩ = some (.int .i64 prev) ∧ wx.cell? ⟨w.heap.size, 3, none⟩ = some (.int .i64 page) ∧ wx.cell? ⟨w.heap.size, 4, none⟩ = some (.int .i64 slot) ∧ wx.cell? ⟨w.heap.size, 5, none⟩ = some (.bool bU) ∧ wx.cell? ⟨w.heap.size, 6, none⟩ = some (.slice bDa bDb.length bDc) ∧ wx.cell? ⟨w.heap.size, 7, none⟩ = some (.bool aU) ∧ wx.cell? ⟨w.heap.size, 8, none⟩ = some (.slice aDa aDb.length aDc) ∧ wx.cell? ⟨w.heap.size, 9, none⟩ = some (.int .i64 uN) ∧ wx.cell? ⟨w.heap.size, 10, none⟩ = some (.int .i64 nT) ∧ wx.cell? ⟨w.heap.size, 11, none⟩ = some (.slice tXa tXn tXc) ∧ wx.cell? ⟨w.heap.size, 12, none⟩ = some (.slice dYa dYn dYc) ∧ wx.cell? ⟨w.heap.size, 13, none⟩ = some (.slice iMa iMb.length iMc))) w5 := by exact ⟨b5.cell 0, b5.cell 1, b5.cell 2, b5.cell 3, b5.cell 4, b5.cell 5, b5.cell 6, b5.cell 7, b5.cell 8, b5.cell 9, b5.cell 10, b5.cell 11, b5.cell 12, b5.cell 13⟩
  refine hK.out _ _ (fun _ => hS) ?_
  clear hK K
  try simp only [Act.put, sA, s0, sS]
  refine wpAnyV_one (i := 5) (by kernel_rfl) rfl (fun K hK => ?_)
  go_simp
  refine (HE.out _ HK5.out).mono ?_
  rintro e w6 ⟨a6, c6, rfl, hf, ho, hk⟩
  have HR6 := (show Hid (Rd .u8 w6 (.slice a6 R.length c6) R) from ho.rd)
  have HK6 := hid (HK5.out.trans hk)
  have HO6 := hid (HO5.out.same hk)
  have b6 := b5.same hk
  clear hf ho hk
  have hS : ((fun wx : World => wx.cell? ⟨w.heap.size, 0, none⟩ = some (.int .i64 kind) ∧ wx.cell? ⟨w.heap.size, 1, none⟩ = some (.int .i64 txn) ∧ wx.cell? ⟨w.heap.size, 2, none⟩ = some (.int .i64 prev) ∧ wx.cell? ⟨w.heap.size, 3, none⟩ = some (.int .i64 page) ∧ wx.cell? ⟨w.heap.size, 4, none⟩ = some (.int .i64 slot) ∧ wx.cell? ⟨w.heap.size, 5, none⟩ = some (.bool bU) ∧ wx.cell? ⟨w.heap.size, 6, none⟩ = some (.slice bDa bDb.length bDc) ∧ wx.cell? ⟨w.heap.size, 7, none⟩ = some (.bool aU) ∧ wx.cell? ⟨w.heap.size, 8, none⟩ = some (.slice aDa aDb.length aDc) ∧ wx.cell? ⟨w.heap.size, 9, none⟩ = some (.int .i64 uN) ∧ wx.cell? ⟨w.heap.size, 10, none⟩ = some (.int .i64 nT) ∧ wx.cell? ⟨w.heap.size, 11, none⟩ = some (.slice tXa tXn tXc) ∧ wx.cell? ⟨w.heap.size, 12, none⟩ = some (.slice dYa dYn dYc) ∧ wx.cell? ⟨w.heap.size, 13, none⟩ = some (.slice iMa iMb.length iMc))) w6 := by exact ⟨b6.cell 0, b6.cell 1, b6.cell 2, b6.cell 3, b6.cell 4, b6.cell 5, b6.cell 6, b6.cell 7, b6.cell 8, b6.cell 9, b6.cell 10, b6.cell 11, b6.cell 12, b6.cell 13⟩
  refine hK.out _ _ (fun _ => hS) ?_
  clear hK K
  try simp only [Act.put, sA, s0, sS]
  refine wpAnyV_one (i := 6) (by kernel_rfl) rfl (fun K hK => ?_)
  refine step_app (by rfl) (.tmp 25) (.tmp 27) (by rfl) (.slice a5 n5 c5) (.slice a6 R.length c6) (numB lsn 8 ++ numB ep 4) R (by rfl) (by rfl) HO6.out HR6.out (by have := numB_length lsn 8; have := numB_length ep 4; rw [List.length_append]; omega) ?_
  intro a7 n7 c7 w7 hown hg
  have HO7 := (show Hid (Own 0 5 .u8 w7 (Value.slice a7 n7 c7) (sumB lsn ep R)) from hown)
  have HK7 := hid (hg.same HK6.out HF5.out)
  have HF7 := hid (hg.fresh HK6.out HF5.out)
  have b7 := b6.kept hg.kept (fun e => by have := HF5b.out _ e; omega)
  clear hown hg
  have hS : ((fun wx : World => wx.cell? ⟨w.heap.size, 0, none⟩ = some (.int .i64 kind) ∧ wx.cell? ⟨w.heap.size, 1, none⟩ = some (.int .i64 txn) ∧ wx.cell? ⟨w.heap.size, 2, none⟩ = some (.int .i64 prev) ∧ wx.cell? ⟨w.heap.size, 3, none⟩ = some (.int .i64 page) ∧ wx.cell? ⟨w.heap.size, 4, none⟩ = some (.int .i64 slot) ∧ wx.cell? ⟨w.heap.size, 5, none⟩ = some (.bool bU) ∧ wx.cell? ⟨w.heap.size, 6, none⟩ = some (.slice bDa bDb.length bDc) ∧ wx.cell? ⟨w.heap.size, 7, none⟩ = some (.bool aU) ∧ wx.cell? ⟨w.heap.size, 8, none⟩ = some (.slice aDa aDb.length aDc) ∧ wx.cell? ⟨w.heap.size, 9, none⟩ = some (.int .i64 uN) ∧ wx.cell? ⟨w.heap.size, 10, none⟩ = some (.int .i64 nT) ∧ wx.cell? ⟨w.heap.size, 11, none⟩ = some (.slice tXa tXn tXc) ∧ wx.cell? ⟨w.heap.size, 12, none⟩ = some (.slice dYa dYn dYc) ∧ wx.cell? ⟨w.heap.size, 13, none⟩ = some (.slice iMa iMb.length iMc))) w7 := by exact ⟨b7.cell 0, b7.cell 1, b7.cell 2, b7.cell 3, b7.cell 4, b7.cell 5, b7.cell 6, b7.cell 7, b7.cell 8, b7.cell 9, b7.cell 10, b7.cell 11, b7.cell 12, b7.cell 13⟩
  refine hK.out _ _ (fun _ => hS) ?_
  clear hK K
  try simp only [Act.put, sA, s0, sS]
  refine tk 7 7 hS ?_
  refine wpAnyV_done (by kernel_rfl) ?_
  obtain ⟨d7_0, d7_1, d7_2, d7_3, d7_4, d7_5, d7_6, d7_7, d7_8, d7_9, d7_10, d7_11, d7_12, d7_13⟩ := b7.all14
  go_wp2_with fail
  refine (HS.out _ HK7.out).mono ?_
  rintro e w8 ⟨rfl, hk⟩
  have HK8 := hid (HK7.out.trans hk)
  have HO8 := hid (HO7.out.same hk)
  clear hk
  go_wp2_with fail
  refine (specPut_any (20 + (R.length : Int)) 4 _ (by unfold IsI; omega) (by unfold IsI; omega)).mono ?_
  rintro e w9 ⟨a9, c9, rfl, hf, ho, hk⟩
  have HK9 := hid (HK8.out.trans hk)
  have HF9 := (show Hid (∀ b, (Value.slice a9 (numB (20 + (R.length : Int)) 4).length c9).ownBlock = some b → w.heap.size ≤ b) from fun b hb => Nat.le_trans HK8.out.size (hf b hb))
  have HO9 := (show Hid (Own 0 5 .u8 w9 (Value.slice a9 (numB (20 + (R.length : Int)) 4).length c9) (numB (20 + (R.length : Int)) 4)) from ho)
  have HP9 := hid (HO8.out.same hk)
  have HD9 := (show Hid (∀ b, (Value.slice a9 (numB (20 + (R.length : Int)) 4).length c9).ownBlock = some b → ¬ (Value.slice a7 n7 c7).ownBlock = some b) from fun b h1 h2 => by have := hf b h1; have := (HO8.out.lt b h2).2; omega)
  clear hf ho hk
  go_wp2_with fail
  refine (specCrc_any _ (sumB lsn ep R) _ HSB.out (by omega) HP9.out.rd).mono ?_
  rintro e w10 ⟨rfl, hk⟩
  have HK10 := hid (HK9.out.trans hk)
  have HO10 := hid (HO9.out.same hk)
  have HP10 := hid (HP9.out.same hk)
  clear hk
  go_wp2_with fail
  refine (l4Put_own _ (numB (20 + (R.length : Int)) 4) (crcOn 0 (sumB lsn ep R)) 4 _ (by unfold IsI; omega) (by unfold IsI; omega) (by have := numB_length (20 + (R.length : Int)) 4; omega) HO10.out).mono ?_
  rintro e w11 ⟨a11, n11, c11, rfl, hown, hg⟩
  have HK11 := hid (hg.same HK10.out HF9.out)
  have HF11 := hid (hg.fresh HK10.out HF9.out)
  have HO11 := (show Hid (Own 0 5 .u8 w11 (Value.slice a11 n11 c11) (numB (20 + (R.length : Int)) 4 ++ numB (crcOn 0 (sumB lsn ep R)) 4)) from hown)
  have HP11 := (show Hid (Own 0 5 .u8 w11 (Value.slice a7 n7 c7) (sumB lsn ep R)) from HP10.out.kept hg.kept (fun b h1 h2 => HD9.out b h2 h1))
  clear hown hg
  have hl11 : (numB (20 + (R.length : Int)) 4 ++ numB (crcOn 0 (sumB lsn ep R)) 4).length ≤ 16 := by have := numB_length (20 + (R.length : Int)) 4; have := numB_length (crcOn 0 (sumB lsn ep R)) 4; rw [List.length_append]; omega
  go_wp2_with (at_builtin; go_loud (refine wpList_app rfl (.tmp 34) (.tmp 35) rfl (.slice a11 n11 c11) (.slice a7 n7 c7) _ (sumB lsn ep R) rfl rfl HO11.out HP11.out.rd (by omega) ?_); intro a12 n12 c12 w12 hown hg; have HO12 := (show Hid (Own 0 5 .u8 w12 (Value.slice a12 n12 c12) (frB lsn ep R)) from hown); have HK12 := hid (hg.same HK11.out HF11.out); have HF12 := hid (hg.fresh HK11.out HF11.out); clear hown hg)
  go_ret
  obtain rfl := HO12.out.sized
  exact ⟨_, _, rfl, HF12.out, HO12.out, HK12.out⟩
 ·rw [frFd_no hy]
  have hor : recFd x.dat ≠ 0 ∨ (recFd x.dat = 0 ∧ ¬ (1 ≤ lsn ∧ lsn ≤ 1099511627776)) ∨ (recFd x.dat = 0 ∧ (1 ≤ lsn ∧ lsn ≤ 1099511627776) ∧ ¬ (1 ≤ ep ∧ ep ≤ 4294967295)) := by by_cases h : recFd x.dat = 0; by_cases h2 : (1 ≤ lsn ∧ lsn ≤ 1099511627776); exact .inr (.inr ⟨h, h2, fun h3 => hy ⟨h, h2, h3⟩⟩); exact .inr (.inl ⟨h, h2⟩); exact .inl h
  clear hy hB hn hv HE HS
  generalize recFd x.dat = r at *
  obtain ⟨kind, txn, prev, page, slot, ⟨bU, ⟨bDe, bDa, bDc, bDb⟩⟩, ⟨aU, ⟨aDe, aDa, aDc, aDb⟩⟩, uN, nT, ⟨tXe, tXa, tXn, tXc, tXb⟩, ⟨dYe, dYa, dYn, dYc, dYb⟩, ⟨iMe, iMa, iMc, iMb⟩⟩ := x
  dsimp only [StLogRecord.val, StPageRecord.val, BS.v, FR.v] at HF ⊢
  have HK0 := hid (sameA w [.int .i64 kind, .int .i64 txn, .int .i64 prev, .int .i64 page, .int .i64 slot, .bool bU, .slice bDa bDb.length bDc, .bool aU, .slice aDa aDb.length aDc, .int .i64 uN, .int .i64 nT, .slice tXa tXn tXc, .slice dYa dYn dYc, .slice iMa iMb.length iMc] 42)
  have HI1 := hid (fun wx => l4In_any lsn 1 1099511627776 wx)
  have HI2 := hid (fun wx => l4In_any ep 1 4294967295 wx)
  rcases hor with hr | ⟨rfl, hc⟩ | ⟨rfl, hc, hc2⟩
  ·go_enter Tryz.func25, Tryz.ntmps25
   go_wp2_with fail
   refine (HF.out _ HK0.out).mono ?_
   rintro e wz ⟨rfl, hk⟩
   have HKz := hid (HK0.out.trans hk)
   clear hk
   go_wp2
   go_ret
   exact ⟨_, _, rfl, fun b hb => (by have := HKz.out.size; have hb : wz.heap.size = b := (by simpa [Value.ownBlock] using hb); omega), Own.empty _ _, HKz.out.alloc _⟩
  ·go_enter Tryz.func25, Tryz.ntmps25
   go_wp2_with fail
   refine (HF.out _ HK0.out).mono ?_
   rintro e w1 ⟨rfl, hk⟩
   have HK1 := hid (HK0.out.trans hk)
   clear hk
   rw [show inB lsn 1 1099511627776 = false by simp [inB]; omega] at HI1
   go_wp2_with fail
   refine (HI1.out _).mono ?_
   rintro e wz ⟨rfl, hk⟩
   have HKz := hid (HK1.out.trans hk)
   clear hk
   go_wp2
   go_ret
   exact ⟨_, _, rfl, fun b hb => (by have := HKz.out.size; have hb : wz.heap.size = b := (by simpa [Value.ownBlock] using hb); omega), Own.empty _ _, HKz.out.alloc _⟩
  ·go_enter Tryz.func25, Tryz.ntmps25
   go_wp2_with fail
   refine (HF.out _ HK0.out).mono ?_
   rintro e w1 ⟨rfl, hk⟩
   have HK1 := hid (HK0.out.trans hk)
   clear hk
   rw [show inB lsn 1 1099511627776 = true by simp [inB]; omega] at HI1
   go_wp2_with fail
   refine (HI1.out _).mono ?_
   rintro e w2 ⟨rfl, hk⟩
   have HK2 := hid (HK1.out.trans hk)
   clear hk
   rw [show inB ep 1 4294967295 = false by simp [inB]; omega] at HI2
   go_wp2_with fail
   refine (HI2.out _).mono ?_
   rintro e wz ⟨rfl, hk⟩
   have HKz := hid (HK2.out.trans hk)
   clear hk
   go_wp2
   go_ret
   exact ⟨_, _, rfl, fun b hb => (by have := HKz.out.size; have hb : wz.heap.size = b := (by simpa [Value.ownBlock] using hb); omega), Own.empty _ _, HKz.out.alloc _⟩
end Go.Proofs.YtkdohacgkjpopaaGreat
