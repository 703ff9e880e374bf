import Derived.Test.YtcldagphkpkdpaaG30
import Derived.Test.YtcldagphkpkdpaaG31
namespace Go.Proofs.Ytcldagphkpkdpaa
set_option maxRecDepth 100000
set_option maxHeartbeats 8000000
set_option linter.unusedVariables false
set_option linter.unusedSimpArgs false
open Go.RowKit
structure ApI (w wx : World) (L R Z : Nat) (lv rv : List Value) : Prop where
 logb : Blk wx L 74 lv
 rcb : Blk wx R 48 rv
 res : Blk wx Z 100 [.int .i64 0, .int .i64 0, .int .i64 0, .int .i64 0, .int .i64 0, .int .i64 0, .slice none 0 0]
 pl : w.heap.size ≤ L ∧ w.heap.size ≤ R ∧ w.heap.size ≤ Z ∧ L ≠ Z ∧ R ≠ Z
 kept : Same w wx
theorem ApI.same {w wx wy : World} {L R Z : Nat} {lv rv : List Value} (h : ApI w wx L R Z lv rv) (hk : Same wx wy) : ApI w wy L R Z lv rv := ⟨h.logb.same hk, h.rcb.same hk, h.res.same hk, h.pl, h.kept.trans hk⟩
theorem ApI.keep {F : Nat → Prop} {w wx wy : World} {L R Z : Nat} {lv rv : List Value} (h : ApI w wx L R Z lv rv) (hk : Kept F wx wy) (hL : ¬ F L) (hR : ¬ F R) (hZ : ¬ F Z) (hw : ∀ b, b < w.heap.size → ¬ F b) : ApI w wy L R Z lv rv :=
 ⟨h.logb.kept hk hL, h.rcb.kept hk hR, h.res.kept hk hZ, h.pl, h.kept.next hk (fun i hi e => absurd e (hw i hi))⟩
theorem l5Copy_any (s ep st fl : Int) (ta : Option Addr) (tc : Nat) (tb : List Int) (w : World) (hn : tb.length ≤ 1099511627776) (hv : Rd .u8 w (.slice ta tb.length tc) tb) : Calls Try.prog 68 #[.agg #[.int .i64 s, .int .i64 ep, .int .i64 st, .int .i64 fl, .slice ta tb.length tc]] w fun e w' => ∃ a n c, e = .returned (.agg #[.int .i64 s, .int .i64 ep, .int .i64 st, .int .i64 fl, .slice a n c]) ∧ (∀ b, (Value.slice a n c).ownBlock = some b → w.heap.size ≤ b) ∧ Own 0 5 .u8 w' (.slice a n c) tb ∧ Same w w' := by
 have b0 := (Blk.newL w [.int .i64 s, .int .i64 ep, .int .i64 st, .int .i64 fl, .slice ta tb.length tc] 74).same ((Kept.refl (fun _ => False) _).alloc (.cells #[.int .i64 0, .int .i64 0, .int .i64 0, .int .i64 0, .slice none 0 0] 74))
 have b1 := (Blk.newB w [.int .i64 s, .int .i64 ep, .int .i64 st, .int .i64 fl, .slice ta tb.length tc] 74 [.int .i64 0, .int .i64 0, .int .i64 0, .int .i64 0, .slice none 0 0] 74)
 have HK0 := (show Hid (∀ o o2, Same w ((w.alloc o).alloc o2)) from fun _ _ => ((Kept.refl _ _).alloc _).alloc _)
 go_enter Try.func68, Try.ntmps68
 go_wp2_with fail
 refine (l1Copy_any _ tb _ hn (hv.same (HK0.out _ _))).mono ?_
 rintro e w1 ⟨a, n, c, rfl, ho, hf, hk⟩
 simp only [World.size_alloc] at hf
 have b0 := b0.same hk
 have b1 := b1.same hk
 have hks : Kept (fun b => b = w.heap.size) w1 (w1.setCell ⟨w.heap.size, 4, none⟩ (.slice a n c)) := (Kept.refl (fun b => b = w.heap.size) w1).setCell (p := ⟨w.heap.size, 4, none⟩) (.inr rfl) _
 have HB2 := (show Hid (Blk (w1.setCell ⟨w.heap.size, 4, none⟩ (.slice a n c)) w.heap.size 74 [.int .i64 s, .int .i64 ep, .int .i64 st, .int .i64 fl, .slice a n c]) from b0.stored 4 _)
 have HZ2 := hid (b1.kept hks (fun e => by omega))
 have HO2 := hid (ho.kept hks (fun b hb e => by have := hf b hb; omega))
 have HF2 := hid hf
 have HK2 := (show Hid (Same w (w1.setCell ⟨w.heap.size, 4, none⟩ (.slice a n c))) from ((HK0.out _ _).trans hk).setCell (.inl (Nat.le_refl _)) _)
 obtain ⟨c0, c1, c2, c3, c4⟩ := b0.all5
 have fb := b0.frozen
 clear hks ho hf hk b1
 go_upto_region 2 with fail
 generalize w1.setCell ⟨w.heap.size, 4, none⟩ (.slice a n c) = w2 at HB2 HZ2 HO2 HK2 ⊢
 clear c0 c1 c2 c3 c4 fb b0
 obtain ⟨c0, c1, c2, c3, c4⟩ := HB2.out.all5
 obtain ⟨z0, z1, z2, z3, z4⟩ := HZ2.out.all5
 have fz := HZ2.out.frozen
 have HKZ := (show Hid (∀ v0 v1 v2 v3 v4, Kept (fun b => b = w.heap.size + 1) w2 (((((w2.setCell ⟨w.heap.size + 1, 0, none⟩ v0).setCell ⟨w.heap.size + 1, 1, none⟩ v1).setCell ⟨w.heap.size + 1, 2, none⟩ v2).setCell ⟨w.heap.size + 1, 3, none⟩ v3).setCell ⟨w.heap.size + 1, 4, none⟩ v4)) from fun _ _ _ _ _ => (((((Kept.refl (fun b => b = w.heap.size + 1) w2).setCell (.inr rfl) _).setCell (.inr rfl) _).setCell (.inr rfl) _).setCell (.inr rfl) _).setCell (.inr rfl) _)
 go_wp2_with fail
 exact bodyPost_ret (v := .agg #[.int .i64 s, .int .i64 ep, .int .i64 st, .int .i64 fl, .slice a n c]) (by simp [results, Try.results68, go_sem, z0, z1, z2, z3, z4]) rfl ⟨a, n, c, rfl, fun b hb => by have := HF2.out b hb; omega, HO2.out.kept (HKZ.out _ _ _ _ _) (fun b hb e => by have := HF2.out b hb; omega), HK2.out.next (HKZ.out _ _ _ _ _) (fun i hi e => by omega)⟩
theorem specApp_any (x : StLog) (r : StLogRecord) (w : World) (hBx : x.isB) (hnx : x.szs ≤ 1073741824) (hvx : StLog.rd w x) (hBr : r.isB) (hnr : r.szs ≤ 1073741824) (hvr : StLogRecord.rd w r) : Calls Try.prog 53 #[x.val, r.val] w fun e w' => (∃ y : StAppendResult, e = .returned y.val ∧ y.dat = appD x.dat r.dat ∧ (∀ b, FootL y.rows b → w.heap.size ≤ b) ∧ OwnL w' y.rows ∧ Same w w') := by
 have HF := (show Hid (∀ wx, Same w wx → Calls Try.prog 65 #[x.val] wx fun e w' => e = .returned (.int .i64 (logFd x.dat)) ∧ Same wx w') from fun wx hk => specLogFault_any x wx hBx hnx (StLog.rd.same hvx hk))
 have HG := (show Hid (∀ wx, Same w wx → Calls Try.prog 66 #[r.val] wx fun e w' => e = .returned (.int .i64 (recFd r.dat)) ∧ Same wx w') from fun wx hk => specRec_any r wx hBr hnr (StLogRecord.rd.same hvr hk))
 have HS := (show Hid (∀ wx, Same w wx → Calls Try.prog 67 #[r.val] wx fun e w' => e = .returned (.int .i64 (fsFd r.dat)) ∧ Same wx w') from fun wx hk => specFs_any r wx hBr hnr (StLogRecord.rd.same hvr hk))
 have HE := (show Hid (∀ lsn ep wx, IsI lsn → IsI ep → Same w wx → Calls Try.prog 69 #[.int .i64 lsn, .int .i64 ep, r.val] wx fun e w' => ∃ a c, e = .returned (.slice a (frFd lsn ep r.dat).length c) ∧ (∀ b, (Value.slice a (frFd lsn ep r.dat).length c).ownBlock = some b → wx.heap.size ≤ b) ∧ Own 0 5 .u8 w' (.slice a (frFd lsn ep r.dat).length c) (frFd lsn ep r.dat) ∧ Same wx w') from fun lsn ep wx h1 h2 hk => specFrame_any lsn ep r wx h1 h2 hBr hnr (StLogRecord.rd.same hvr hk))
 have HFB := (show Hid (0 ≤ fsFd r.dat ∧ fsFd r.dat ≤ 6000) from by
  by_cases h : recFd r.dat = 0
  ·have hl := recBd_length h
   unfold Hid; rw [fsFd_good h]; omega
  ·unfold Hid; rw [fsFd_bad h]; omega)
 have HLEN := (show Hid (∀ lsn ep, recFd r.dat = 0 → 1 ≤ lsn ∧ lsn ≤ 1099511627776 → 1 ≤ ep ∧ ep ≤ 4294967295 → ((frFd lsn ep r.dat).length : Int) = fsFd r.dat) from fun lsn ep h h1 h2 => frFd_len (recBd_isB hBr h) h h1 h2)
 obtain ⟨s, ep, st, fl, te, ta, tc, tb⟩ := x
 simp only [StLog.szs] at hnx
 have HT := (show Hid (Rd .u8 w (.slice ta tb.length tc) tb) from hvx)
 clear hBx hvx hBr hnr hvr
 obtain ⟨D, hD⟩ : ∃ D : RecT, r.dat = D := ⟨_, rfl⟩
 rw [hD] at HG HS HE HFB HLEN ⊢
 clear hD
 obtain ⟨kind, txn, prev, page, slot, ⟨bU, ⟨bDe, bDa, bDc, bDb⟩⟩, ⟨aU, ⟨aDe, aDa, aDc, aDb⟩⟩, uN, nT, ⟨tXe, tXa, tXn, tXc, tXb⟩, ⟨dYe, dYa, dYn, dYc, dYb⟩, ⟨iMe, iMa, iMc, iMb⟩⟩ := r
 dsimp only [StLog.val, StLog.dat, StLogRecord.val, StPageRecord.val, BS.v, FR.v] at *
 have HI0 := (show Hid (ApI w (((w.alloc (.cells #[.int .i64 s, .int .i64 ep, .int .i64 st, .int .i64 fl, .slice ta tb.length tc] 74)).alloc (.cells #[.int .i64 kind, .int .i64 txn, .int .i64 prev, .int .i64 page, .int .i64 slot, .bool bU, .slice bDa bDb.length bDc, .bool aU, .slice aDa aDb.length aDc, .int .i64 uN, .int .i64 nT, .slice tXa tXn tXc, .slice dYa dYn dYc, .slice iMa iMb.length iMc] 48)).alloc (.cells #[.int .i64 0, .int .i64 0, .int .i64 0, .int .i64 0, .int .i64 0, .int .i64 0, .slice none 0 0] 100)) w.heap.size (w.heap.size + 1) (w.heap.size + 1 + 1) [.int .i64 s, .int .i64 ep, .int .i64 st, .int .i64 fl, .slice ta tb.length tc] [.int .i64 kind, .int .i64 txn, .int .i64 prev, .int .i64 page, .int .i64 slot, .bool bU, .slice bDa bDb.length bDc, .bool aU, .slice aDa aDb.length aDc, .int .i64 uN, .int .i64 nT, .slice tXa tXn tXc, .slice dYa dYn dYc, .slice iMa iMb.length iMc]) from ⟨((Blk.newL w _ _).same ((Kept.refl _ _).alloc _)).same ((Kept.refl _ _).alloc _), (Blk.newB w _ _ _ _).same ((Kept.refl _ _).alloc _), Blk.newC w _ _ _ _ _ _, by omega, (((Kept.refl _ _).alloc _).alloc _).alloc _⟩)
 obtain ⟨lf, hlf⟩ : ∃ v, logFd (s, ep, st, fl, tb) = v := ⟨_, rfl⟩
 obtain ⟨rf, hrf⟩ : ∃ v, recFd D = v := ⟨_, rfl⟩
 obtain ⟨fs, hfs⟩ : ∃ v, fsFd D = v := ⟨_, rfl⟩
 rw [hlf] at HF
 rw [hrf] at HG
 rw [hfs] at HS HFB
 have HLF := hid hlf
 have HRF := hid hrf
 have HFS := hid hfs
 clear hlf hrf hfs
 go_enter Try.func53, Try.ntmps53
 go_upto_region 1 with fail
 generalize ((w.alloc (.cells #[.int .i64 s, .int .i64 ep, .int .i64 st, .int .i64 fl, .slice ta tb.length tc] 74)).alloc (.cells #[.int .i64 kind, .int .i64 txn, .int .i64 prev, .int .i64 page, .int .i64 slot, .bool bU, .slice bDa bDb.length bDc, .bool aU, .slice aDa aDb.length aDc, .int .i64 uN, .int .i64 nT, .slice tXa tXn tXc, .slice dYa dYn dYc, .slice iMa iMb.length iMc] 48)).alloc (.cells #[.int .i64 0, .int .i64 0, .int .i64 0, .int .i64 0, .int .i64 0, .int .i64 0, .slice none 0 0] 100) = w0 at HI0 ⊢
 generalize w.heap.size + 1 + 1 = Z at HI0 ⊢
 generalize w.heap.size + 1 = R at HI0 ⊢
 generalize hL : w.heap.size = L at HI0 ⊢
 clear hL
 refine wp_region_V (fun wx : World => wx.cell? ⟨L, 0, none⟩ = some (.int .i64 s) ∧ wx.cell? ⟨L, 1, none⟩ = some (.int .i64 ep) ∧ wx.cell? ⟨L, 2, none⟩ = some (.int .i64 st) ∧ wx.cell? ⟨L, 3, none⟩ = some (.int .i64 fl) ∧ wx.cell? ⟨L, 4, none⟩ = some (.slice ta tb.length tc) ∧ wx.cell? ⟨R, 0, none⟩ = some (.int .i64 kind) ∧ wx.cell? ⟨R, 1, none⟩ = some (.int .i64 txn) ∧ wx.cell? ⟨R, 2, none⟩ = some (.int .i64 prev) ∧ wx.cell? ⟨R, 3, none⟩ = some (.int .i64 page) ∧ wx.cell? ⟨R, 4, none⟩ = some (.int .i64 slot) ∧ wx.cell? ⟨R, 5, none⟩ = some (.bool bU) ∧ wx.cell? ⟨R, 6, none⟩ = some (.slice bDa bDb.length bDc) ∧ wx.cell? ⟨R, 7, none⟩ = some (.bool aU) ∧ wx.cell? ⟨R, 8, none⟩ = some (.slice aDa aDb.length aDc) ∧ wx.cell? ⟨R, 9, none⟩ = some (.int .i64 uN) ∧ wx.cell? ⟨R, 10, none⟩ = some (.int .i64 nT) ∧ wx.cell? ⟨R, 11, none⟩ = some (.slice tXa tXn tXc) ∧ wx.cell? ⟨R, 12, none⟩ = some (.slice dYa dYn dYc) ∧ wx.cell? ⟨R, 13, none⟩ = some (.slice iMa iMb.length iMc)) 99 16 rfl (by kernel_rfl) ?_
 have HI1 := hid (HI0.out.same (Kept.refl (fun _ => False) _).drew)
 generalize w0.drew = u1 at HI1 ⊢
 have hS : (fun wx : World => wx.cell? ⟨L, 0, none⟩ = some (.int .i64 s) ∧ wx.cell? ⟨L, 1, none⟩ = some (.int .i64 ep) ∧ wx.cell? ⟨L, 2, none⟩ = some (.int .i64 st) ∧ wx.cell? ⟨L, 3, none⟩ = some (.int .i64 fl) ∧ wx.cell? ⟨L, 4, none⟩ = some (.slice ta tb.length tc) ∧ wx.cell? ⟨R, 0, none⟩ = some (.int .i64 kind) ∧ wx.cell? ⟨R, 1, none⟩ = some (.int .i64 txn) ∧ wx.cell? ⟨R, 2, none⟩ = some (.int .i64 prev) ∧ wx.cell? ⟨R, 3, none⟩ = some (.int .i64 page) ∧ wx.cell? ⟨R, 4, none⟩ = some (.int .i64 slot) ∧ wx.cell? ⟨R, 5, none⟩ = some (.bool bU) ∧ wx.cell? ⟨R, 6, none⟩ = some (.slice bDa bDb.length bDc) ∧ wx.cell? ⟨R, 7, none⟩ = some (.bool aU) ∧ wx.cell? ⟨R, 8, none⟩ = some (.slice aDa aDb.length aDc) ∧ wx.cell? ⟨R, 9, none⟩ = some (.int .i64 uN) ∧ wx.cell? ⟨R, 10, none⟩ = some (.int .i64 nT) ∧ wx.cell? ⟨R, 11, none⟩ = some (.slice tXa tXn tXc) ∧ wx.cell? ⟨R, 12, none⟩ = some (.slice dYa dYn dYc) ∧ wx.cell? ⟨R, 13, none⟩ = some (.slice iMa iMb.length iMc)) u1 := ⟨HI1.out.logb.cell 0, HI1.out.logb.cell 1, HI1.out.logb.cell 2, HI1.out.logb.cell 3, HI1.out.logb.cell 4, HI1.out.rcb.cell 0, HI1.out.rcb.cell 1, HI1.out.rcb.cell 2, HI1.out.rcb.cell 3, HI1.out.rcb.cell 4, HI1.out.rcb.cell 5, HI1.out.rcb.cell 6, HI1.out.rcb.cell 7, HI1.out.rcb.cell 8, HI1.out.rcb.cell 9, HI1.out.rcb.cell 10, HI1.out.rcb.cell 11, HI1.out.rcb.cell 12, HI1.out.rcb.cell 13⟩
 refine tk 0 6 hS ?_
 refine wpAnyV_one (i := 1) (by kernel_rfl) rfl (fun K hK => ?_)
 go_simp
 refine (HF.out _ HI1.out.kept).mono ?_
 rintro e u2 ⟨rfl, hk⟩
 have HI2 := hid (HI1.out.same hk)
 clear hk hS
 have hS : (fun wx : World => wx.cell? ⟨L, 0, none⟩ = some (.int .i64 s) ∧ wx.cell? ⟨L, 1, none⟩ = some (.int .i64 ep) ∧ wx.cell? ⟨L, 2, none⟩ = some (.int .i64 st) ∧ wx.cell? ⟨L, 3, none⟩ = some (.int .i64 fl) ∧ wx.cell? ⟨L, 4, none⟩ = some (.slice ta tb.length tc) ∧ wx.cell? ⟨R, 0, none⟩ = some (.int .i64 kind) ∧ wx.cell? ⟨R, 1, none⟩ = some (.int .i64 txn) ∧ wx.cell? ⟨R, 2, none⟩ = some (.int .i64 prev) ∧ wx.cell? ⟨R, 3, none⟩ = some (.int .i64 page) ∧ wx.cell? ⟨R, 4, none⟩ = some (.int .i64 slot) ∧ wx.cell? ⟨R, 5, none⟩ = some (.bool bU) ∧ wx.cell? ⟨R, 6, none⟩ = some (.slice bDa bDb.length bDc) ∧ wx.cell? ⟨R, 7, none⟩ = some (.bool aU) ∧ wx.cell? ⟨R, 8, none⟩ = some (.slice aDa aDb.length aDc) ∧ wx.cell? ⟨R, 9, none⟩ = some (.int .i64 uN) ∧ wx.cell? ⟨R, 10, none⟩ = some (.int .i64 nT) ∧ wx.cell? ⟨R, 11, none⟩ = some (.slice tXa tXn tXc) ∧ wx.cell? ⟨R, 12, none⟩ = some (.slice dYa dYn dYc) ∧ wx.cell? ⟨R, 13, none⟩ = some (.slice iMa iMb.length iMc)) u2 := ⟨HI2.out.logb.cell 0, HI2.out.logb.cell 1, HI2.out.logb.cell 2, HI2.out.logb.cell 3, HI2.out.logb.cell 4, HI2.out.rcb.cell 0, HI2.out.rcb.cell 1, HI2.out.rcb.cell 2, HI2.out.rcb.cell 3, HI2.out.rcb.cell 4, HI2.out.rcb.cell 5, HI2.out.rcb.cell 6, HI2.out.rcb.cell 7, HI2.out.rcb.cell 8, HI2.out.rcb.cell 9, HI2.out.rcb.cell 10, HI2.out.rcb.cell 11, HI2.out.rcb.cell 12, HI2.out.rcb.cell 13⟩
 go_wp2_with fail
 refine hK.out _ _ (fun _ => hS) ?_
 clear hK K
 try simp only [Act.put, sA, s0, sS]
 by_cases h1 : lf = 0
 case neg =>
  have q1 : (lf != 0) = true := bne_iff_ne.2 h1
  have HNO := (show Hid (¬ appOK (s, ep, st, fl, tb) D) from fun h => h1 (HLF.out.symm.trans h.1))
  clear h1
  refine tkV 2 8 (.bool true) hS ?_
  refine tk 3 9 hS ?_
  refine tkS 4 10 hS ?_
  refine tkS 5 11 hS ?_
  refine tkS 6 12 hS ?_
  refine tkV 7 13 (.bool true) hS ?_
  refine tk 8 14 hS ?_
  refine tkS 9 15 hS ?_
  refine tkS 10 16 hS ?_
  refine tkS 11 17 hS ?_
  refine tkS 12 18 hS ?_
  refine tkS 13 19 hS ?_
  refine tkS 14 20 hS ?_
  refine tkV 15 21 (.bool true) hS ?_
  refine wpAnyV_done (by kernel_rfl) ?_
  obtain ⟨z0, z1, z2, z3, z4, z5, z6⟩ := HI2.out.res.all7
  have fz := HI2.out.res.frozen
  clear hS
  have HKZ := (show Hid (∀ v0 v1 v2 v3 v4 v5 v6, Same w (((((((u2.setCell ⟨Z, 0, none⟩ v0).setCell ⟨Z, 1, none⟩ v1).setCell ⟨Z, 2, none⟩ v2).setCell ⟨Z, 3, none⟩ v3).setCell ⟨Z, 4, none⟩ v4).setCell ⟨Z, 5, none⟩ v5).setCell ⟨Z, 6, none⟩ v6)) from fun _ _ _ _ _ _ _ => (((((((HI2.out.kept.setCell (.inl HI2.out.pl.2.2.1) _).setCell (.inl HI2.out.pl.2.2.1) _).setCell (.inl HI2.out.pl.2.2.1) _).setCell (.inl HI2.out.pl.2.2.1) _).setCell (.inl HI2.out.pl.2.2.1) _).setCell (.inl HI2.out.pl.2.2.1) _).setCell (.inl HI2.out.pl.2.2.1) _))
  go_wp2_with fail
  refine bodyPost_ret (v := .agg #[.int .i64 1, .int .i64 0, .int .i64 0, .int .i64 0, .int .i64 0, .int .i64 0, .slice none 0 0]) (by simp [results, Try.results53, go_sem, z0, z1, z2, z3, z4, z5, z6]) rfl ⟨⟨1, 0, ⟨0, 0, 0, 0, ⟨0, none, 0, []⟩⟩⟩, rfl, by rw [appD_no HNO.out]; rfl, fun b hb => absurd hb (zeroApp_foot 1 b), zeroApp_own _ 1, HKZ.out _ _ _ _ _ _ _⟩
 subst h1
 obtain ⟨g1, ⟨g2a, g2b⟩, g3, g4, g5, g6⟩ := logFault_good HLF.out
 refine tkV 2 8 (.bool false) hS ?_
 refine tk 3 9 hS ?_
 refine tk 4 10 hS ?_
 refine wpAnyV_one (i := 5) (by kernel_rfl) rfl (fun K hK => ?_)
 go_simp
 refine (HG.out _ HI2.out.kept).mono ?_
 rintro e u3 ⟨rfl, hk⟩
 have HI3 := hid (HI2.out.same hk)
 clear hk hS
 have hS : (fun wx : World => wx.cell? ⟨L, 0, none⟩ = some (.int .i64 s) ∧ wx.cell? ⟨L, 1, none⟩ = some (.int .i64 ep) ∧ wx.cell? ⟨L, 2, none⟩ = some (.int .i64 st) ∧ wx.cell? ⟨L, 3, none⟩ = some (.int .i64 fl) ∧ wx.cell? ⟨L, 4, none⟩ = some (.slice ta tb.length tc) ∧ wx.cell? ⟨R, 0, none⟩ = some (.int .i64 kind) ∧ wx.cell? ⟨R, 1, none⟩ = some (.int .i64 txn) ∧ wx.cell? ⟨R, 2, none⟩ = some (.int .i64 prev) ∧ wx.cell? ⟨R, 3, none⟩ = some (.int .i64 page) ∧ wx.cell? ⟨R, 4, none⟩ = some (.int .i64 slot) ∧ wx.cell? ⟨R, 5, none⟩ = some (.bool bU) ∧ wx.cell? ⟨R, 6, none⟩ = some (.slice bDa bDb.length bDc) ∧ wx.cell? ⟨R, 7, none⟩ = some (.bool aU) ∧ wx.cell? ⟨R, 8, none⟩ = some (.slice aDa aDb.length aDc) ∧ wx.cell? ⟨R, 9, none⟩ = some (.int .i64 uN) ∧ wx.cell? ⟨R, 10, none⟩ = some (.int .i64 nT) ∧ wx.cell? ⟨R, 11, none⟩ = some (.slice tXa tXn tXc) ∧ wx.cell? ⟨R, 12, none⟩ = some (.slice dYa dYn dYc) ∧ wx.cell? ⟨R, 13, none⟩ = some (.slice iMa iMb.length iMc)) u3 := ⟨HI3.out.logb.cell 0, HI3.out.logb.cell 1, HI3.out.logb.cell 2, HI3.out.logb.cell 3, HI3.out.logb.cell 4, HI3.out.rcb.cell 0, HI3.out.rcb.cell 1, HI3.out.rcb.cell 2, HI3.out.rcb.cell 3, HI3.out.rcb.cell 4, HI3.out.rcb.cell 5, HI3.out.rcb.cell 6, HI3.out.rcb.cell 7, HI3.out.rcb.cell 8, HI3.out.rcb.cell 9, HI3.out.rcb.cell 10, HI3.out.rcb.cell 11, HI3.out.rcb.cell 12, HI3.out.rcb.cell 13⟩
 go_wp2_with fail
 refine hK.out _ _ (fun _ => hS) ?_
 clear hK K
 try simp only [Act.put, sA, s0, sS]
 by_cases h2 : rf = 0
 case neg =>
  have q2 : (rf != 0) = true := bne_iff_ne.2 h2
  have HNO := (show Hid (¬ appOK (s, ep, st, fl, tb) D) from fun h => h2 (HRF.out.symm.trans h.2.1))
  clear h2
  refine tkV 6 12 (.bool true) hS ?_
  refine tkV 7 13 (.bool true) hS ?_
  refine tk 8 14 hS ?_
  refine tkS 9 15 hS ?_
  refine tkS 10 16 hS ?_
  refine tkS 11 17 hS ?_
  refine tkS 12 18 hS ?_
  refine tkS 13 19 hS ?_
  refine tkS 14 20 hS ?_
  refine tkV 15 21 (.bool true) hS ?_
  refine wpAnyV_done (by kernel_rfl) ?_
  obtain ⟨z0, z1, z2, z3, z4, z5, z6⟩ := HI3.out.res.all7
  have fz := HI3.out.res.frozen
  clear hS
  have HKZ := (show Hid (∀ v0 v1 v2 v3 v4 v5 v6, Same w (((((((u3.setCell ⟨Z, 0, none⟩ v0).setCell ⟨Z, 1, none⟩ v1).setCell ⟨Z, 2, none⟩ v2).setCell ⟨Z, 3, none⟩ v3).setCell ⟨Z, 4, none⟩ v4).setCell ⟨Z, 5, none⟩ v5).setCell ⟨Z, 6, none⟩ v6)) from fun _ _ _ _ _ _ _ => (((((((HI3.out.kept.setCell (.inl HI3.out.pl.2.2.1) _).setCell (.inl HI3.out.pl.2.2.1) _).setCell (.inl HI3.out.pl.2.2.1) _).setCell (.inl HI3.out.pl.2.2.1) _).setCell (.inl HI3.out.pl.2.2.1) _).setCell (.inl HI3.out.pl.2.2.1) _).setCell (.inl HI3.out.pl.2.2.1) _))
  go_wp2_with fail
  refine bodyPost_ret (v := .agg #[.int .i64 1, .int .i64 0, .int .i64 0, .int .i64 0, .int .i64 0, .int .i64 0, .slice none 0 0]) (by simp [results, Try.results53, go_sem, z0, z1, z2, z3, z4, z5, z6]) rfl ⟨⟨1, 0, ⟨0, 0, 0, 0, ⟨0, none, 0, []⟩⟩⟩, rfl, by rw [appD_no HNO.out]; rfl, fun b hb => absurd hb (zeroApp_foot 1 b), zeroApp_own _ 1, HKZ.out _ _ _ _ _ _ _⟩
 subst h2
 have qa : IntKind.i64.wrap (st + fs) = st + fs := by have := HFB.out; rw [IntKind.wrap_i64]; omega
 refine tkV 6 12 (.bool false) hS ?_
 refine tkV 7 13 (.bool false) hS ?_
 refine tk 8 14 hS ?_
 refine tk 9 15 hS ?_
 refine tk 10 16 hS ?_
 refine tk 11 17 hS ?_
 refine wpAnyV_one (i := 12) (by kernel_rfl) rfl (fun K hK => ?_)
 go_simp
 refine (HS.out _ HI3.out.kept).mono ?_
 rintro e u4 ⟨rfl, hk⟩
 have HI4 := hid (HI3.out.same hk)
 clear hk hS
 have hS : (fun wx : World => wx.cell? ⟨L, 0, none⟩ = some (.int .i64 s) ∧ wx.cell? ⟨L, 1, none⟩ = some (.int .i64 ep) ∧ wx.cell? ⟨L, 2, none⟩ = some (.int .i64 st) ∧ wx.cell? ⟨L, 3, none⟩ = some (.int .i64 fl) ∧ wx.cell? ⟨L, 4, none⟩ = some (.slice ta tb.length tc) ∧ wx.cell? ⟨R, 0, none⟩ = some (.int .i64 kind) ∧ wx.cell? ⟨R, 1, none⟩ = some (.int .i64 txn) ∧ wx.cell? ⟨R, 2, none⟩ = some (.int .i64 prev) ∧ wx.cell? ⟨R, 3, none⟩ = some (.int .i64 page) ∧ wx.cell? ⟨R, 4, none⟩ = some (.int .i64 slot) ∧ wx.cell? ⟨R, 5, none⟩ = some (.bool bU) ∧ wx.cell? ⟨R, 6, none⟩ = some (.slice bDa bDb.length bDc) ∧ wx.cell? ⟨R, 7, none⟩ = some (.bool aU) ∧ wx.cell? ⟨R, 8, none⟩ = some (.slice aDa aDb.length aDc) ∧ wx.cell? ⟨R, 9, none⟩ = some (.int .i64 uN) ∧ wx.cell? ⟨R, 10, none⟩ = some (.int .i64 nT) ∧ wx.cell? ⟨R, 11, none⟩ = some (.slice tXa tXn tXc) ∧ wx.cell? ⟨R, 12, none⟩ = some (.slice dYa dYn dYc) ∧ wx.cell? ⟨R, 13, none⟩ = some (.slice iMa iMb.length iMc)) u4 := ⟨HI4.out.logb.cell 0, HI4.out.logb.cell 1, HI4.out.logb.cell 2, HI4.out.logb.cell 3, HI4.out.logb.cell 4, HI4.out.rcb.cell 0, HI4.out.rcb.cell 1, HI4.out.rcb.cell 2, HI4.out.rcb.cell 3, HI4.out.rcb.cell 4, HI4.out.rcb.cell 5, HI4.out.rcb.cell 6, HI4.out.rcb.cell 7, HI4.out.rcb.cell 8, HI4.out.rcb.cell 9, HI4.out.rcb.cell 10, HI4.out.rcb.cell 11, HI4.out.rcb.cell 12, HI4.out.rcb.cell 13⟩
 go_wp2_with fail
 refine hK.out _ _ (fun _ => hS) ?_
 clear hK K
 try simp only [Act.put, sA, s0, sS]
 refine tkV 13 19 (.int .i64 (st + fs)) hS ?_
 by_cases h3 : 1099511627776 < st + fs
 ·have HNO := (show Hid (¬ appOK (s, ep, st, fl, tb) D) from fun h => by have h4 := h.2.2; rw [HFS.out] at h4; dsimp only at h4; omega)
  refine tkV 14 20 (.bool true) hS ?_
  refine tkV 15 21 (.bool true) hS ?_
  refine wpAnyV_done (by kernel_rfl) ?_
  obtain ⟨z0, z1, z2, z3, z4, z5, z6⟩ := HI4.out.res.all7
  have fz := HI4.out.res.frozen
  clear hS
  have HKZ := (show Hid (∀ v0 v1 v2 v3 v4 v5 v6, Same w (((((((u4.setCell ⟨Z, 0, none⟩ v0).setCell ⟨Z, 1, none⟩ v1).setCell ⟨Z, 2, none⟩ v2).setCell ⟨Z, 3, none⟩ v3).setCell ⟨Z, 4, none⟩ v4).setCell ⟨Z, 5, none⟩ v5).setCell ⟨Z, 6, none⟩ v6)) from fun _ _ _ _ _ _ _ => (((((((HI4.out.kept.setCell (.inl HI4.out.pl.2.2.1) _).setCell (.inl HI4.out.pl.2.2.1) _).setCell (.inl HI4.out.pl.2.2.1) _).setCell (.inl HI4.out.pl.2.2.1) _).setCell (.inl HI4.out.pl.2.2.1) _).setCell (.inl HI4.out.pl.2.2.1) _).setCell (.inl HI4.out.pl.2.2.1) _))
  go_wp2_with fail
  refine bodyPost_ret (v := .agg #[.int .i64 1, .int .i64 0, .int .i64 0, .int .i64 0, .int .i64 0, .int .i64 0, .slice none 0 0]) (by simp [results, Try.results53, go_sem, z0, z1, z2, z3, z4, z5, z6]) rfl ⟨⟨1, 0, ⟨0, 0, 0, 0, ⟨0, none, 0, []⟩⟩⟩, rfl, by rw [appD_no HNO.out]; rfl, fun b hb => absurd hb (zeroApp_foot 1 b), zeroApp_own _ 1, HKZ.out _ _ _ _ _ _ _⟩
 ·have HOK := (show Hid (appOK (s, ep, st, fl, tb) D) from ⟨HLF.out, HRF.out, by rw [HFS.out]; dsimp only; omega⟩)
  refine tkV 14 20 (.bool false) hS ?_
  refine tkV 15 21 (.bool false) hS ?_
  refine wpAnyV_done (by kernel_rfl) ?_
  clear hS HI0 HI1 HI2 HI3 HF HG
  obtain ⟨l0, l1, l2, l3, l4⟩ := HI4.out.logb.all5
  go_wp2_with fail
  refine (l5Copy_any s ep st fl ta tc tb _ (by omega) (HT.out.same HI4.out.kept)).mono ?_
  rintro e u5 ⟨a1, n1, c1, rfl, hf, ho, hk⟩
  have HI5 := hid (HI4.out.same (hk.alloc (.cells #[.int .i64 s, .int .i64 ep, .int .i64 st, .int .i64 fl, .slice a1 n1 c1] 74)))
  have HB5 := hid (Blk.newL u5 [.int .i64 s, .int .i64 ep, .int .i64 st, .int .i64 fl, .slice a1 n1 c1] 74)
  have HO5 := hid (ho.same ((Kept.refl (fun _ => False) _).alloc (.cells #[.int .i64 s, .int .i64 ep, .int .i64 st, .int .i64 fl, .slice a1 n1 c1] 74)))
  have HZ5 := (show Hid (L < u4.heap.size ∧ R < u4.heap.size ∧ Z < u4.heap.size ∧ u4.heap.size ≤ u5.heap.size ∧ w.heap.size ≤ u4.heap.size) from ⟨HI4.out.logb.lt, HI4.out.rcb.lt, HI4.out.res.lt, hk.size, HI4.out.kept.size⟩)
  have HF5 := (show Hid (∀ b, (Value.slice a1 n1 c1).ownBlock = some b → u4.heap.size ≤ b ∧ b < u5.heap.size) from fun b hb => ⟨hf b hb, (ho.lt b hb).2⟩)
  clear hf ho hk l0 l1 l2 l3 l4
  go_upto_region 4 with fail
  generalize u5.alloc (.cells #[.int .i64 s, .int .i64 ep, .int .i64 st, .int .i64 fl, .slice a1 n1 c1] 74) = w5 at HI5 HB5 HO5 ⊢
  obtain ⟨O, hO⟩ : ∃ O, u5.heap.size = O := ⟨_, rfl⟩
  rw [hO] at HB5 HF5 HZ5 ⊢
  clear hO
  refine wp_region_V (fun wx : World => wx.cell? ⟨L, 1, none⟩ = some (.int .i64 ep) ∧ wx.cell? ⟨L, 2, none⟩ = some (.int .i64 st) ∧ wx.cell? ⟨R, 0, none⟩ = some (.int .i64 kind) ∧ wx.cell? ⟨R, 1, none⟩ = some (.int .i64 txn) ∧ wx.cell? ⟨R, 2, none⟩ = some (.int .i64 prev) ∧ wx.cell? ⟨R, 3, none⟩ = some (.int .i64 page) ∧ wx.cell? ⟨R, 4, none⟩ = some (.int .i64 slot) ∧ wx.cell? ⟨R, 5, none⟩ = some (.bool bU) ∧ wx.cell? ⟨R, 6, none⟩ = some (.slice bDa bDb.length bDc) ∧ wx.cell? ⟨R, 7, none⟩ = some (.bool aU) ∧ wx.cell? ⟨R, 8, none⟩ = some (.slice aDa aDb.length aDc) ∧ wx.cell? ⟨R, 9, none⟩ = some (.int .i64 uN) ∧ wx.cell? ⟨R, 10, none⟩ = some (.int .i64 nT) ∧ wx.cell? ⟨R, 11, none⟩ = some (.slice tXa tXn tXc) ∧ wx.cell? ⟨R, 12, none⟩ = some (.slice dYa dYn dYc) ∧ wx.cell? ⟨R, 13, none⟩ = some (.slice iMa iMb.length iMc) ∧ wx.cell? ⟨O, 4, none⟩ = some (.slice a1 n1 c1)) 10 11 rfl (by kernel_rfl) ?_
  have HI6 := hid (HI5.out.same (Kept.refl (fun _ => False) _).drew)
  have HB6 := hid (HB5.out.same (Kept.refl (fun _ => False) _).drew)
  have HO6 := hid (HO5.out.same (Kept.refl (fun _ => False) _).drew)
  generalize w5.drew = v1 at HI6 HB6 HO6 ⊢
  clear HI4 HI5 HB5 HO5
  have hS : (fun wx : World => wx.cell? ⟨L, 1, none⟩ = some (.int .i64 ep) ∧ wx.cell? ⟨L, 2, none⟩ = some (.int .i64 st) ∧ wx.cell? ⟨R, 0, none⟩ = some (.int .i64 kind) ∧ wx.cell? ⟨R, 1, none⟩ = some (.int .i64 txn) ∧ wx.cell? ⟨R, 2, none⟩ = some (.int .i64 prev) ∧ wx.cell? ⟨R, 3, none⟩ = some (.int .i64 page) ∧ wx.cell? ⟨R, 4, none⟩ = some (.int .i64 slot) ∧ wx.cell? ⟨R, 5, none⟩ = some (.bool bU) ∧ wx.cell? ⟨R, 6, none⟩ = some (.slice bDa bDb.length bDc) ∧ wx.cell? ⟨R, 7, none⟩ = some (.bool aU) ∧ wx.cell? ⟨R, 8, none⟩ = some (.slice aDa aDb.length aDc) ∧ wx.cell? ⟨R, 9, none⟩ = some (.int .i64 uN) ∧ wx.cell? ⟨R, 10, none⟩ = some (.int .i64 nT) ∧ wx.cell? ⟨R, 11, none⟩ = some (.slice tXa tXn tXc) ∧ wx.cell? ⟨R, 12, none⟩ = some (.slice dYa dYn dYc) ∧ wx.cell? ⟨R, 13, none⟩ = some (.slice iMa iMb.length iMc) ∧ wx.cell? ⟨O, 4, none⟩ = some (.slice a1 n1 c1)) v1 := ⟨HI6.out.logb.cell 1, HI6.out.logb.cell 2, HI6.out.rcb.cell 0, HI6.out.rcb.cell 1, HI6.out.rcb.cell 2, HI6.out.rcb.cell 3, HI6.out.rcb.cell 4, HI6.out.rcb.cell 5, HI6.out.rcb.cell 6, HI6.out.rcb.cell 7, HI6.out.rcb.cell 8, HI6.out.rcb.cell 9, HI6.out.rcb.cell 10, HI6.out.rcb.cell 11, HI6.out.rcb.cell 12, HI6.out.rcb.cell 13, HB6.out.cell 4⟩
  refine tk 0 25 hS ?_
  refine tk 1 26 hS ?_
  refine tk 2 27 hS ?_
  refine tk 3 28 hS ?_
  refine tk 4 29 hS ?_
  refine tk 5 30 hS ?_
  refine tk 6 31 hS ?_
  refine wpAnyV_one (i := 7) (by kernel_rfl) rfl (fun K hK => ?_)
  go_simp
  refine (HE.out st ep _ (by unfold IsI; omega) (by unfold IsI; omega) HI6.out.kept).mono ?_
  rintro e v2 ⟨a2, c2, rfl, hf, ho, hk⟩
  have HI7 := hid (HI6.out.same hk)
  have HB7 := hid (HB6.out.same hk)
  have HO7 := hid (HO6.out.same hk)
  have HR7 := hid ho.rd
  clear hf ho hk hS
  have hS : (fun wx : World => wx.cell? ⟨L, 1, none⟩ = some (.int .i64 ep) ∧ wx.cell? ⟨L, 2, none⟩ = some (.int .i64 st) ∧ wx.cell? ⟨R, 0, none⟩ = some (.int .i64 kind) ∧ wx.cell? ⟨R, 1, none⟩ = some (.int .i64 txn) ∧ wx.cell? ⟨R, 2, none⟩ = some (.int .i64 prev) ∧ wx.cell? ⟨R, 3, none⟩ = some (.int .i64 page) ∧ wx.cell? ⟨R, 4, none⟩ = some (.int .i64 slot) ∧ wx.cell? ⟨R, 5, none⟩ = some (.bool bU) ∧ wx.cell? ⟨R, 6, none⟩ = some (.slice bDa bDb.length bDc) ∧ wx.cell? ⟨R, 7, none⟩ = some (.bool aU) ∧ wx.cell? ⟨R, 8, none⟩ = some (.slice aDa aDb.length aDc) ∧ wx.cell? ⟨R, 9, none⟩ = some (.int .i64 uN) ∧ wx.cell? ⟨R, 10, none⟩ = some (.int .i64 nT) ∧ wx.cell? ⟨R, 11, none⟩ = some (.slice tXa tXn tXc) ∧ wx.cell? ⟨R, 12, none⟩ = some (.slice dYa dYn dYc) ∧ wx.cell? ⟨R, 13, none⟩ = some (.slice iMa iMb.length iMc) ∧ wx.cell? ⟨O, 4, none⟩ = some (.slice a1 n1 c1)) v2 := ⟨HI7.out.logb.cell 1, HI7.out.logb.cell 2, HI7.out.rcb.cell 0, HI7.out.rcb.cell 1, HI7.out.rcb.cell 2, HI7.out.rcb.cell 3, HI7.out.rcb.cell 4, HI7.out.rcb.cell 5, HI7.out.rcb.cell 6, HI7.out.rcb.cell 7, HI7.out.rcb.cell 8, HI7.out.rcb.cell 9, HI7.out.rcb.cell 10, HI7.out.rcb.cell 11, HI7.out.rcb.cell 12, HI7.out.rcb.cell 13, HB7.out.cell 4⟩
  go_wp2_with fail
  refine hK.out _ _ (fun _ => hS) ?_
  clear hK K
  try simp only [Act.put, sA, s0, sS]
  refine wpAnyV_one (i := 8) (by kernel_rfl) rfl (fun K hK => ?_)
  refine step_app (by rfl) (.tmp 26) (.tmp 32) (by rfl) (.slice a1 n1 c1) (.slice a2 (frFd st ep D).length c2) tb (frFd st ep D) (by rfl) (by rfl) HO7.out HR7.out (by have h5 := HLEN.out st ep HRF.out (by omega) (by omega); have h6 := HFB.out; rw [HFS.out] at h5; omega) ?_
  intro a3 n3 c3 v3 hown hgr
  have hbO := HB7.out.lt
  have HI8 := (show Hid (ApI w v3 L R Z _ _) from HI7.out.keep hgr.kept (fun e => by have := (HF5.out _ e).1; have := HZ5.out; omega) (fun e => by have := (HF5.out _ e).1; have := HZ5.out; omega) (fun e => by have := (HF5.out _ e).1; have := HZ5.out; omega) (fun b hb e => by have := (HF5.out _ e).1; have := HZ5.out; omega))
  have HB8 := hid (HB7.out.kept hgr.kept (fun e => by have := (HF5.out _ e).2; omega))
  have HO8 := (show Hid (Own 0 5 .u8 v3 (.slice a3 n3 c3) (tb ++ frFd st ep D)) from hown)
  have HF8 := (show Hid (∀ b, (Value.slice a3 n3 c3).ownBlock = some b → b ≠ O ∧ b ≠ L ∧ b ≠ R ∧ b ≠ Z ∧ w.heap.size ≤ b) from fun b hb => by rcases hgr.own b hb with h | h; have := HF5.out b h; have := HZ5.out; omega; have := HI7.out.logb.lt; have := HI7.out.rcb.lt; have := HI7.out.res.lt; have := HI7.out.kept.size; omega)
  clear hown hgr hS
  have hS : (fun wx : World => wx.cell? ⟨L, 1, none⟩ = some (.int .i64 ep) ∧ wx.cell? ⟨L, 2, none⟩ = some (.int .i64 st) ∧ wx.cell? ⟨R, 0, none⟩ = some (.int .i64 kind) ∧ wx.cell? ⟨R, 1, none⟩ = some (.int .i64 txn) ∧ wx.cell? ⟨R, 2, none⟩ = some (.int .i64 prev) ∧ wx.cell? ⟨R, 3, none⟩ = some (.int .i64 page) ∧ wx.cell? ⟨R, 4, none⟩ = some (.int .i64 slot) ∧ wx.cell? ⟨R, 5, none⟩ = some (.bool bU) ∧ wx.cell? ⟨R, 6, none⟩ = some (.slice bDa bDb.length bDc) ∧ wx.cell? ⟨R, 7, none⟩ = some (.bool aU) ∧ wx.cell? ⟨R, 8, none⟩ = some (.slice aDa aDb.length aDc) ∧ wx.cell? ⟨R, 9, none⟩ = some (.int .i64 uN) ∧ wx.cell? ⟨R, 10, none⟩ = some (.int .i64 nT) ∧ wx.cell? ⟨R, 11, none⟩ = some (.slice tXa tXn tXc) ∧ wx.cell? ⟨R, 12, none⟩ = some (.slice dYa dYn dYc) ∧ wx.cell? ⟨R, 13, none⟩ = some (.slice iMa iMb.length iMc) ∧ wx.cell? ⟨O, 4, none⟩ = some (.slice a1 n1 c1)) v3 := ⟨HI8.out.logb.cell 1, HI8.out.logb.cell 2, HI8.out.rcb.cell 0, HI8.out.rcb.cell 1, HI8.out.rcb.cell 2, HI8.out.rcb.cell 3, HI8.out.rcb.cell 4, HI8.out.rcb.cell 5, HI8.out.rcb.cell 6, HI8.out.rcb.cell 7, HI8.out.rcb.cell 8, HI8.out.rcb.cell 9, HI8.out.rcb.cell 10, HI8.out.rcb.cell 11, HI8.out.rcb.cell 12, HI8.out.rcb.cell 13, HB8.out.cell 4⟩
  refine hK.out _ _ (fun _ => hS) ?_
  clear hK K
  try simp only [Act.put, sA, s0, sS]
  refine tk 9 34 hS ?_
  have fO := HB8.out.frozen
  refine wpAnyV_one (i := 10) (by kernel_rfl) rfl (fun K hK => ?_)
  go_simp
  refine hK.out _ _ (fun h => absurd rfl h) ?_
  clear hK K hS
  try simp only [Act.put, sA, s0, sS]
  refine wpAnyV_done (by kernel_rfl) ?_
  have hks : Kept (fun b => b = O) v3 (v3.setCell ⟨O, 4, none⟩ (.slice a3 n3 c3)) := (Kept.refl (fun b => b = O) v3).setCell (p := ⟨O, 4, none⟩) (.inr rfl) _
  have HI9 := (show Hid (ApI w (v3.setCell ⟨O, 4, none⟩ (.slice a3 n3 c3)) L R Z _ _) from HI8.out.keep hks (fun e => by have := HZ5.out; omega) (fun e => by have := HZ5.out; omega) (fun e => by have := HZ5.out; omega) (fun b hb e => by have := HZ5.out; omega))
  have HB9 := (show Hid (Blk (v3.setCell ⟨O, 4, none⟩ (.slice a3 n3 c3)) O 74 [.int .i64 s, .int .i64 ep, .int .i64 st, .int .i64 fl, .slice a3 n3 c3]) from HB8.out.stored 4 _)
  have HO9 := (show Hid (Own 0 5 .u8 (v3.setCell ⟨O, 4, none⟩ (.slice a3 n3 c3)) (.slice a3 n3 c3) (tb ++ frFd st ep D)) from HO8.out.kept hks (fun b hb e => (HF8.out b hb).1 e))
  clear hks HI6 HI7 HI8 HB6 HB7 HB8 HO6 HO7 HO8 HR7 hbO fO
  generalize v3.setCell ⟨O, 4, none⟩ (.slice a3 n3 c3) = w6 at HI9 HB9 HO9 ⊢
  go_upto_region 5 with fail
  refine wp_region_V (fun wx : World => wx.cell? ⟨L, 2, none⟩ = some (.int .i64 st) ∧ wx.cell? ⟨R, 0, none⟩ = some (.int .i64 kind) ∧ wx.cell? ⟨R, 1, none⟩ = some (.int .i64 txn) ∧ wx.cell? ⟨R, 2, none⟩ = some (.int .i64 prev) ∧ wx.cell? ⟨R, 3, none⟩ = some (.int .i64 page) ∧ wx.cell? ⟨R, 4, none⟩ = some (.int .i64 slot) ∧ wx.cell? ⟨R, 5, none⟩ = some (.bool bU) ∧ wx.cell? ⟨R, 6, none⟩ = some (.slice bDa bDb.length bDc) ∧ wx.cell? ⟨R, 7, none⟩ = some (.bool aU) ∧ wx.cell? ⟨R, 8, none⟩ = some (.slice aDa aDb.length aDc) ∧ wx.cell? ⟨R, 9, none⟩ = some (.int .i64 uN) ∧ wx.cell? ⟨R, 10, none⟩ = some (.int .i64 nT) ∧ wx.cell? ⟨R, 11, none⟩ = some (.slice tXa tXn tXc) ∧ wx.cell? ⟨R, 12, none⟩ = some (.slice dYa dYn dYc) ∧ wx.cell? ⟨R, 13, none⟩ = some (.slice iMa iMb.length iMc)) 6 7 rfl (by kernel_rfl) ?_
  have HI10 := hid (HI9.out.same (Kept.refl (fun _ => False) _).drew)
  have HB10 := hid (HB9.out.same (Kept.refl (fun _ => False) _).drew)
  have HO10 := hid (HO9.out.same (Kept.refl (fun _ => False) _).drew)
  generalize w6.drew = x1 at HI10 HB10 HO10 ⊢
  clear HI9 HB9 HO9
  have hS : (fun wx : World => wx.cell? ⟨L, 2, none⟩ = some (.int .i64 st) ∧ wx.cell? ⟨R, 0, none⟩ = some (.int .i64 kind) ∧ wx.cell? ⟨R, 1, none⟩ = some (.int .i64 txn) ∧ wx.cell? ⟨R, 2, none⟩ = some (.int .i64 prev) ∧ wx.cell? ⟨R, 3, none⟩ = some (.int .i64 page) ∧ wx.cell? ⟨R, 4, none⟩ = some (.int .i64 slot) ∧ wx.cell? ⟨R, 5, none⟩ = some (.bool bU) ∧ wx.cell? ⟨R, 6, none⟩ = some (.slice bDa bDb.length bDc) ∧ wx.cell? ⟨R, 7, none⟩ = some (.bool aU) ∧ wx.cell? ⟨R, 8, none⟩ = some (.slice aDa aDb.length aDc) ∧ wx.cell? ⟨R, 9, none⟩ = some (.int .i64 uN) ∧ wx.cell? ⟨R, 10, none⟩ = some (.int .i64 nT) ∧ wx.cell? ⟨R, 11, none⟩ = some (.slice tXa tXn tXc) ∧ wx.cell? ⟨R, 12, none⟩ = some (.slice dYa dYn dYc) ∧ wx.cell? ⟨R, 13, none⟩ = some (.slice iMa iMb.length iMc)) x1 := ⟨HI10.out.logb.cell 2, HI10.out.rcb.cell 0, HI10.out.rcb.cell 1, HI10.out.rcb.cell 2, HI10.out.rcb.cell 3, HI10.out.rcb.cell 4, HI10.out.rcb.cell 5, HI10.out.rcb.cell 6, HI10.out.rcb.cell 7, HI10.out.rcb.cell 8, HI10.out.rcb.cell 9, HI10.out.rcb.cell 10, HI10.out.rcb.cell 11, HI10.out.rcb.cell 12, HI10.out.rcb.cell 13⟩
  refine tk 0 35 hS ?_
  refine tk 1 36 hS ?_
  refine tk 2 37 hS ?_
  refine wpAnyV_one (i := 3) (by kernel_rfl) rfl (fun K hK => ?_)
  go_simp
  refine (HS.out _ HI10.out.kept).mono ?_
  rintro e x2 ⟨rfl, hk⟩
  have HI11 := hid (HI10.out.same hk)
  have HB11 := hid (HB10.out.same hk)
  have HO11 := hid (HO10.out.same hk)
  clear hk hS
  have hS : (fun wx : World => wx.cell? ⟨L, 2, none⟩ = some (.int .i64 st) ∧ wx.cell? ⟨R, 0, none⟩ = some (.int .i64 kind) ∧ wx.cell? ⟨R, 1, none⟩ = some (.int .i64 txn) ∧ wx.cell? ⟨R, 2, none⟩ = some (.int .i64 prev) ∧ wx.cell? ⟨R, 3, none⟩ = some (.int .i64 page) ∧ wx.cell? ⟨R, 4, none⟩ = some (.int .i64 slot) ∧ wx.cell? ⟨R, 5, none⟩ = some (.bool bU) ∧ wx.cell? ⟨R, 6, none⟩ = some (.slice bDa bDb.length bDc) ∧ wx.cell? ⟨R, 7, none⟩ = some (.bool aU) ∧ wx.cell? ⟨R, 8, none⟩ = some (.slice aDa aDb.length aDc) ∧ wx.cell? ⟨R, 9, none⟩ = some (.int .i64 uN) ∧ wx.cell? ⟨R, 10, none⟩ = some (.int .i64 nT) ∧ wx.cell? ⟨R, 11, none⟩ = some (.slice tXa tXn tXc) ∧ wx.cell? ⟨R, 12, none⟩ = some (.slice dYa dYn dYc) ∧ wx.cell? ⟨R, 13, none⟩ = some (.slice iMa iMb.length iMc)) x2 := ⟨HI11.out.logb.cell 2, HI11.out.rcb.cell 0, HI11.out.rcb.cell 1, HI11.out.rcb.cell 2, HI11.out.rcb.cell 3, HI11.out.rcb.cell 4, HI11.out.rcb.cell 5, HI11.out.rcb.cell 6, HI11.out.rcb.cell 7, HI11.out.rcb.cell 8, HI11.out.rcb.cell 9, HI11.out.rcb.cell 10, HI11.out.rcb.cell 11, HI11.out.rcb.cell 12, HI11.out.rcb.cell 13⟩
  go_wp2_with fail
  refine hK.out _ _ (fun _ => hS) ?_
  clear hK K
  try simp only [Act.put, sA, s0, sS]
  refine tkV 4 39 (.int .i64 (st + fs)) hS ?_
  refine tk 5 40 hS ?_
  have fO := HB11.out.frozen
  have cO := HB11.out.cell 2
  refine wpAnyV_one (i := 6) (by kernel_rfl) rfl (fun K hK => ?_)
  go_simp
  refine hK.out _ _ (fun h => absurd rfl h) ?_
  clear hK K hS
  try simp only [Act.put, sA, s0, sS]
  refine wpAnyV_done (by kernel_rfl) ?_
  have hks : Kept (fun b => b = O) x2 (x2.setCell ⟨O, 2, none⟩ (.int .i64 (st + fs))) := (Kept.refl (fun b => b = O) x2).setCell (p := ⟨O, 2, none⟩) (.inr rfl) _
  have HI12 := (show Hid (ApI w (x2.setCell ⟨O, 2, none⟩ (.int .i64 (st + fs))) L R Z _ _) from HI11.out.keep hks (fun e => by have := HZ5.out; omega) (fun e => by have := HZ5.out; omega) (fun e => by have := HZ5.out; omega) (fun b hb e => by have := HZ5.out; omega))
  have HB12 := (show Hid (Blk (x2.setCell ⟨O, 2, none⟩ (.int .i64 (st + fs))) O 74 [.int .i64 s, .int .i64 ep, .int .i64 (st + fs), .int .i64 fl, .slice a3 n3 c3]) from HB11.out.stored 2 _)
  have HO12 := (show Hid (Own 0 5 .u8 (x2.setCell ⟨O, 2, none⟩ (.int .i64 (st + fs))) (.slice a3 n3 c3) (tb ++ frFd st ep D)) from HO11.out.kept hks (fun b hb e => (HF8.out b hb).1 e))
  clear hks HI10 HI11 HB10 HB11 HO10 HO11 fO cO
  generalize x2.setCell ⟨O, 2, none⟩ (.int .i64 (st + fs)) = w7 at HI12 HB12 HO12 ⊢
  obtain ⟨l0, l1, l2, l3, l4⟩ := HI12.out.logb.all5
  obtain ⟨o0, o1, o2, o3, o4⟩ := HB12.out.all5
  obtain ⟨z0, z1, z2, z3, z4, z5, z6⟩ := HI12.out.res.all7
  have fz := HI12.out.res.frozen
  have hkz : ∀ v0 v1 v2 v3 v4 v5 v6, Kept (fun b => b = Z) w7 (((((((w7.setCell ⟨Z, 0, none⟩ v0).setCell ⟨Z, 1, none⟩ v1).setCell ⟨Z, 2, none⟩ v2).setCell ⟨Z, 3, none⟩ v3).setCell ⟨Z, 4, none⟩ v4).setCell ⟨Z, 5, none⟩ v5).setCell ⟨Z, 6, none⟩ v6) := fun _ _ _ _ _ _ _ => (((((((Kept.refl (fun b => b = Z) w7).setCell (.inr rfl) _).setCell (.inr rfl) _).setCell (.inr rfl) _).setCell (.inr rfl) _).setCell (.inr rfl) _).setCell (.inr rfl) _).setCell (.inr rfl) _
  have HKZ := hid hkz
  have HN := (show Hid (n3 = (tb ++ frFd st ep D).length) from by unfold Hid; obtain ⟨_, _, h⟩ := HO12.out.rd.form; injection h)
  clear hkz
  go_wp2_with fail
  refine bodyPost_ret (v := .agg #[.int .i64 0, .int .i64 st, .int .i64 s, .int .i64 ep, .int .i64 (st + fs), .int .i64 fl, .slice a3 n3 c3]) (by simp [results, Try.results53, go_sem, z0, z1, z2, z3, z4, z5, z6]) rfl ⟨⟨0, st, ⟨s, ep, st + fs, fl, ⟨5, a3, c3, tb ++ frFd st ep D⟩⟩⟩, by rw [HN.out]; rfl, by rw [appD_yes HOK.out, HFS.out]; rfl, fun b hb => (HF8.out b (by rw [HN.out]; exact (footL_ints _ _ _ _ _).1 hb)).2.2.2.2, OwnL.one ?_, HI12.out.kept.next (HKZ.out _ _ _ _ _ _ _) (fun i hi e => by have := HI12.out.pl.2.2.1; omega)⟩
  have h9 := HO12.out.kept (HKZ.out (.int .i64 0) (.int .i64 st) (.int .i64 s) (.int .i64 ep) (.int .i64 (st + fs)) (.int .i64 fl) (.slice a3 n3 c3)) (fun b hb e => (HF8.out b hb).2.2.2.1 e)
  rw [HN.out] at h9 ⊢
  exact h9
end Go.Proofs.Ytcldagphkpkdpaa
