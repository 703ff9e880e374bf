import Derived.Test.YtdgmecmkkddpeaaGreatG24
import Derived.Test.YtdgmecmkkddpeaaGreatG07
import Derived.Test.YtdgmecmkkddpeaaGreatG01
namespace Go.Proofs.YtdgmecmkkddpeaaGreat
set_option maxRecDepth 100000
set_option maxHeartbeats 16000000
set_option linter.unusedVariables false
set_option linter.unusedSimpArgs false
open Go.RowKit
theorem specFrame_any (lsn ep : Int) (x : StLogRecord) (w : World) (hL : IsI lsn) (hE : IsI ep) (hB : x.isB) (hn : x.szs ≤ 1073741824) (hv : StLogRecord.rd w x) : Calls Tryz.prog 5 #[.int .i64 lsn, .int .i64 ep, x.val] w fun e w' => ∃ a c, e = .returned (.slice a (frFd lsn ep x.dat).length c) ∧ (∀ b, (Value.slice a (frFd lsn ep x.dat).length c).ownBlock = some b → w.heap.size ≤ b) ∧ Own 0 5 .u8 w' (.slice a (frFd lsn ep x.dat).length c) (frFd lsn ep x.dat) ∧ Same w w' := by
 have HF := (show Hid (∀ wx, Same w wx → Calls Tryz.prog 17 #[x.val] wx fun e w' => e = .returned (.int .i64 (recFd x.dat)) ∧ Same wx w') from fun wx (h : Same w wx) => specRec_any x wx hB hn (StLogRecord.rd.same hv h))
 have HE := hid (fun wx (h : Same w wx) => specEnc_any x wx hB hn (StLogRecord.rd.same hv h))
 have HS := hid (fun wx (h : Same w wx) => specFs_any x wx hB hn (StLogRecord.rd.same hv h))
 by_cases hy : recFd x.dat = 0 ∧ (1 ≤ lsn ∧ lsn ≤ 1099511627776) ∧ (1 ≤ ep ∧ ep ≤ 4294967295)
 ·have hRl := recBd_length hy.1
  have hRB := recBd_isB hB hy.1
  rw [frFd_yes hy]
  rw [hy.1] at HF
  rw [encFd_good hy.1] at HE
  rw [fsFd_good hy.1] at HS
  have hy2 := hy.2
  clear hy hB hn hv
  generalize recBd x.dat = R at *
  obtain ⟨kind, txn, prev, page, slot, ⟨bU, ⟨bDe, bDa, bDc, bDb⟩⟩, ⟨aU, ⟨aDe, aDa, aDc, aDb⟩⟩, uN, nT, ⟨tXe, tXa, tXn, tXc, tXb⟩, ⟨dYe, dYa, dYn, dYc, dYb⟩, ⟨iMe, iMa, iMc, iMb⟩⟩ := x
  dsimp only [StLogRecord.val, StPageRecord.val, BS.v, FR.v] at HF HE HS ⊢
  obtain ⟨⟨hl1, hl2⟩, he1, he2⟩ := hy2
  have HI1 := (show Hid (∀ wx, Calls Tryz.prog 18 #[.int .i64 lsn, .int .i64 1, .int .i64 1099511627776] wx fun e w' => e = .returned (.bool true) ∧ Same wx w') from fun wx => by have h := l4In_any lsn 1 1099511627776 wx; rwa [show inB lsn 1 1099511627776 = true by simp [inB]; omega] at h)
  have HI2 := (show Hid (∀ wx, Calls Tryz.prog 18 #[.int .i64 ep, .int .i64 1, .int .i64 4294967295] wx fun e w' => e = .returned (.bool true) ∧ Same wx w') from fun wx => by have h := l4In_any ep 1 4294967295 wx; rwa [show inB ep 1 4294967295 = true by simp [inB]; omega] at h)
  obtain ⟨HK0, HB0⟩ := new1 w [.int .i64 kind, .int .i64 txn, .int .i64 prev, .int .i64 page, .int .i64 slot, .bool bU, .slice bDa bDb.length bDc, .bool aU, .slice aDa aDb.length aDc, .int .i64 uN, .int .i64 nT, .slice tXa tXn tXc, .slice dYa dYn dYc, .slice iMa iMb.length iMc] 35
  have b0 := HB0.out
  have hzb := b0.lt
  have HSB := hid (sumB_isB (lsn := lsn) (ep := ep) hRB)
  have hsl := sumB_length lsn ep R
  have hcr := crcOn_le 0 (sumB lsn ep R) (by omega) (by omega) HSB.out
  go_enter Tryz.func5, Tryz.ntmps5
  go_wp2_with fail
  refine (HF.out _ HK0.out).mono ?_
  rintro e w1 ⟨rfl, hk⟩
  have HK1 := hid (HK0.out.trans hk)
  have b1 := b0.same hk
  clear hk
  go_wp2_with fail
  refine (HI1.out _).mono ?_
  rintro e w2 ⟨rfl, hk⟩
  have HK2 := hid (HK1.out.trans hk)
  have b2 := b1.same hk
  clear hk
  go_wp2_with fail
  refine (HI2.out _).mono ?_
  rintro e w3 ⟨rfl, hk⟩
  have HK3 := hid (HK2.out.trans hk)
  have b3 := b2.same hk
  clear hk
  go_wp2_with fail
  have hS : ((fun wx : World => wx.cell? ⟨w.heap.size, 0, none⟩ = some (.int .i64 kind) ∧ wx.cell? ⟨w.heap.size, 1, none⟩ = some (.int .i64 txn) ∧ wx.cell? ⟨w.heap.size, 2, none⟩ = some (.int .i64 prev) ∧ wx.cell? ⟨w.heap.size, 3, none⟩ = some (.int .i64 page) ∧ wx.cell? ⟨w.heap.size, 4, none⟩ = some (.int .i64 slot) ∧ wx.cell? ⟨w.heap.size, 5, none⟩ = some (.bool bU) ∧ wx.cell? ⟨w.heap.size, 6, none⟩ = some (.slice bDa bDb.length bDc) ∧ wx.cell? ⟨w.heap.size, 7, none⟩ = some (.bool aU) ∧ wx.cell? ⟨w.heap.size, 8, none⟩ = some (.slice aDa aDb.length aDc) ∧ wx.cell? ⟨w.heap.size, 9, none⟩ = some (.int .i64 uN) ∧ wx.cell? ⟨w.heap.size, 10, none⟩ = some (.int .i64 nT) ∧ wx.cell? ⟨w.heap.size, 11, none⟩ = some (.slice tXa tXn tXc) ∧ wx.cell? ⟨w.heap.size, 12, none⟩ = some (.slice dYa dYn dYc) ∧ wx.cell? ⟨w.heap.size, 13, none⟩ = some (.slice iMa iMb.length iMc))) w3.drew := by exact ⟨b3.cell 0, b3.cell 1, b3.cell 2, b3.cell 3, b3.cell 4, b3.cell 5, b3.cell 6, b3.cell 7, b3.cell 8, b3.cell 9, b3.cell 10, b3.cell 11, b3.cell 12, b3.cell 13⟩
  refine wp_region_V ((fun wx : World => wx.cell? ⟨w.heap.size, 0, none⟩ = some (.int .i64 kind) ∧ wx.cell? ⟨w.heap.size, 1, none⟩ = some (.int .i64 txn) ∧ wx.cell? ⟨w.heap.size, 2, none⟩ = some (.int .i64 prev) ∧ wx.cell? ⟨w.heap.size, 3, none⟩ = some (.int .i64 page) ∧ wx.cell? ⟨w.heap.size, 4, none⟩ = some (.int .i64 slot) ∧ wx.cell? ⟨w.heap.size, 5, none⟩ = some (.bool bU) ∧ wx.cell? ⟨w.heap.size, 6, none⟩ = some (.slice bDa bDb.length bDc) ∧ wx.cell? ⟨w.heap.size, 7, none⟩ = some (.bool aU) ∧ wx.cell? ⟨w.heap.size, 8, none⟩ = some (.slice aDa aDb.length aDc) ∧ wx.cell? ⟨w.heap.size, 9, none⟩ = some (.int .i64 uN) ∧ wx.cell? ⟨w.heap.size, 10, none⟩ = some (.int .i64 nT) ∧ wx.cell? ⟨w.heap.size, 11, none⟩ = some (.slice tXa tXn tXc) ∧ wx.cell? ⟨w.heap.size, 12, none⟩ = some (.slice dYa dYn dYc) ∧ wx.cell? ⟨w.heap.size, 13, none⟩ = some (.slice iMa iMb.length iMc))) 99 8 rfl (by kernel_rfl) ?_
  refine tk 0 22 hS ?_
  refine tk 2 24 hS ?_
  refine tk 4 26 hS ?_
  refine wpAnyV_one (i := 1) (by kernel_rfl) rfl (fun K hK => ?_)
  go_simp
  refine (specPut_any lsn 8 _ (by unfold IsI; omega) (by unfold IsI; omega)).mono ?_
  rintro e w4 ⟨a4, c4, rfl, hf, ho, hk⟩
  have HK4 := hid (HK3.out.drew.trans hk)
  have HF4 := (show Hid (∀ b, (Value.slice a4 (numB lsn 8).length c4).ownBlock = some b → w.heap.size ≤ b) from fun b hb => Nat.le_trans HK3.out.drew.size (hf b hb))
  have HF4b := (show Hid (∀ b, (Value.slice a4 (numB lsn 8).length c4).ownBlock = some b → w.heap.size + 1 ≤ b) from fun b hb => Nat.le_trans (by have := b3.lt; simp only [World.size_drew]; omega) (hf b hb))
  have HO4 := (show Hid (Own 0 5 .u8 w4 (Value.slice a4 (numB lsn 8).length c4) (numB lsn 8)) from ho)
  have b4 := b3.drew.same hk
  clear hf ho hk
  have hS : ((fun wx : World => wx.cell? ⟨w.heap.size, 0, none⟩ = some (.int .i64 kind) ∧ wx.cell? ⟨w.heap.size, 1, none⟩ = some (.int .i64 txn) ∧ wx.cell? ⟨w.heap.size, 2, none⟩ = some (.int .i64 prev) ∧ wx.cell? ⟨w.heap.size, 3, none⟩ = some (.int .i64 page) ∧ wx.cell? ⟨w.heap.size, 4, none⟩ = some (.int .i64 slot) ∧ wx.cell? ⟨w.heap.size, 5, none⟩ = some (.bool bU) ∧ wx.cell? ⟨w.heap.size, 6, none⟩ = some (.slice bDa bDb.length bDc) ∧ wx.cell? ⟨w.heap.size, 7, none⟩ = some (.bool aU) ∧ wx.cell? ⟨w.heap.size, 8, none⟩ = some (.slice aDa aDb.length aDc) ∧ wx.cell? ⟨w.heap.size, 9, none⟩ = some (.int .i64 uN) ∧ wx.cell? ⟨w.heap.size, 10, none⟩ = some (.int .i64 nT) ∧ wx.cell? ⟨w.heap.size, 11, none⟩ = some (.slice tXa tXn tXc) ∧ wx.cell? ⟨w.heap.size, 12, none⟩ = some (.slice dYa dYn dYc) ∧ wx.cell? ⟨w.heap.size, 13, none⟩ = some (.slice iMa iMb.length iMc))) w4 := by exact ⟨b4.cell 0, b4.cell 1, b4.cell 2, b4.cell 3, b4.cell 4, b4.cell 5, b4.cell 6, b4.cell 7, b4.cell 8, b4.cell 9, b4.cell 10, b4.cell 11, b4.cell 12, b4.cell 13⟩
  refine hK.out _ _ (fun _ => hS) ?_
  clear hK K
  try simp only [Act.put, sA, s0, sS]
  refine wpAnyV_one (i := 3) (by kernel_rfl) rfl (fun K hK => ?_)
  go_simp
  refine (l4Put_own _ (numB lsn 8) ep 4 _ (by unfold IsI; omega) (by unfold IsI; omega) (by have := numB_length lsn 8; omega) HO4.out).mono ?_
  rintro e w5 ⟨a5, n5, c5, rfl, hown, hg⟩
  have HK5 := hid (hg.same HK4.out HF4.out)
  have HF5 := hid (hg.fresh HK4.out HF4.out)
  have HO5 := (show Hid (Own 0 5 .u8 w5 (Value.slice a5 n5 c5) (numB lsn 8 ++ numB ep 4)) from hown)
  have b5 := b4.kept hg.kept (fun e => by have := HF4.out _ e; have := hzb; exact absurd (HF4b.out _ e) (by omega))
  have HF5b := (show Hid (∀ b, (Value.slice a5 n5 c5).ownBlock = some b → w.heap.size + 1 ≤ b) from fun b hb => (hg.own b hb).elim (fun h => by have := HF4b.out b h; omega) (fun h => by have := b4.lt; omega))
  clear hown hg
  have hS : ((fun wx : World => wx.cell? ⟨w.heap.size, 0, none⟩ = some (.int .i64 kind) ∧ wx.cell? ⟨w.heap.size, 1, none⟩ = some (.int .i64 txn) ∧ wx.cell? ⟨w.heap.size, 2, none⟩ = some (.int .i64 prev) ∧ wx.cell? ⟨w.heap.size, 3, none⟩ = some (.int .i64 page) ∧ wx.cell? ⟨w.heap.size, 4, none⟩ = some (.int .i64 slot) ∧ wx.cell? ⟨w.heap.size, 5, none⟩ = some (.bool bU) ∧ wx.cell? ⟨w.heap.size, 6, none⟩ = some (.slice bDa bDb.length bDc) ∧ wx.cell? ⟨w.heap.size, 7, none⟩ = some (.bool aU) ∧ wx.cell? ⟨w.heap.size, 8, none⟩ = some (.slice aDa aDb.length aDc) ∧ wx.cell? ⟨w.heap.size, 9, none⟩ = some (.int .i64 uN) ∧ wx.cell? ⟨w.heap.size, 10, none⟩ = some (.int .i64 nT) ∧ wx.cell? ⟨w.heap.size, 11, none⟩ = some (.slice tXa tXn tXc) ∧ wx.cell? ⟨w.heap.size, 12, none⟩ = some (.slice dYa dYn dYc) ∧ wx.cell? ⟨w.heap.size, 13, none⟩ = some (.slice iMa iMb.length iMc))) w5 := by exact ⟨b5.cell 0, b5.cell 1, b5.cell 2, b5.cell 3, b5.cell 4, b5.cell 5, b5.cell 6, b5.cell 7, b5.cell 8, b5.cell 9, b5.cell 10, b5.cell 11, b5.cell 12, b5.cell 13⟩
  refine hK.out _ _ (fun _ => hS) ?_
  clear hK K
  try simp only [Act.put, sA, s0, sS]
  refine wpAnyV_one (i := 5) (by kernel_rfl) rfl (fun K hK => ?_)
  go_simp
  refine (HE.out _ HK5.out).mono ?_
  rintro e w6 ⟨a6, c6, rfl, hf, ho, hk⟩
  have HR6 := (show Hid (Rd .u8 w6 (.slice a6 R.length c6) R) from ho.rd)
  have HK6 := hid (HK5.out.trans hk)
  have HO6 := hid (HO5.out.same hk)
  have b6 := b5.same hk
  clear hf ho hk
  have hS : ((fun wx : World => wx.cell? ⟨w.heap.size, 0, none⟩ = some (.int .i64 kind) ∧ wx.cell? ⟨w.heap.size, 1, none⟩ = some (.int .i64 txn) ∧ wx.cell? ⟨w.heap.size, 2, none⟩ = some (.int .i64 prev) ∧ wx.cell? ⟨w.heap.size, 3, none⟩ = some (.int .i64 page) ∧ wx.cell? ⟨w.heap.size, 4, none⟩ = some (.int .i64 slot) ∧ wx.cell? ⟨w.heap.size, 5, none⟩ = some (.bool bU) ∧ wx.cell? ⟨w.heap.size, 6, none⟩ = some (.slice bDa bDb.length bDc) ∧ wx.cell? ⟨w.heap.size, 7, none⟩ = some (.bool aU) ∧ wx.cell? ⟨w.heap.size, 8, none⟩ = some (.slice aDa aDb.length aDc) ∧ wx.cell? ⟨w.heap.size, 9, none⟩ = some (.int .i64 uN) ∧ wx.cell? ⟨w.heap.size, 10, none⟩ = some (.int .i64 nT) ∧ wx.cell? ⟨w.heap.size, 11, none⟩ = some (.slice tXa tXn tXc) ∧ wx.cell? ⟨w.heap.size, 12, none⟩ = some (.slice dYa dYn dYc) ∧ wx.cell? ⟨w.heap.size, 13, none⟩ = some (.slice iMa iMb.length iMc))) w6 := by exact ⟨b6.cell 0, b6.cell 1, b6.cell 2, b6.cell 3, b6.cell 4, b6.cell 5, b6.cell 6, b6.cell 7, b6.cell 8, b6.cell 9, b6.cell 10, b6.cell 11, b6.cell 12, b6.cell 13⟩
  refine hK.out _ _ (fun _ => hS) ?_
  clear hK K
  try simp only [Act.put, sA, s0, sS]
  refine wpAnyV_one (i := 6) (by kernel_rfl) rfl (fun K hK => ?_)
  refine step_app (by rfl) (.tmp 25) (.tmp 27) (by rfl) (.slice a5 n5 c5) (.slice a6 R.length c6) (numB lsn 8 ++ numB ep 4) R (by rfl) (by rfl) HO6.out HR6.out (by have := numB_length lsn 8; have := numB_length ep 4; rw [List.length_append]; omega) ?_
  intro a7 n7 c7 w7 hown hg
  have HO7 := (show Hid (Own 0 5 .u8 w7 (Value.slice a7 n7 c7) (sumB lsn ep R)) from hown)
  have HK7 := hid (hg.same HK6.out HF5.out)
  have HF7 := hid (hg.fresh HK6.out HF5.out)
  have b7 := b6.kept hg.kept (fun e => by have := HF5b.out _ e; omega)
  clear hown hg
  have hS : ((fun wx : World => wx.cell? ⟨w.heap.size, 0, none⟩ = some (.int .i64 kind) ∧ wx.cell? ⟨w.heap.size, 1, none⟩ = some (.int .i64 txn) ∧ wx.cell? ⟨w.heap.size, 2, none⟩ = some (.int .i64 prev) ∧ wx.cell? ⟨w.heap.size, 3, none⟩ = some (.int .i64 page) ∧ wx.cell? ⟨w.heap.size, 4, none⟩ = some (.int .i64 slot) ∧ wx.cell? ⟨w.heap.size, 5, none⟩ = some (.bool bU) ∧ wx.cell? ⟨w.heap.size, 6, none⟩ = some (.slice bDa bDb.length bDc) ∧ wx.cell? ⟨w.heap.size, 7, none⟩ = some (.bool aU) ∧ wx.cell? ⟨w.heap.size, 8, none⟩ = some (.slice aDa aDb.length aDc) ∧ wx.cell? ⟨w.heap.size, 9, none⟩ = some (.int .i64 uN) ∧ wx.cell? ⟨w.heap.size, 10, none⟩ = some (.int .i64 nT) ∧ wx.cell? ⟨w.heap.size, 11, none⟩ = some (.slice tXa tXn tXc) ∧ wx.cell? ⟨w.heap.size, 12, none⟩ = some (.slice dYa dYn dYc) ∧ wx.cell? ⟨w.heap.size, 13, none⟩ = some (.slice iMa iMb.length iMc))) w7 := by exact ⟨b7.cell 0, b7.cell 1, b7.cell 2, b7.cell 3, b7.cell 4, b7.cell 5, b7.cell 6, b7.cell 7, b7.cell 8, b7.cell 9, b7.cell 10, b7.cell 11, b7.cell 12, b7.cell 13⟩
  refine hK.out _ _ (fun _ => hS) ?_
  clear hK K
  try simp only [Act.put, sA, s0, sS]
  refine tk 7 7 hS ?_
  refine wpAnyV_done (by kernel_rfl) ?_
  obtain ⟨d7_0, d7_1, d7_2, d7_3, d7_4, d7_5, d7_6, d7_7, d7_8, d7_9, d7_10, d7_11, d7_12, d7_13⟩ := b7.all14
  go_wp2_with fail
  refine (HS.out _ HK7.out).mono ?_
  rintro e w8 ⟨rfl, hk⟩
  have HK8 := hid (HK7.out.trans hk)
  have HO8 := hid (HO7.out.same hk)
  clear hk
  go_wp2_with fail
  refine (specPut_any (20 + (R.length : Int)) 4 _ (by unfold IsI; omega) (by unfold IsI; omega)).mono ?_
  rintro e w9 ⟨a9, c9, rfl, hf, ho, hk⟩
  have HK9 := hid (HK8.out.trans hk)
  have HF9 := (show Hid (∀ b, (Value.slice a9 (numB (20 + (R.length : Int)) 4).length c9).ownBlock = some b → w.heap.size ≤ b) from fun b hb => Nat.le_trans HK8.out.size (hf b hb))
  have HO9 := (show Hid (Own 0 5 .u8 w9 (Value.slice a9 (numB (20 + (R.length : Int)) 4).length c9) (numB (20 + (R.length : Int)) 4)) from ho)
  have HP9 := hid (HO8.out.same hk)
  have HD9 := (show Hid (∀ b, (Value.slice a9 (numB (20 + (R.length : Int)) 4).length c9).ownBlock = some b → ¬ (Value.slice a7 n7 c7).ownBlock = some b) from fun b h1 h2 => by have := hf b h1; have := (HO8.out.lt b h2).2; omega)
  clear hf ho hk
  go_wp2_with fail
  refine (specCrc_any _ (sumB lsn ep R) _ HSB.out (by omega) HP9.out.rd).mono ?_
  rintro e w10 ⟨rfl, hk⟩
  have HK10 := hid (HK9.out.trans hk)
  have HO10 := hid (HO9.out.same hk)
  have HP10 := hid (HP9.out.same hk)
  clear hk
  go_wp2_with fail
  refine (l4Put_own _ (numB (20 + (R.length : Int)) 4) (crcOn 0 (sumB lsn ep R)) 4 _ (by unfold IsI; omega) (by unfold IsI; omega) (by have := numB_length (20 + (R.length : Int)) 4; omega) HO10.out).mono ?_
  rintro e w11 ⟨a11, n11, c11, rfl, hown, hg⟩
  have HK11 := hid (hg.same HK10.out HF9.out)
  have HF11 := hid (hg.fresh HK10.out HF9.out)
  have HO11 := (show Hid (Own 0 5 .u8 w11 (Value.slice a11 n11 c11) (numB (20 + (R.length : Int)) 4 ++ numB (crcOn 0 (sumB lsn ep R)) 4)) from hown)
  have HP11 := (show Hid (Own 0 5 .u8 w11 (Value.slice a7 n7 c7) (sumB lsn ep R)) from HP10.out.kept hg.kept (fun b h1 h2 => HD9.out b h2 h1))
  clear hown hg
  have hl11 : (numB (20 + (R.length : Int)) 4 ++ numB (crcOn 0 (sumB lsn ep R)) 4).length ≤ 16 := by have := numB_length (20 + (R.length : Int)) 4; have := numB_length (crcOn 0 (sumB lsn ep R)) 4; rw [List.length_append]; omega
  go_wp2_with (at_builtin; go_loud (refine wpList_app rfl (.tmp 34) (.tmp 35) rfl (.slice a11 n11 c11) (.slice a7 n7 c7) _ (sumB lsn ep R) rfl rfl HO11.out HP11.out.rd (by omega) ?_); intro a12 n12 c12 w12 hown hg; have HO12 := (show Hid (Own 0 5 .u8 w12 (Value.slice a12 n12 c12) (frB lsn ep R)) from hown); have HK12 := hid (hg.same HK11.out HF11.out); have HF12 := hid (hg.fresh HK11.out HF11.out); clear hown hg)
  go_ret
  obtain rfl := HO12.out.sized
  exact ⟨_, _, rfl, HF12.out, HO12.out, HK12.out⟩
 ·rw [frFd_no hy]
  have hor : recFd x.dat ≠ 0 ∨ (recFd x.dat = 0 ∧ ¬ (1 ≤ lsn ∧ lsn ≤ 1099511627776)) ∨ (recFd x.dat = 0 ∧ (1 ≤ lsn ∧ lsn ≤ 1099511627776) ∧ ¬ (1 ≤ ep ∧ ep ≤ 4294967295)) := by by_cases h : recFd x.dat = 0; by_cases h2 : (1 ≤ lsn ∧ lsn ≤ 1099511627776); exact .inr (.inr ⟨h, h2, fun h3 => hy ⟨h, h2, h3⟩⟩); exact .inr (.inl ⟨h, h2⟩); exact .inl h
  clear hy hB hn hv HE HS
  generalize recFd x.dat = r at *
  obtain ⟨kind, txn, prev, page, slot, ⟨bU, ⟨bDe, bDa, bDc, bDb⟩⟩, ⟨aU, ⟨aDe, aDa, aDc, aDb⟩⟩, uN, nT, ⟨tXe, tXa, tXn, tXc, tXb⟩, ⟨dYe, dYa, dYn, dYc, dYb⟩, ⟨iMe, iMa, iMc, iMb⟩⟩ := x
  dsimp only [StLogRecord.val, StPageRecord.val, BS.v, FR.v] at HF ⊢
  have HK0 := hid (sameA w [.int .i64 kind, .int .i64 txn, .int .i64 prev, .int .i64 page, .int .i64 slot, .bool bU, .slice bDa bDb.length bDc, .bool aU, .slice aDa aDb.length aDc, .int .i64 uN, .int .i64 nT, .slice tXa tXn tXc, .slice dYa dYn dYc, .slice iMa iMb.length iMc] 35)
  have HI1 := hid (fun wx => l4In_any lsn 1 1099511627776 wx)
  have HI2 := hid (fun wx => l4In_any ep 1 4294967295 wx)
  rcases hor with hr | ⟨rfl, hc⟩ | ⟨rfl, hc, hc2⟩
  ·go_enter Tryz.func5, Tryz.ntmps5
   go_wp2_with fail
   refine (HF.out _ HK0.out).mono ?_
   rintro e wz ⟨rfl, hk⟩
   have HKz := hid (HK0.out.trans hk)
   clear hk
   go_wp2
   go_ret
   exact ⟨_, _, rfl, fun b hb => (by have := HKz.out.size; have hb : wz.heap.size = b := (by simpa [Value.ownBlock] using hb); omega), Own.empty _ _, HKz.out.alloc _⟩
  ·go_enter Tryz.func5, Tryz.ntmps5
   go_wp2_with fail
   refine (HF.out _ HK0.out).mono ?_
   rintro e w1 ⟨rfl, hk⟩
   have HK1 := hid (HK0.out.trans hk)
   clear hk
   rw [show inB lsn 1 1099511627776 = false by simp [inB]; omega] at HI1
   go_wp2_with fail
   refine (HI1.out _).mono ?_
   rintro e wz ⟨rfl, hk⟩
   have HKz := hid (HK1.out.trans hk)
   clear hk
   go_wp2
   go_ret
   exact ⟨_, _, rfl, fun b hb => (by have := HKz.out.size; have hb : wz.heap.size = b := (by simpa [Value.ownBlock] using hb); omega), Own.empty _ _, HKz.out.alloc _⟩
  ·go_enter Tryz.func5, Tryz.ntmps5
   go_wp2_with fail
   refine (HF.out _ HK0.out).mono ?_
   rintro e w1 ⟨rfl, hk⟩
   have HK1 := hid (HK0.out.trans hk)
   clear hk
   rw [show inB lsn 1 1099511627776 = true by simp [inB]; omega] at HI1
   go_wp2_with fail
   refine (HI1.out _).mono ?_
   rintro e w2 ⟨rfl, hk⟩
   have HK2 := hid (HK1.out.trans hk)
   clear hk
   rw [show inB ep 1 4294967295 = false by simp [inB]; omega] at HI2
   go_wp2_with fail
   refine (HI2.out _).mono ?_
   rintro e wz ⟨rfl, hk⟩
   have HKz := hid (HK2.out.trans hk)
   clear hk
   go_wp2
   go_ret
   exact ⟨_, _, rfl, fun b hb => (by have := HKz.out.size; have hb : wz.heap.size = b := (by simpa [Value.ownBlock] using hb); omega), Own.empty _ _, HKz.out.alloc _⟩
theorem implFrame_any (lsn ep : Int) (x : StLogRecord) (w : World) (hL : IsI lsn) (hE : IsI ep) (hB : x.isB) (hn : x.szs ≤ 1073741824) (hv : StLogRecord.rd w x) : Calls Tryz.prog 7 #[.int .i64 lsn, .int .i64 ep, x.val] w fun e w' => ∃ a c, e = .returned (.slice a (frFd lsn ep x.dat).length c) ∧ (∀ b, (Value.slice a (frFd lsn ep x.dat).length c).ownBlock = some b → w.heap.size ≤ b) ∧ Own 0 5 .u8 w' (.slice a (frFd lsn ep x.dat).length c) (frFd lsn ep x.dat) ∧ Same w w' := by
 have HE := hid (fun wx (h : Same w wx) => implEnc_any x wx hB hn (StLogRecord.rd.same hv h))
 by_cases hy : recFd x.dat = 0 ∧ (1 ≤ lsn ∧ lsn ≤ 1099511627776) ∧ (1 ≤ ep ∧ ep ≤ 4294967295)
 ·obtain ⟨hRa, hRb⟩ := recBd_length hy.1
  have hRB := recBd_isB hB hy.1
  rw [frFd_yes hy]
  rw [encFd_good hy.1] at HE
  have hy2 := hy.2
  clear hy hB hn hv
  generalize recBd x.dat = R at *
  obtain ⟨kind, txn, prev, page, slot, ⟨bU, ⟨bDe, bDa, bDc, bDb⟩⟩, ⟨aU, ⟨aDe, aDa, aDc, aDb⟩⟩, uN, nT, ⟨tXe, tXa, tXn, tXc, tXb⟩, ⟨dYe, dYa, dYn, dYc, dYb⟩, ⟨iMe, iMa, iMc, iMb⟩⟩ := x
  dsimp only [StLogRecord.val, StPageRecord.val, BS.v, FR.v] at HE ⊢
  obtain ⟨⟨hl1, hl2⟩, he1, he2⟩ := hy2
  obtain ⟨i0, hi, hz0, hz1, hz2⟩ := info_parts Tryz.infoByte'
  have HK0 := hid (sameA w [.int .i64 kind, .int .i64 txn, .int .i64 prev, .int .i64 page, .int .i64 slot, .bool bU, .slice bDa bDb.length bDc, .bool aU, .slice aDa aDb.length aDc, .int .i64 uN, .int .i64 nT, .slice tXa tXn tXc, .slice dYa dYn dYc, .slice iMa iMb.length iMc] 35)
  have HSB := hid (sumB_isB (lsn := lsn) (ep := ep) hRB)
  have hsl := sumB_length lsn ep R
  have hcr := crcOn_le 0 (sumB lsn ep R) (by omega) (by omega) HSB.out
  have hsm : sumB lsn ep R = (lows lsn 8 ++ lows ep 4) ++ R := by unfold sumB; rw [show numB lsn 8 = lows lsn 8 from numB_lows (n := 8) (by omega) (by omega) (by omega), show numB ep 4 = lows ep 4 from numB_lows (n := 4) (by omega) (by omega) (by omega)]
  have HSM := hid hsm
  clear hsm
  obtain ⟨N, hN⟩ : ∃ N : Nat, N = 20 + R.length := ⟨_, rfl⟩
  have hNI : (20 : Int) + (R.length : Int) = (N : Int) := by omega
  have hR0 : ¬ (R.length : Int) = 0 := by omega
  have hNb : N ≤ 5020 := by omega
  have hNa : 21 ≤ N := by omega
  have hfr : frB lsn ep R = lows (N : Int) 4 ++ (lows (crcOn 0 (sumB lsn ep R)) 4 ++ (lows lsn 8 ++ (lows ep 4 ++ R))) := by unfold frB; rw [HSM.out, hNI, show numB (N : Int) 4 = lows (N : Int) 4 from numB_lows (n := 4) (by omega) (by omega) (by omega), show numB (crcOn 0 ((lows lsn 8 ++ lows ep 4) ++ R)) 4 = lows (crcOn 0 ((lows lsn 8 ++ lows ep 4) ++ R)) 4 from numB_lows (n := 4) (by omega) (by rw [← HSM.out]; omega) (by rw [← HSM.out]; omega), ← HSM.out]; rw [show sumB lsn ep R = (lows lsn 8 ++ lows ep 4) ++ R from HSM.out]; simp only [List.append_assoc]
  have HFR := hid hfr
  clear hfr
  have HN := hid hN
  have HNI := hid hNI
  clear hN hNI
  have q1 : ((R.length : Int) == 0) = false := by rw [beq_eq_false_iff_ne]; exact hR0
  have q2 : decide (lsn < 1) = false := decide_eq_false (by omega)
  have q3 : decide (1099511627776 < lsn) = false := decide_eq_false (by omega)
  have q4 : decide (ep < 1) = false := decide_eq_false (by omega)
  have q5 : decide (4294967295 < ep) = false := decide_eq_false (by omega)
  go_enter Tryz.func7, Tryz.ntmps7
  go_wp2_with fail
  refine (HE.out _ HK0.out).mono ?_
  rintro e w1 ⟨a1, c1, rfl, hf, ho, hk⟩
  have HK1 := hid (HK0.out.trans hk)
  have HO1 := (show Hid (Own 0 5 .u8 w1 (.slice a1 R.length c1) (R)) from ho)
  clear hf ho hk
  obtain ⟨g1, cap1, hv1, _, hg1, _, _⟩ := HO1.out.form.resolve_left (fun h => by have := h.2; rw [this] at hR0; simp at hR0)
  injection hv1 with ea en ec
  subst ea
  subst ec
  go_wp2_with (at_make; go_loud (refine wpList_make_full _ rfl (.tmp 32) (.tmp 32) 22 rfl 0 5 i0 (.int .u8 0) 1 Tryz.underlying22 hi hz0 hz1 .i64 .i64 _ _ N rfl rfl (by exact HNI.out) (by exact HNI.out) (by rw [hz2]; omega) (by unfold maxLen; omega) (Nat.zero_le _) ?_); intro w2 hown hgrow; have HO2 := (show Hid (Own 0 5 .u8 w2 (.slice (some ⟨w1.heap.size, 0, none⟩) N N) (List.replicate N (0 : Int))) from own_made (by simpa using hown)); have HS2 := (show Hid (Same w1 w2) from Kept.of_grown hgrow (fun k e => by cases e)); clear hown hgrow)
  have HB2 := (show Hid (Blk w2 w1.heap.size 5 (vals .u8 (List.replicate 4 (0 : Int) ++ (List.replicate 4 (0 : Int) ++ (List.replicate 8 (0 : Int) ++ (List.replicate 4 (0 : Int) ++ List.replicate R.length (0 : Int))))))) from (by have h := Own.blk HO2.out; rw [HN.out, show List.replicate (20 + R.length) (0 : Int) = List.replicate 4 (0 : Int) ++ (List.replicate 4 (0 : Int) ++ (List.replicate 8 (0 : Int) ++ (List.replicate 4 (0 : Int) ++ List.replicate R.length (0 : Int)))) from by simp only [List.replicate_append_replicate]; congr 1; omega] at h; exact h))
  have HK2 := hid (HK1.out.trans HS2.out)
  have HQ2 := (show Hid (Kept (fun b => b = w1.heap.size) w1 w2) from HS2.out.mono (fun _ _ e => absurd e id))
  clear HO2 HS2
  have hN4 : (4 : Int) ≤ (N : Int) := by omega
  have hne4 : ¬ N = 4 := by omega
  have hne8 : ¬ N = 8 := by omega
  have hN8 : (8 : Int) ≤ (N : Int) := by omega
  have hN16 : (16 : Int) ≤ (N : Int) := by omega
  have hN20 : (20 : Int) ≤ (N : Int) := by omega
  go_wp2_with fail
  refine (writeNumber_any w1.heap.size 0 4 N 5 _ ((N : Int)) _ HB2.out (by rw [vals_length]; simp [lows_length]; try omega) (by omega) (by omega) (by omega)).mono ?_
  rintro e w3 ⟨rfl, hb, hk⟩
  have HB3 := (show Hid (Blk w3 w1.heap.size 5 (vals .u8 (lows (N : Int) 4 ++ (List.replicate 4 (0 : Int) ++ (List.replicate 8 (0 : Int) ++ (List.replicate 4 (0 : Int) ++ List.replicate R.length (0 : Int))))))) from (by have h := hb; rw [show List.replicate 4 (0 : Int) ++ (List.replicate 4 (0 : Int) ++ (List.replicate 8 (0 : Int) ++ (List.replicate 4 (0 : Int) ++ List.replicate R.length (0 : Int)))) = ([]) ++ ((List.replicate 4 (0 : Int)) ++ (List.replicate 4 (0 : Int) ++ (List.replicate 8 (0 : Int) ++ (List.replicate 4 (0 : Int) ++ List.replicate R.length (0 : Int))))) from by simp only [List.append_assoc, List.nil_append, List.append_nil], layV _ ([]) (List.replicate 4 (0 : Int)) (List.replicate 4 (0 : Int) ++ (List.replicate 8 (0 : Int) ++ (List.replicate 4 (0 : Int) ++ List.replicate R.length (0 : Int)))) (lows (N : Int) 4) 0 (by simp [lows_length]) (by simp [lows_length])] at h; rw [show lows (N : Int) 4 ++ (List.replicate 4 (0 : Int) ++ (List.replicate 8 (0 : Int) ++ (List.replicate 4 (0 : Int) ++ List.replicate R.length (0 : Int)))) = ([]) ++ ((lows (N : Int) 4) ++ (List.replicate 4 (0 : Int) ++ (List.replicate 8 (0 : Int) ++ (List.replicate 4 (0 : Int) ++ List.replicate R.length (0 : Int))))) from by simp only [List.append_assoc, List.nil_append, List.append_nil]]; exact h))
  have HK3 := (show Hid (Same w w3) from HK2.out.next hk (fun i hi e => by have := HK1.out.size; omega))
  have HQ3 := (show Hid (Kept (fun b => b = w1.heap.size) w1 w3) from HQ2.out.next hk (fun i hi e => e))
  clear hb hk
  go_wp2_with fail
  refine (writeNumber_any w1.heap.size 8 8 (N - 8) 5 _ (lsn) _ HB3.out (by rw [vals_length]; simp [lows_length]; try omega) (by omega) (by omega) (by omega)).mono ?_
  rintro e w4 ⟨rfl, hb, hk⟩
  have HB4 := (show Hid (Blk w4 w1.heap.size 5 (vals .u8 (lows (N : Int) 4 ++ (List.replicate 4 (0 : Int) ++ (lows lsn 8 ++ (List.replicate 4 (0 : Int) ++ List.replicate R.length (0 : Int))))))) from (by have h := hb; rw [show lows (N : Int) 4 ++ (List.replicate 4 (0 : Int) ++ (List.replicate 8 (0 : Int) ++ (List.replicate 4 (0 : Int) ++ List.replicate R.length (0 : Int)))) = (lows (N : Int) 4 ++ List.replicate 4 (0 : Int)) ++ ((List.replicate 8 (0 : Int)) ++ (List.replicate 4 (0 : Int) ++ List.replicate R.length (0 : Int))) from by simp only [List.append_assoc, List.nil_append, List.append_nil], layV _ (lows (N : Int) 4 ++ List.replicate 4 (0 : Int)) (List.replicate 8 (0 : Int)) (List.replicate 4 (0 : Int) ++ List.replicate R.length (0 : Int)) (lows lsn 8) 8 (by simp [lows_length]) (by simp [lows_length])] at h; rw [show lows (N : Int) 4 ++ (List.replicate 4 (0 : Int) ++ (lows lsn 8 ++ (List.replicate 4 (0 : Int) ++ List.replicate R.length (0 : Int)))) = (lows (N : Int) 4 ++ List.replicate 4 (0 : Int)) ++ ((lows lsn 8) ++ (List.replicate 4 (0 : Int) ++ List.replicate R.length (0 : Int))) from by simp only [List.append_assoc, List.nil_append, List.append_nil]]; exact h))
  have HK4 := (show Hid (Same w w4) from HK3.out.next hk (fun i hi e => by have := HK1.out.size; omega))
  have HQ4 := (show Hid (Kept (fun b => b = w1.heap.size) w1 w4) from HQ3.out.next hk (fun i hi e => e))
  clear hb hk
  go_wp2_with fail
  refine (writeNumber_any w1.heap.size 16 4 (N - 16) 5 _ (ep) _ HB4.out (by rw [vals_length]; simp [lows_length]; try omega) (by omega) (by omega) (by omega)).mono ?_
  rintro e w5 ⟨rfl, hb, hk⟩
  have HB5 := (show Hid (Blk w5 w1.heap.size 5 (vals .u8 (lows (N : Int) 4 ++ (List.replicate 4 (0 : Int) ++ (lows lsn 8 ++ (lows ep 4 ++ List.replicate R.length (0 : Int))))))) from (by have h := hb; rw [show lows (N : Int) 4 ++ (List.replicate 4 (0 : Int) ++ (lows lsn 8 ++ (List.replicate 4 (0 : Int) ++ List.replicate R.length (0 : Int)))) = ((lows (N : Int) 4 ++ List.replicate 4 (0 : Int)) ++ lows lsn 8) ++ ((List.replicate 4 (0 : Int)) ++ (List.replicate R.length (0 : Int))) from by simp only [List.append_assoc, List.nil_append, List.append_nil], layV _ ((lows (N : Int) 4 ++ List.replicate 4 (0 : Int)) ++ lows lsn 8) (List.replicate 4 (0 : Int)) (List.replicate R.length (0 : Int)) (lows ep 4) 16 (by simp [lows_length]) (by simp [lows_length])] at h; rw [show lows (N : Int) 4 ++ (List.replicate 4 (0 : Int) ++ (lows lsn 8 ++ (lows ep 4 ++ List.replicate R.length (0 : Int)))) = ((lows (N : Int) 4 ++ List.replicate 4 (0 : Int)) ++ lows lsn 8) ++ ((lows ep 4) ++ (List.replicate R.length (0 : Int))) from by simp only [List.append_assoc, List.nil_append, List.append_nil]]; exact h))
  have HK5 := (show Hid (Same w w5) from HK4.out.next hk (fun i hi e => by have := HK1.out.size; omega))
  have HQ5 := (show Hid (Kept (fun b => b = w1.heap.size) w1 w5) from HQ4.out.next hk (fun i hi e => e))
  clear hb hk
  have HR5 := (show Hid (Own 0 5 .u8 w5 (.slice (some ⟨g1, 0, none⟩) R.length c1) R) from HO1.out.kept HQ5.out (fun b hb e => by have hb : g1 = b := Option.some.inj hb; omega))
  have hcp := run_copy_cells (P := Tryz.prog) w5 22 22 3 5 w1.heap.size 20 (N - 20) (N - 20) ⟨g1, 0, none⟩ R.length c1 (vals .u8 R) Tryz.underlying22 (by rw [hi]; simp [hz1]) (by rw [vals_length]; have : N - 20 = R.length := (by have := HN.out; omega); simp [this]) (news_of (off := 0) (fun i h => by have := HR5.out.cell rfl i h; simpa using this)) (fun j hj => by rw [vals_length] at hj; rw [HB5.out.cell, List.getElem?_eq_getElem (by rw [vals_length]; simp [lows_length]; try omega)]; rfl) (fun j _ => HB5.out.frozen _) vals_one
  have HCP := hid hcp
  have HB6 := (show Hid (Blk (w5.setCells w1.heap.size 20 (vals .u8 R)) w1.heap.size 5 (vals .u8 (lows (N : Int) 4 ++ (List.replicate 4 (0 : Int) ++ (lows lsn 8 ++ (lows ep 4 ++ R)))))) from (by have h := Blk.setCells (vals .u8 R) 20 HB5.out (by rw [vals_length, vals_length]; simp [lows_length]; try omega); rw [show lows (N : Int) 4 ++ (List.replicate 4 (0 : Int) ++ (lows lsn 8 ++ (lows ep 4 ++ List.replicate R.length (0 : Int)))) = (((lows (N : Int) 4 ++ List.replicate 4 (0 : Int)) ++ lows lsn 8) ++ lows ep 4) ++ ((List.replicate R.length (0 : Int)) ++ ([])) from by simp only [List.append_assoc, List.nil_append, List.append_nil], layV _ (((lows (N : Int) 4 ++ List.replicate 4 (0 : Int)) ++ lows lsn 8) ++ lows ep 4) (List.replicate R.length (0 : Int)) ([]) (R) 20 (by simp [lows_length]) (by simp [lows_length])] at h; rw [show lows (N : Int) 4 ++ (List.replicate 4 (0 : Int) ++ (lows lsn 8 ++ (lows ep 4 ++ R))) = (((lows (N : Int) 4 ++ List.replicate 4 (0 : Int)) ++ lows lsn 8) ++ lows ep 4) ++ ((R) ++ ([])) from by simp only [List.append_assoc, List.nil_append, List.append_nil]]; exact h))
  have HK6 := (show Hid (Same w (w5.setCells w1.heap.size 20 (vals .u8 R))) from Kept.setCells (.inl (by have := HK1.out.size; omega)) _ _ HK5.out)
  have HQ6 := (show Hid (Kept (fun b => b = w1.heap.size) w1 (w5.setCells w1.heap.size 20 (vals .u8 R))) from Kept.setCells (R := fun b => b = w1.heap.size) (.inr rfl) _ _ HQ5.out)
  have HD6 := (show Hid (Rd .u8 (w5.setCells w1.heap.size 20 (vals .u8 R)) (.slice (some ⟨w1.heap.size, 8, none⟩) (N - 8) (N - 8)) (sumB lsn ep R)) from (by have h := Blk.rd HB6.out 8 (N - 8) (N - 8) (by have := HN.out; simp [lows_length]; try omega) (Nat.le_refl _) (by unfold maxLen; simp [lows_length]; try omega); rw [HSM.out]; rw [show ((lows (N : Int) 4 ++ (List.replicate 4 (0 : Int) ++ (lows lsn 8 ++ (lows ep 4 ++ R)))).drop 8).take (N - 8) = (lows lsn 8 ++ lows ep 4) ++ R from (by rw [show lows (N : Int) 4 ++ (List.replicate 4 (0 : Int) ++ (lows lsn 8 ++ (lows ep 4 ++ R))) = (lows (N : Int) 4 ++ List.replicate 4 (0 : Int)) ++ ((lows lsn 8 ++ lows ep 4) ++ R) from by simp only [List.append_assoc], List.drop_left' (by simp [lows_length]), List.take_of_length_le (by have := HN.out; simp [lows_length]; try omega)])] at h; exact h))
  rw [vals_length] at hcp
  generalize (w5.setCells w1.heap.size 20 (vals .u8 R)) = w6 at *
  go_wp2_with fail
  have hS : ((fun _ : World => True)) w6.drew := by trivial
  refine wp_region_V ((fun _ : World => True)) 99 6 rfl (by kernel_rfl) ?_
  refine tk 0 51 hS ?_
  refine tk 1 52 hS ?_
  refine tk 2 53 hS ?_
  refine tk 3 54 hS ?_
  refine wpAnyV_one (i := 4) (by kernel_rfl) rfl (fun K hK => ?_)
  go_simp
  refine (implCrc_any _ (sumB lsn ep R) _ HSB.out (by omega) (HD6.out.same (Kept.refl _ _).drew)).mono ?_
  rintro e w7 ⟨rfl, hk⟩
  have HB7 := (show Hid (Blk w7 w1.heap.size 5 (vals .u8 (lows (N : Int) 4 ++ (List.replicate 4 (0 : Int) ++ (lows lsn 8 ++ (lows ep 4 ++ R)))))) from HB6.out.drew.same hk)
  have HK7 := hid (HK6.out.drew.trans hk)
  have HQ7 := (show Hid (Kept (fun b => b = w1.heap.size) w1 w7) from HQ6.out.drew.next (hk.mono (fun _ _ e => absurd e id)) (fun i hi e => e))
  clear hk
  have hS : ((fun _ : World => True)) w7 := by trivial
  refine hK.out _ _ (fun _ => hS) ?_
  clear hK K
  try simp only [Act.put, sA, s0, sS]
  refine wpAnyV_one (i := 5) (by kernel_rfl) rfl (fun K hK => ?_)
  go_simp
  refine (writeNumber_any w1.heap.size 4 4 (N - 4) 5 _ (crcOn 0 (sumB lsn ep R)) _ HB7.out (by rw [vals_length]; simp [lows_length]; try omega) (by omega) (by omega) (by omega)).mono ?_
  rintro e w8 ⟨rfl, hb, hk⟩
  have HB8 := (show Hid (Blk w8 w1.heap.size 5 (vals .u8 (lows (N : Int) 4 ++ (lows (crcOn 0 (sumB lsn ep R)) 4 ++ (lows lsn 8 ++ (lows ep 4 ++ R)))))) from (by have h := hb; rw [show lows (N : Int) 4 ++ (List.replicate 4 (0 : Int) ++ (lows lsn 8 ++ (lows ep 4 ++ R))) = (lows (N : Int) 4) ++ ((List.replicate 4 (0 : Int)) ++ (lows lsn 8 ++ (lows ep 4 ++ R))) from by simp only [List.append_assoc, List.nil_append, List.append_nil], layV _ (lows (N : Int) 4) (List.replicate 4 (0 : Int)) (lows lsn 8 ++ (lows ep 4 ++ R)) (lows (crcOn 0 (sumB lsn ep R)) 4) 4 (by simp [lows_length]) (by simp [lows_length])] at h; rw [show lows (N : Int) 4 ++ (lows (crcOn 0 (sumB lsn ep R)) 4 ++ (lows lsn 8 ++ (lows ep 4 ++ R))) = (lows (N : Int) 4) ++ ((lows (crcOn 0 (sumB lsn ep R)) 4) ++ (lows lsn 8 ++ (lows ep 4 ++ R))) from by simp only [List.append_assoc, List.nil_append, List.append_nil]]; exact h))
  have HK8 := (show Hid (Same w w8) from HK7.out.next hk (fun i hi e => by have := HK1.out.size; omega))
  have HQ8 := (show Hid (Kept (fun b => b = w1.heap.size) w1 w8) from HQ7.out.next hk (fun i hi e => e))
  clear hb hk
  have hS : ((fun _ : World => True)) w8 := by trivial
  refine hK.out _ _ (fun _ => hS) ?_
  clear hK K
  try simp only [Act.put, sA, s0, sS]
  refine wpAnyV_done (by kernel_rfl) ?_
  go_wp2
  go_ret
  have hlen : (frB lsn ep R).length = N := by have := HN.out; rw [HFR.out]; simp [lows_length]; try omega
  refine ⟨some ⟨w1.heap.size, 0, none⟩, N, by first | (rw [hlen]; done) | simp [hlen], fun b hb => ?_, ?_, HK8.out⟩
  ·have hb : w1.heap.size = b := by simpa [Value.ownBlock] using hb
   have := HK1.out.size
   omega
  ·have h := Blk.own HB8.out (by unfold maxLen; simp [lows_length]; try omega)
   rw [← HFR.out] at h
   rw [hlen] at h ⊢
   exact h
 ·rw [frFd_no hy]
  have hor : (encFd x.dat).length = 0 ∨ (1 ≤ (encFd x.dat).length ∧ (encFd x.dat).length ≤ 5000 ∧ ¬ ((1 ≤ lsn ∧ lsn ≤ 1099511627776) ∧ (1 ≤ ep ∧ ep ≤ 4294967295))) := by by_cases h : recFd x.dat = 0; rw [encFd_good h]; exact .inr ⟨(recBd_length h).1, (recBd_length h).2, fun h2 => hy ⟨h, h2⟩⟩; rw [encFd_bad h]; exact .inl rfl
  clear hy hB hn hv
  generalize encFd x.dat = R at *
  obtain ⟨kind, txn, prev, page, slot, ⟨bU, ⟨bDe, bDa, bDc, bDb⟩⟩, ⟨aU, ⟨aDe, aDa, aDc, aDb⟩⟩, uN, nT, ⟨tXe, tXa, tXn, tXc, tXb⟩, ⟨dYe, dYa, dYn, dYc, dYb⟩, ⟨iMe, iMa, iMc, iMb⟩⟩ := x
  dsimp only [StLogRecord.val, StPageRecord.val, BS.v, FR.v] at HE ⊢
  have HK0 := hid (sameA w [.int .i64 kind, .int .i64 txn, .int .i64 prev, .int .i64 page, .int .i64 slot, .bool bU, .slice bDa bDb.length bDc, .bool aU, .slice aDa aDb.length aDc, .int .i64 uN, .int .i64 nT, .slice tXa tXn tXc, .slice dYa dYn dYc, .slice iMa iMb.length iMc] 35)
  have key : (R.length : Int) = 0 ∨ (¬ (R.length : Int) = 0 ∧ lsn < 1) ∨ (¬ (R.length : Int) = 0 ∧ ¬ lsn < 1 ∧ 1099511627776 < lsn) ∨ (¬ (R.length : Int) = 0 ∧ ¬ lsn < 1 ∧ ¬ 1099511627776 < lsn ∧ ep < 1) ∨ (¬ (R.length : Int) = 0 ∧ ¬ lsn < 1 ∧ ¬ 1099511627776 < lsn ∧ ¬ ep < 1 ∧ 4294967295 < ep) := by omega
  clear hor
  rcases key with h1 | ⟨h1, h2⟩ | ⟨h1, h2, h3⟩ | ⟨h1, h2, h3, h4⟩ | ⟨h1, h2, h3, h4, h5⟩
  ·have q1 : ((R.length : Int) == 0) = true := by rw [beq_iff_eq]; exact h1
   go_enter Tryz.func7, Tryz.ntmps7
   go_wp2_with fail
   refine (HE.out _ HK0.out).mono ?_
   rintro e w1 ⟨a1, c1, rfl, hf, ho, hk⟩
   have HK1 := hid (HK0.out.trans hk)
   clear hf ho hk
   go_wp2
   go_ret
   exact ⟨none, 0, rfl, fun b hb => (by simp [Value.ownBlock] at hb), Own.nil _ _ _ _, HK1.out⟩
  ·have q1 : ((R.length : Int) == 0) = false := by rw [beq_eq_false_iff_ne]; exact h1
   have q2 : decide (lsn < 1) = true := decide_eq_true h2
   go_enter Tryz.func7, Tryz.ntmps7
   go_wp2_with fail
   refine (HE.out _ HK0.out).mono ?_
   rintro e w1 ⟨a1, c1, rfl, hf, ho, hk⟩
   have HK1 := hid (HK0.out.trans hk)
   clear hf ho hk
   go_wp2
   go_ret
   exact ⟨none, 0, rfl, fun b hb => (by simp [Value.ownBlock] at hb), Own.nil _ _ _ _, HK1.out⟩
  ·have q1 : ((R.length : Int) == 0) = false := by rw [beq_eq_false_iff_ne]; exact h1
   have q2 : decide (lsn < 1) = false := decide_eq_false h2
   have q3 : decide (1099511627776 < lsn) = true := decide_eq_true h3
   go_enter Tryz.func7, Tryz.ntmps7
   go_wp2_with fail
   refine (HE.out _ HK0.out).mono ?_
   rintro e w1 ⟨a1, c1, rfl, hf, ho, hk⟩
   have HK1 := hid (HK0.out.trans hk)
   clear hf ho hk
   go_wp2
   go_ret
   exact ⟨none, 0, rfl, fun b hb => (by simp [Value.ownBlock] at hb), Own.nil _ _ _ _, HK1.out⟩
  ·have q1 : ((R.length : Int) == 0) = false := by rw [beq_eq_false_iff_ne]; exact h1
   have q2 : decide (lsn < 1) = false := decide_eq_false h2
   have q3 : decide (1099511627776 < lsn) = false := decide_eq_false h3
   have q4 : decide (ep < 1) = true := decide_eq_true h4
   go_enter Tryz.func7, Tryz.ntmps7
   go_wp2_with fail
   refine (HE.out _ HK0.out).mono ?_
   rintro e w1 ⟨a1, c1, rfl, hf, ho, hk⟩
   have HK1 := hid (HK0.out.trans hk)
   clear hf ho hk
   go_wp2
   go_ret
   exact ⟨none, 0, rfl, fun b hb => (by simp [Value.ownBlock] at hb), Own.nil _ _ _ _, HK1.out⟩
  ·have q1 : ((R.length : Int) == 0) = false := by rw [beq_eq_false_iff_ne]; exact h1
   have q2 : decide (lsn < 1) = false := decide_eq_false h2
   have q3 : decide (1099511627776 < lsn) = false := decide_eq_false h3
   have q4 : decide (ep < 1) = false := decide_eq_false h4
   have q5 : decide (4294967295 < ep) = true := decide_eq_true h5
   go_enter Tryz.func7, Tryz.ntmps7
   go_wp2_with fail
   refine (HE.out _ HK0.out).mono ?_
   rintro e w1 ⟨a1, c1, rfl, hf, ho, hk⟩
   have HK1 := hid (HK0.out.trans hk)
   clear hf ho hk
   go_wp2
   go_ret
   exact ⟨none, 0, rfl, fun b hb => (by simp [Value.ownBlock] at hb), Own.nil _ _ _ _, HK1.out⟩
theorem markDirtyEntryS_own (x : FR) (k0 : Int) (w : World) (h0 : 0 ≤ k0) (h1 : k0 + (x.bs.length : Int) ≤ 1125899906842624) (ha : OwnL w (x.rows 2)) :
  Calls Tryz.prog 36 #[x.v, .int .i64 k0] w fun e w' => e = .returned (.int .i64 (k0 + (x.bs.length : Int))) ∧ OwnL w' ((x.marked k0).rows 2) ∧ Kept (FootL (x.rows 2)) w w' := by
 have hl := FR.own_len ha
 have hf := FR.own_form ha
 obtain ⟨xe, xa, xn, xc, bs⟩ := x
 dsimp only [FR.v] at *
 have HA := (show Hid (OwnL w (FR.rows 2 ⟨xe, xa, xn, xc, bs⟩)) from ha)
 clear ha
 rcases hf with ⟨rfl, rfl, rfl⟩ | ⟨g, rfl, hac, hcm, ho⟩
 ·obtain rfl : bs = [] := List.length_eq_zero_iff.1 (by omega)
  clear hl
  go_enter Tryz.func36, Tryz.ntmps36
  go_wp2
  refine wp_loop_rounds 1 ?_
  rw [rounds_succ]
  go_wp2
  go_ret
  exact ⟨by simp, HA.out, Kept.refl _ _⟩
 ·have HL := (show Hid (bs.length = xn * 2) from hl)
  have HO0 := (show Hid (OwnF 2 xe w g xn xc bs) from ho)
  rw [hl] at h1 ⊢
  have hxn : k0 + (xn : Int) * 2 ≤ 1125899906842624 := by simpa using h1
  unfold maxLen at hcm
  clear ho hl HA h1
  go_enter Tryz.func36, Tryz.ntmps36
  go_wp2
  go_loopw [1, 5] (fun v i wr => ∃ k : Nat, k ≤ xn ∧ i = .int .i64 k ∧ v = .int .i64 (k0 + (k : Int) * 2) ∧ Hid (OwnF 2 xe wr g xn xc (partI k0 bs (k * 2))) ∧ Hid (Kept (fun b => b = g) w wr)) (fun _ i _ => xn - (intOf i).toNat)
  case atStart => exact ⟨0, Nat.zero_le _, rfl, by simp, by rw [Nat.zero_mul, partI_zero]; exact HO0, Kept.refl _ _⟩
  case round =>
   obtain ⟨k, hk, rfl, rfl, HO, HK⟩ := hrel
   by_cases hlt : k < xn
   ·have c0 := HO.out.cell (k * 2) (by omega)
    have f0 := HO.out.frozen (k * 2)
    have c1 := HO.out.cell (k * 2 + 1) (by omega)
    have f1 := HO.out.frozen (k * 2 + 1)
    go_wp2
    go_roundw
    case rel =>
     have hl := HL.out
     have q0 := HO.out
     have q1 := q0.stored (k * 2) (k0 + ((k * 2 : Nat) : Int))
     rw [partI_step _ _ _ (by omega)] at q1
     have q2 := q1.stored (k * 2 + 1) (k0 + ((k * 2 + 1 : Nat) : Int))
     rw [partI_step _ _ _ (by omega)] at q2
     refine ⟨k + 1, by omega, by go_num, by go_num, ?_, ?_⟩
     ·rw [show (k + 1) * 2 = k * 2 + 1 + 1 from by omega]; simpa [Hid, Int.add_assoc] using q2
     ·exact ((HK.out.setCell (.inr rfl) _).setCell (.inr rfl) _)
    case measure => simp [intOf]; omega
   ·go_wp2
    go_ret
    obtain rfl : k = xn := by omega
    have h := HO.out
    rw [← HL.out, partI_all] at h
    refine ⟨ret_int (by push_cast; rfl), ?_, HK.out.mono (fun b _ hb => (FootL_one _ _).2 (by simp [FR.v, Value.ownBlock, hb]))⟩
    exact h.out
theorem markTxnEntryS_own (x : FR) (k0 : Int) (w : World) (h0 : 0 ≤ k0) (h1 : k0 + (x.bs.length : Int) ≤ 1125899906842624) (ha : OwnL w (x.rows 4)) :
  Calls Tryz.prog 35 #[x.v, .int .i64 k0] w fun e w' => e = .returned (.int .i64 (k0 + (x.bs.length : Int))) ∧ OwnL w' ((x.marked k0).rows 4) ∧ Kept (FootL (x.rows 4)) w w' := by
 have hl := FR.own_len ha
 have hf := FR.own_form ha
 obtain ⟨xe, xa, xn, xc, bs⟩ := x
 dsimp only [FR.v] at *
 have HA := (show Hid (OwnL w (FR.rows 4 ⟨xe, xa, xn, xc, bs⟩)) from ha)
 clear ha
 rcases hf with ⟨rfl, rfl, rfl⟩ | ⟨g, rfl, hac, hcm, ho⟩
 ·obtain rfl : bs = [] := List.length_eq_zero_iff.1 (by omega)
  clear hl
  go_enter Tryz.func35, Tryz.ntmps35
  go_wp2
  refine wp_loop_rounds 1 ?_
  rw [rounds_succ]
  go_wp2
  go_ret
  exact ⟨by simp, HA.out, Kept.refl _ _⟩
 ·have HL := (show Hid (bs.length = xn * 4) from hl)
  have HO0 := (show Hid (OwnF 4 xe w g xn xc bs) from ho)
  rw [hl] at h1 ⊢
  have hxn : k0 + (xn : Int) * 4 ≤ 1125899906842624 := by simpa using h1
  unfold maxLen at hcm
  clear ho hl HA h1
  go_enter Tryz.func35, Tryz.ntmps35
  go_wp2
  go_loopw [1, 5] (fun v i wr => ∃ k : Nat, k ≤ xn ∧ i = .int .i64 k ∧ v = .int .i64 (k0 + (k : Int) * 4) ∧ Hid (OwnF 4 xe wr g xn xc (partI k0 bs (k * 4))) ∧ Hid (Kept (fun b => b = g) w wr)) (fun _ i _ => xn - (intOf i).toNat)
  case atStart => exact ⟨0, Nat.zero_le _, rfl, by simp, by rw [Nat.zero_mul, partI_zero]; exact HO0, Kept.refl _ _⟩
  case round =>
   obtain ⟨k, hk, rfl, rfl, HO, HK⟩ := hrel
   by_cases hlt : k < xn
   ·have c0 := HO.out.cell (k * 4) (by omega)
    have f0 := HO.out.frozen (k * 4)
    have c1 := HO.out.cell (k * 4 + 1) (by omega)
    have f1 := HO.out.frozen (k * 4 + 1)
    have c2 := HO.out.cell (k * 4 + 2) (by omega)
    have f2 := HO.out.frozen (k * 4 + 2)
    have c3 := HO.out.cell (k * 4 + 3) (by omega)
    have f3 := HO.out.frozen (k * 4 + 3)
    go_wp2
    go_roundw
    case rel =>
     have hl := HL.out
     have q0 := HO.out
     have q1 := q0.stored (k * 4) (k0 + ((k * 4 : Nat) : Int))
     rw [partI_step _ _ _ (by omega)] at q1
     have q2 := q1.stored (k * 4 + 1) (k0 + ((k * 4 + 1 : Nat) : Int))
     rw [partI_step _ _ _ (by omega)] at q2
     have q3 := q2.stored (k * 4 + 2) (k0 + ((k * 4 + 2 : Nat) : Int))
     rw [partI_step _ _ _ (by omega)] at q3
     have q4 := q3.stored (k * 4 + 3) (k0 + ((k * 4 + 3 : Nat) : Int))
     rw [partI_step _ _ _ (by omega)] at q4
     refine ⟨k + 1, by omega, by go_num, by go_num, ?_, ?_⟩
     ·rw [show (k + 1) * 4 = k * 4 + 1 + 1 + 1 + 1 from by omega]; simpa [Hid, Int.add_assoc] using q4
     ·exact ((((HK.out.setCell (.inr rfl) _).setCell (.inr rfl) _).setCell (.inr rfl) _).setCell (.inr rfl) _)
    case measure => simp [intOf]; omega
   ·go_wp2
    go_ret
    obtain rfl : k = xn := by omega
    have h := HO.out
    rw [← HL.out, partI_all] at h
    refine ⟨ret_int (by push_cast; rfl), ?_, HK.out.mono (fun b _ hb => (FootL_one _ _).2 (by simp [FR.v, Value.ownBlock, hb]))⟩
    exact h.out
end Go.Proofs.YtdgmecmkkddpeaaGreat
