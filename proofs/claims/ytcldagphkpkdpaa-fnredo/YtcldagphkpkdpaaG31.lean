import Derived.Test.YtcldagphkpkdpaaG28
namespace Go.Proofs.Ytcldagphkpkdpaa
set_option maxRecDepth 100000
set_option maxHeartbeats 16000000
set_option linter.unusedVariables false
set_option linter.unusedSimpArgs false
open Go.RowKit
theorem specFrame_any (lsn ep : Int) (x : StLogRecord) (w : World) (hL : IsI lsn) (hE : IsI ep) (hB : x.isB) (hn : x.szs ≤ 1073741824) (hv : StLogRecord.rd w x) : Calls Try.prog 69 #[.int .i64 lsn, .int .i64 ep, x.val] w fun e w' => ∃ a c, e = .returned (.slice a (frFd lsn ep x.dat).length c) ∧ (∀ b, (Value.slice a (frFd lsn ep x.dat).length c).ownBlock = some b → w.heap.size ≤ b) ∧ Own 0 5 .u8 w' (.slice a (frFd lsn ep x.dat).length c) (frFd lsn ep x.dat) ∧ Same w w' := by
 have HF := (show Hid (∀ wx, Same w wx → Calls Try.prog 66 #[x.val] wx fun e w' => e = .returned (.int .i64 (recFd x.dat)) ∧ Same wx w') from fun wx (h : Same w wx) => specRec_any x wx hB hn (StLogRecord.rd.same hv h))
 have HE := hid (fun wx (h : Same w wx) => specEnc_any x wx hB hn (StLogRecord.rd.same hv h))
 have HS := hid (fun wx (h : Same w wx) => specFs_any x wx hB hn (StLogRecord.rd.same hv h))
 by_cases hy : recFd x.dat = 0 ∧ (1 ≤ lsn ∧ lsn ≤ 1099511627776) ∧ (1 ≤ ep ∧ ep ≤ 4294967295)
 ·have hRl := recBd_length hy.1
  have hRB := recBd_isB hB hy.1
  rw [frFd_yes hy]
  rw [hy.1] at HF
  rw [encFd_good hy.1] at HE
  rw [fsFd_good hy.1] at HS
  have hy2 := hy.2
  clear hy hB hn hv
  generalize recBd x.dat = R at *
  obtain ⟨kind, txn, prev, page, slot, ⟨bU, ⟨bDe, bDa, bDc, bDb⟩⟩, ⟨aU, ⟨aDe, aDa, aDc, aDb⟩⟩, uN, nT, ⟨tXe, tXa, tXn, tXc, tXb⟩, ⟨dYe, dYa, dYn, dYc, dYb⟩, ⟨iMe, iMa, iMc, iMb⟩⟩ := x
  dsimp only [StLogRecord.val, StPageRecord.val, BS.v, FR.v] at HF HE HS ⊢
  obtain ⟨⟨hl1, hl2⟩, he1, he2⟩ := hy2
  have HI1 := (show Hid (∀ wx, Calls Try.prog 74 #[.int .i64 lsn, .int .i64 1, .int .i64 1099511627776] wx fun e w' => e = .returned (.bool true) ∧ Same wx w') from fun wx => by have h := l4In_any lsn 1 1099511627776 wx; rwa [show inB lsn 1 1099511627776 = true by simp [inB]; omega] at h)
  have HI2 := (show Hid (∀ wx, Calls Try.prog 74 #[.int .i64 ep, .int .i64 1, .int .i64 4294967295] wx fun e w' => e = .returned (.bool true) ∧ Same wx w') from fun wx => by have h := l4In_any ep 1 4294967295 wx; rwa [show inB ep 1 4294967295 = true by simp [inB]; omega] at h)
  obtain ⟨HK0, HB0⟩ := new1 w [.int .i64 kind, .int .i64 txn, .int .i64 prev, .int .i64 page, .int .i64 slot, .bool bU, .slice bDa bDb.length bDc, .bool aU, .slice aDa aDb.length aDc, .int .i64 uN, .int .i64 nT, .slice tXa tXn tXc, .slice dYa dYn dYc, .slice iMa iMb.length iMc] 48
  have b0 := HB0.out
  have hzb := b0.lt
  have HSB := hid (sumB_isB (lsn := lsn) (ep := ep) hRB)
  have hsl := sumB_length lsn ep R
  have hcr := crcOn_le 0 (sumB lsn ep R) (by omega) (by omega) HSB.out
  go_enter Try.func69, Try.ntmps69
  go_wp2_with fail
  refine (HF.out _ HK0.out).mono ?_
  rintro e w1 ⟨rfl, hk⟩
  have HK1 := hid (HK0.out.trans hk)
  have b1 := b0.same hk
  clear hk
  go_wp2_with fail
  refine (HI1.out _).mono ?_
  rintro e w2 ⟨rfl, hk⟩
  have HK2 := hid (HK1.out.trans hk)
  have b2 := b1.same hk
  clear hk
  go_wp2_with fail
  refine (HI2.out _).mono ?_
  rintro e w3 ⟨rfl, hk⟩
  have HK3 := hid (HK2.out.trans hk)
  have b3 := b2.same hk
  clear hk
  go_wp2_with fail
  have hS : ((fun wx : World => wx.cell? ⟨w.heap.size, 0, none⟩ = some (.int .i64 kind) ∧ wx.cell? ⟨w.heap.size, 1, none⟩ = some (.int .i64 txn) ∧ wx.cell? ⟨w.heap.size, 2, none⟩ = some (.int .i64 prev) ∧ wx.cell? ⟨w.heap.size, 3, none⟩ = some (.int .i64 page) ∧ wx.cell? ⟨w.heap.size, 4, none⟩ = some (.int .i64 slot) ∧ wx.cell? ⟨w.heap.size, 5, none⟩ = some (.bool bU) ∧ wx.cell? ⟨w.heap.size, 6, none⟩ = some (.slice bDa bDb.length bDc) ∧ wx.cell? ⟨w.heap.size, 7, none⟩ = some (.bool aU) ∧ wx.cell? ⟨w.heap.size, 8, none⟩ = some (.slice aDa aDb.length aDc) ∧ wx.cell? ⟨w.heap.size, 9, none⟩ = some (.int .i64 uN) ∧ wx.cell? ⟨w.heap.size, 10, none⟩ = some (.int .i64 nT) ∧ wx.cell? ⟨w.heap.size, 11, none⟩ = some (.slice tXa tXn tXc) ∧ wx.cell? ⟨w.heap.size, 12, none⟩ = some (.slice dYa dYn dYc) ∧ wx.cell? ⟨w.heap.size, 13, none⟩ = some (.slice iMa iMb.length iMc))) w3.drew := by exact ⟨b3.cell 0, b3.cell 1, b3.cell 2, b3.cell 3, b3.cell 4, b3.cell 5, b3.cell 6, b3.cell 7, b3.cell 8, b3.cell 9, b3.cell 10, b3.cell 11, b3.cell 12, b3.cell 13⟩
  refine wp_region_V ((fun wx : World => wx.cell? ⟨w.heap.size, 0, none⟩ = some (.int .i64 kind) ∧ wx.cell? ⟨w.heap.size, 1, none⟩ = some (.int .i64 txn) ∧ wx.cell? ⟨w.heap.size, 2, none⟩ = some (.int .i64 prev) ∧ wx.cell? ⟨w.heap.size, 3, none⟩ = some (.int .i64 page) ∧ wx.cell? ⟨w.heap.size, 4, none⟩ = some (.int .i64 slot) ∧ wx.cell? ⟨w.heap.size, 5, none⟩ = some (.bool bU) ∧ wx.cell? ⟨w.heap.size, 6, none⟩ = some (.slice bDa bDb.length bDc) ∧ wx.cell? ⟨w.heap.size, 7, none⟩ = some (.bool aU) ∧ wx.cell? ⟨w.heap.size, 8, none⟩ = some (.slice aDa aDb.length aDc) ∧ wx.cell? ⟨w.heap.size, 9, none⟩ = some (.int .i64 uN) ∧ wx.cell? ⟨w.heap.size, 10, none⟩ = some (.int .i64 nT) ∧ wx.cell? ⟨w.heap.size, 11, none⟩ = some (.slice tXa tXn tXc) ∧ wx.cell? ⟨w.heap.size, 12, none⟩ = some (.slice dYa dYn dYc) ∧ wx.cell? ⟨w.heap.size, 13, none⟩ = some (.slice iMa iMb.length iMc))) 99 8 rfl (by kernel_rfl) ?_
  refine tk 0 22 hS ?_
  refine tk 2 24 hS ?_
  refine tk 4 26 hS ?_
  refine wpAnyV_one (i := 1) (by kernel_rfl) rfl (fun K hK => ?_)
  go_simp
  refine (specPut_any lsn 8 _ (by unfold IsI; omega) (by unfold IsI; omega)).mono ?_
  rintro e w4 ⟨a4, c4, rfl, hf, ho, hk⟩
  have HK4 := hid (HK3.out.drew.trans hk)
  have HF4 := (show Hid (∀ b, (Value.slice a4 (numB lsn 8).length c4).ownBlock = some b → w.heap.size ≤ b) from fun b hb => Nat.le_trans HK3.out.drew.size (hf b hb))
  have HF4b := (show Hid (∀ b, (Value.slice a4 (numB lsn 8).length c4).ownBlock = some b → w.heap.size + 1 ≤ b) from fun b hb => Nat.le_trans (by have := b3.lt; simp only [World.size_drew]; omega) (hf b hb))
  have HO4 := (show Hid (Own 0 5 .u8 w4 (Value.slice a4 (numB lsn 8).length c4) (numB lsn 8)) from ho)
  have b4 := b3.drew.same hk
  clear hf ho hk
  have hS : ((fun wx : World => wx.cell? ⟨w.heap.size, 0, none⟩ = some (.int .i64 kind) ∧ wx.cell? ⟨w.heap.size, 1, none⟩ = some (.int .i64 txn) ∧ wx.cell? ⟨w.heap.size, 2, none⟩ = some (.int .i64 prev) ∧ wx.cell? ⟨w.heap.size, 3, none⟩ = some (.int .i64 page) ∧ wx.cell? ⟨w.heap.size, 4, none⟩ = some (.int .i64 slot) ∧ wx.cell? ⟨w.heap.size, 5, none⟩ = some (.bool bU) ∧ wx.cell? ⟨w.heap.size, 6, none⟩ = some (.slice bDa bDb.length bDc) ∧ wx.cell? ⟨w.heap.size, 7, none⟩ = some (.bool aU) ∧ wx.cell? ⟨w.heap.size, 8, none⟩ = some (.slice aDa aDb.length aDc) ∧ wx.cell? ⟨w.heap.size, 9, none⟩ = some (.int .i64 uN) ∧ wx.cell? ⟨w.heap.size, 10, none⟩ = some (.int .i64 nT) ∧ wx.cell? ⟨w.heap.size, 11, none⟩ = some (.slice tXa tXn tXc) ∧ wx.cell? ⟨w.heap.size, 12, none⟩ = some (.slice dYa dYn dYc) ∧ wx.cell? ⟨w.heap.size, 13, none⟩ = some (.slice iMa iMb.length iMc))) w4 := by exact ⟨b4.cell 0, b4.cell 1, b4.cell 2, b4.cell 3, b4.cell 4, b4.cell 5, b4.cell 6, b4.cell 7, b4.cell 8, b4.cell 9, b4.cell 10, b4.cell 11, b4.cell 12, b4.cell 13⟩
  refine hK.out _ _ (fun _ => hS) ?_
  clear hK K
  try simp only [Act.put, sA, s0, sS]
  refine wpAnyV_one (i := 3) (by kernel_rfl) rfl (fun K hK => ?_)
  go_simp
  refine (l4Put_own _ (numB lsn 8) ep 4 _ (by unfold IsI; omega) (by unfold IsI; omega) (by have := numB_length lsn 8; omega) HO4.out).mono ?_
  rintro e w5 ⟨a5, n5, c5, rfl, hown, hg⟩
  have HK5 := hid (hg.same HK4.out HF4.out)
  have HF5 := hid (hg.fresh HK4.out HF4.out)
  have HO5 := (show Hid (Own 0 5 .u8 w5 (Value.slice a5 n5 c5) (numB lsn 8 ++ numB ep 4)) from hown)
  have b5 := b4.kept hg.kept (fun e => by have := HF4.out _ e; have := hzb; exact absurd (HF4b.out _ e) (by omega))
  have HF5b := (show Hid (∀ b, (Value.slice a5 n5 c5).ownBlock = some b → w.heap.size + 1 ≤ b) from fun b hb => (hg.own b hb).elim (fun h => by have := HF4b.out b h; omega) (fun h => by have := b4.lt; omega))
  clear hown hg
  have hS : ((fun wx : World => wx.cell? ⟨w.heap.size, 0, none⟩ = some (.int .i64 kind) ∧ wx.cell? ⟨w.heap.size, 1, none⟩ = some (.int .i64 txn) ∧ wx.cell? ⟨w.heap.size, 2, none⟩ = some (.int .i64 prev) ∧ wx.cell? ⟨w.heap.size, 3, none⟩ = some (.int .i64 page) ∧ wx.cell? ⟨w.heap.size, 4, none⟩ = some (.int .i64 slot) ∧ wx.cell? ⟨w.heap.size, 5, none⟩ = some (.bool bU) ∧ wx.cell? ⟨w.heap.size, 6, none⟩ = some (.slice bDa bDb.length bDc) ∧ wx.cell? ⟨w.heap.size, 7, none⟩ = some (.bool aU) ∧ wx.cell? ⟨w.heap.size, 8, none⟩ = some (.slice aDa aDb.length aDc) ∧ wx.cell? ⟨w.heap.size, 9, none⟩ = some (.int .i64 uN) ∧ wx.cell? ⟨w.heap.size, 10, none⟩ = some (.int .i64 nT) ∧ wx.cell? ⟨w.heap.size, 11, none⟩ = some (.slice tXa tXn tXc) ∧ wx.cell? ⟨w.heap.size, 12, none⟩ = some (.slice dYa dYn dYc) ∧ wx.cell? ⟨w.heap.size, 13, none⟩ = some (.slice iMa iMb.length iMc))) w5 := by exact ⟨b5.cell 0, b5.cell 1, b5.cell 2, b5.cell 3, b5.cell 4, b5.cell 5, b5.cell 6, b5.cell 7, b5.cell 8, b5.cell 9, b5.cell 10, b5.cell 11, b5.cell 12, b5.cell 13⟩
  refine hK.out _ _ (fun _ => hS) ?_
  clear hK K
  try simp only [Act.put, sA, s0, sS]
  refine wpAnyV_one (i := 5) (by kernel_rfl) rfl (fun K hK => ?_)
  go_simp
  refine (HE.out _ HK5.out).mono ?_
  rintro e w6 ⟨a6, c6, rfl, hf, ho, hk⟩
  have HR6 := (show Hid (Rd .u8 w6 (.slice a6 R.length c6) R) from ho.rd)
  have HK6 := hid (HK5.out.trans hk)
  have HO6 := hid (HO5.out.same hk)
  have b6 := b5.same hk
  clear hf ho hk
  have hS : ((fun wx : World => wx.cell? ⟨w.heap.size, 0, none⟩ = some (.int .i64 kind) ∧ wx.cell? ⟨w.heap.size, 1, none⟩ = some (.int .i64 txn) ∧ wx.cell? ⟨w.heap.size, 2, none⟩ = some (.int .i64 prev) ∧ wx.cell? ⟨w.heap.size, 3, none⟩ = some (.int .i64 page) ∧ wx.cell? ⟨w.heap.size, 4, none⟩ = some (.int .i64 slot) ∧ wx.cell? ⟨w.heap.size, 5, none⟩ = some (.bool bU) ∧ wx.cell? ⟨w.heap.size, 6, none⟩ = some (.slice bDa bDb.length bDc) ∧ wx.cell? ⟨w.heap.size, 7, none⟩ = some (.bool aU) ∧ wx.cell? ⟨w.heap.size, 8, none⟩ = some (.slice aDa aDb.length aDc) ∧ wx.cell? ⟨w.heap.size, 9, none⟩ = some (.int .i64 uN) ∧ wx.cell? ⟨w.heap.size, 10, none⟩ = some (.int .i64 nT) ∧ wx.cell? ⟨w.heap.size, 11, none⟩ = some (.slice tXa tXn tXc) ∧ wx.cell? ⟨w.heap.size, 12, none⟩ = some (.slice dYa dYn dYc) ∧ wx.cell? ⟨w.heap.size, 13, none⟩ = some (.slice iMa iMb.length iMc))) w6 := by exact ⟨b6.cell 0, b6.cell 1, b6.cell 2, b6.cell 3, b6.cell 4, b6.cell 5, b6.cell 6, b6.cell 7, b6.cell 8, b6.cell 9, b6.cell 10, b6.cell 11, b6.cell 12, b6.cell 13⟩
  refine hK.out _ _ (fun _ => hS) ?_
  clear hK K
  try simp only [Act.put, sA, s0, sS]
  refine wpAnyV_one (i := 6) (by kernel_rfl) rfl (fun K hK => ?_)
  refine step_app (by rfl) (.tmp 25) (.tmp 27) (by rfl) (.slice a5 n5 c5) (.slice a6 R.length c6) (numB lsn 8 ++ numB ep 4) R (by rfl) (by rfl) HO6.out HR6.out (by have := numB_length lsn 8; have := numB_length ep 4; rw [List.length_append]; omega) ?_
  intro a7 n7 c7 w7 hown hg
  have HO7 := (show Hid (Own 0 5 .u8 w7 (Value.slice a7 n7 c7) (sumB lsn ep R)) from hown)
  have HK7 := hid (hg.same HK6.out HF5.out)
  have HF7 := hid (hg.fresh HK6.out HF5.out)
  have b7 := b6.kept hg.kept (fun e => by have := HF5b.out _ e; omega)
  clear hown hg
  have hS : ((fun wx : World => wx.cell? ⟨w.heap.size, 0, none⟩ = some (.int .i64 kind) ∧ wx.cell? ⟨w.heap.size, 1, none⟩ = some (.int .i64 txn) ∧ wx.cell? ⟨w.heap.size, 2, none⟩ = some (.int .i64 prev) ∧ wx.cell? ⟨w.heap.size, 3, none⟩ = some (.int .i64 page) ∧ wx.cell? ⟨w.heap.size, 4, none⟩ = some (.int .i64 slot) ∧ wx.cell? ⟨w.heap.size, 5, none⟩ = some (.bool bU) ∧ wx.cell? ⟨w.heap.size, 6, none⟩ = some (.slice bDa bDb.length bDc) ∧ wx.cell? ⟨w.heap.size, 7, none⟩ = some (.bool aU) ∧ wx.cell? ⟨w.heap.size, 8, none⟩ = some (.slice aDa aDb.length aDc) ∧ wx.cell? ⟨w.heap.size, 9, none⟩ = some (.int .i64 uN) ∧ wx.cell? ⟨w.heap.size, 10, none⟩ = some (.int .i64 nT) ∧ wx.cell? ⟨w.heap.size, 11, none⟩ = some (.slice tXa tXn tXc) ∧ wx.cell? ⟨w.heap.size, 12, none⟩ = some (.slice dYa dYn dYc) ∧ wx.cell? ⟨w.heap.size, 13, none⟩ = some (.slice iMa iMb.length iMc))) w7 := by exact ⟨b7.cell 0, b7.cell 1, b7.cell 2, b7.cell 3, b7.cell 4, b7.cell 5, b7.cell 6, b7.cell 7, b7.cell 8, b7.cell 9, b7.cell 10, b7.cell 11, b7.cell 12, b7.cell 13⟩
  refine hK.out _ _ (fun _ => hS) ?_
  clear hK K
  try simp only [Act.put, sA, s0, sS]
  refine tk 7 7 hS ?_
  refine wpAnyV_done (by kernel_rfl) ?_
  obtain ⟨d7_0, d7_1, d7_2, d7_3, d7_4, d7_5, d7_6, d7_7, d7_8, d7_9, d7_10, d7_11, d7_12, d7_13⟩ := b7.all14
  go_wp2_with fail
  refine (HS.out _ HK7.out).mono ?_
  rintro e w8 ⟨rfl, hk⟩
  have HK8 := hid (HK7.out.trans hk)
  have HO8 := hid (HO7.out.same hk)
  clear hk
  go_wp2_with fail
  refine (specPut_any (20 + (R.length : Int)) 4 _ (by unfold IsI; omega) (by unfold IsI; omega)).mono ?_
  rintro e w9 ⟨a9, c9, rfl, hf, ho, hk⟩
  have HK9 := hid (HK8.out.trans hk)
  have HF9 := (show Hid (∀ b, (Value.slice a9 (numB (20 + (R.length : Int)) 4).length c9).ownBlock = some b → w.heap.size ≤ b) from fun b hb => Nat.le_trans HK8.out.size (hf b hb))
  have HO9 := (show Hid (Own 0 5 .u8 w9 (Value.slice a9 (numB (20 + (R.length : Int)) 4).length c9) (numB (20 + (R.length : Int)) 4)) from ho)
  have HP9 := hid (HO8.out.same hk)
  have HD9 := (show Hid (∀ b, (Value.slice a9 (numB (20 + (R.length : Int)) 4).length c9).ownBlock = some b → ¬ (Value.slice a7 n7 c7).ownBlock = some b) from fun b h1 h2 => by have := hf b h1; have := (HO8.out.lt b h2).2; omega)
  clear hf ho hk
  go_wp2_with fail
  refine (specCrc_any _ (sumB lsn ep R) _ HSB.out (by omega) HP9.out.rd).mono ?_
  rintro e w10 ⟨rfl, hk⟩
  have HK10 := hid (HK9.out.trans hk)
  have HO10 := hid (HO9.out.same hk)
  have HP10 := hid (HP9.out.same hk)
  clear hk
  go_wp2_with fail
  refine (l4Put_own _ (numB (20 + (R.length : Int)) 4) (crcOn 0 (sumB lsn ep R)) 4 _ (by unfold IsI; omega) (by unfold IsI; omega) (by have := numB_length (20 + (R.length : Int)) 4; omega) HO10.out).mono ?_
  rintro e w11 ⟨a11, n11, c11, rfl, hown, hg⟩
  have HK11 := hid (hg.same HK10.out HF9.out)
  have HF11 := hid (hg.fresh HK10.out HF9.out)
  have HO11 := (show Hid (Own 0 5 .u8 w11 (Value.slice a11 n11 c11) (numB (20 + (R.length : Int)) 4 ++ numB (crcOn 0 (sumB lsn ep R)) 4)) from hown)
  have HP11 := (show Hid (Own 0 5 .u8 w11 (Value.slice a7 n7 c7) (sumB lsn ep R)) from HP10.out.kept hg.kept (fun b h1 h2 => HD9.out b h2 h1))
  clear hown hg
  have hl11 : (numB (20 + (R.length : Int)) 4 ++ numB (crcOn 0 (sumB lsn ep R)) 4).length ≤ 16 := by have := numB_length (20 + (R.length : Int)) 4; have := numB_length (crcOn 0 (sumB lsn ep R)) 4; rw [List.length_append]; omega
  go_wp2_with (at_builtin; go_loud (refine wpList_app rfl (.tmp 34) (.tmp 35) rfl (.slice a11 n11 c11) (.slice a7 n7 c7) _ (sumB lsn ep R) rfl rfl HO11.out HP11.out.rd (by omega) ?_); intro a12 n12 c12 w12 hown hg; have HO12 := (show Hid (Own 0 5 .u8 w12 (Value.slice a12 n12 c12) (frB lsn ep R)) from hown); have HK12 := hid (hg.same HK11.out HF11.out); have HF12 := hid (hg.fresh HK11.out HF11.out); clear hown hg)
  go_ret
  obtain rfl := HO12.out.sized
  exact ⟨_, _, rfl, HF12.out, HO12.out, HK12.out⟩
 ·rw [frFd_no hy]
  have hor : recFd x.dat ≠ 0 ∨ (recFd x.dat = 0 ∧ ¬ (1 ≤ lsn ∧ lsn ≤ 1099511627776)) ∨ (recFd x.dat = 0 ∧ (1 ≤ lsn ∧ lsn ≤ 1099511627776) ∧ ¬ (1 ≤ ep ∧ ep ≤ 4294967295)) := by by_cases h : recFd x.dat = 0; by_cases h2 : (1 ≤ lsn ∧ lsn ≤ 1099511627776); exact .inr (.inr ⟨h, h2, fun h3 => hy ⟨h, h2, h3⟩⟩); exact .inr (.inl ⟨h, h2⟩); exact .inl h
  clear hy hB hn hv HE HS
  generalize recFd x.dat = r at *
  obtain ⟨kind, txn, prev, page, slot, ⟨bU, ⟨bDe, bDa, bDc, bDb⟩⟩, ⟨aU, ⟨aDe, aDa, aDc, aDb⟩⟩, uN, nT, ⟨tXe, tXa, tXn, tXc, tXb⟩, ⟨dYe, dYa, dYn, dYc, dYb⟩, ⟨iMe, iMa, iMc, iMb⟩⟩ := x
  dsimp only [StLogRecord.val, StPageRecord.val, BS.v, FR.v] at HF ⊢
  have HK0 := hid (sameA w [.int .i64 kind, .int .i64 txn, .int .i64 prev, .int .i64 page, .int .i64 slot, .bool bU, .slice bDa bDb.length bDc, .bool aU, .slice aDa aDb.length aDc, .int .i64 uN, .int .i64 nT, .slice tXa tXn tXc, .slice dYa dYn dYc, .slice iMa iMb.length iMc] 48)
  have HI1 := hid (fun wx => l4In_any lsn 1 1099511627776 wx)
  have HI2 := hid (fun wx => l4In_any ep 1 4294967295 wx)
  rcases hor with hr | ⟨rfl, hc⟩ | ⟨rfl, hc, hc2⟩
  ·go_enter Try.func69, Try.ntmps69
   go_wp2_with fail
   refine (HF.out _ HK0.out).mono ?_
   rintro e wz ⟨rfl, hk⟩
   have HKz := hid (HK0.out.trans hk)
   clear hk
   go_wp2
   go_ret
   exact ⟨_, _, rfl, fun b hb => (by have := HKz.out.size; have hb : wz.heap.size = b := (by simpa [Value.ownBlock] using hb); omega), Own.empty _ _, HKz.out.alloc _⟩
  ·go_enter Try.func69, Try.ntmps69
   go_wp2_with fail
   refine (HF.out _ HK0.out).mono ?_
   rintro e w1 ⟨rfl, hk⟩
   have HK1 := hid (HK0.out.trans hk)
   clear hk
   rw [show inB lsn 1 1099511627776 = false by simp [inB]; omega] at HI1
   go_wp2_with fail
   refine (HI1.out _).mono ?_
   rintro e wz ⟨rfl, hk⟩
   have HKz := hid (HK1.out.trans hk)
   clear hk
   go_wp2
   go_ret
   exact ⟨_, _, rfl, fun b hb => (by have := HKz.out.size; have hb : wz.heap.size = b := (by simpa [Value.ownBlock] using hb); omega), Own.empty _ _, HKz.out.alloc _⟩
  ·go_enter Try.func69, Try.ntmps69
   go_wp2_with fail
   refine (HF.out _ HK0.out).mono ?_
   rintro e w1 ⟨rfl, hk⟩
   have HK1 := hid (HK0.out.trans hk)
   clear hk
   rw [show inB lsn 1 1099511627776 = true by simp [inB]; omega] at HI1
   go_wp2_with fail
   refine (HI1.out _).mono ?_
   rintro e w2 ⟨rfl, hk⟩
   have HK2 := hid (HK1.out.trans hk)
   clear hk
   rw [show inB ep 1 4294967295 = false by simp [inB]; omega] at HI2
   go_wp2_with fail
   refine (HI2.out _).mono ?_
   rintro e wz ⟨rfl, hk⟩
   have HKz := hid (HK2.out.trans hk)
   clear hk
   go_wp2
   go_ret
   exact ⟨_, _, rfl, fun b hb => (by have := HKz.out.size; have hb : wz.heap.size = b := (by simpa [Value.ownBlock] using hb); omega), Own.empty _ _, HKz.out.alloc _⟩
end Go.Proofs.Ytcldagphkpkdpaa
