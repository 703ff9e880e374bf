import Derived.Test.YtdgmecmkkddpeaaGreatG19
import Derived.Test.YtdgmecmkkddpeaaGreatEncTyped
namespace Go.Proofs.YtdgmecmkkddpeaaGreat
set_option maxRecDepth 100000
set_option maxHeartbeats 4000000
set_option linter.unusedVariables false
set_option linter.unusedSimpArgs false
open Go.RowKit
theorem encI_1 (x : StLogRecord) (w : World) (hB : x.isB) (hn : x.szs ≤ 1073741824) (hv : StLogRecord.rd w x) (hk : x.kind = 1) (hz : recFd x.dat = 0) :
  Calls Tryz.prog 28 #[x.val] w fun e w' => ∃ aa nn cc, e = .returned (.slice aa nn cc) ∧ Own 0 5 .u8 w' (.slice aa nn cc) (recBd x.dat) ∧ (∀ b, (Value.slice aa nn cc).ownBlock = some b → w.heap.size ≤ b) ∧ Same w w' := by
 have HRES := (show Hid (recFd x.dat = 0) from hz)
 have HF := (show Hid (∀ wx, Same w wx → _) from fun wx (h : Same w wx) => implRec_any x wx hB hn (StLogRecord.rd.same hv h))
 obtain ⟨kind, txn, prev, page, slot, ⟨bU, ⟨bDe, bDa, bDc, bDb⟩⟩, ⟨aU, ⟨aDe, aDa, aDc, aDb⟩⟩, uN, nT, ⟨tXe, tXa, tXn, tXc, tXb⟩, ⟨dYe, dYa, dYn, dYc, dYb⟩, ⟨iMe, iMa, iMc, iMb⟩⟩ := x
 obtain ⟨hvb, hva, hvt, hvd, hvi⟩ := hv
 have HRB := (show Hid (Rd .u8 w (.slice bDa bDb.length bDc) bDb) from hvb)
 have HRA := (show Hid (Rd .u8 w (.slice aDa aDb.length aDc) aDb) from hva)
 have HRI := (show Hid (Rd .u8 w (.slice iMa iMb.length iMc) iMb) from hvi)
 have HRT := (show Hid (RdF 4 w ⟨tXe, tXa, tXn, tXc, tXb⟩) from hvt)
 have HRD := (show Hid (RdF 2 w ⟨dYe, dYa, dYn, dYc, dYb⟩) from hvd)
 dsimp only at hk
 subst hk
 have hg := (show recF 1 txn prev page slot bU bDb aU aDb uN nT tXb dYb iMb = 0 from hz)
 obtain ⟨⟨hh1, hh2⟩, ⟨hp1, hp2⟩, hb1, hb2⟩ := good1 hg
 have hwz : recBd (StLogRecord.dat ⟨1, txn, prev, page, slot, ⟨bU, ⟨bDe, bDa, bDc, bDb⟩⟩, ⟨aU, ⟨aDe, aDa, aDc, aDb⟩⟩, uN, nT, ⟨tXe, tXa, tXn, tXc, tXb⟩, ⟨dYe, dYa, dYn, dYc, dYb⟩, ⟨iMe, iMa, iMc, iMb⟩⟩) = headR 1 txn prev ++ (((numB page 2 ++ numB slot 2) ++ partB bU bDb) ++ partB aU aDb) := by simp [recBd, recBy, StLogRecord.dat, StPageRecord.dat]
 have HWZ := hid hwz
 clear hwz
 clear hz hB hn hvb hva hvt hvd hvi hg
 rw [HWZ.out]
 have HF1 := HF.out _ ((Kept.refl _ _).alloc (.cells #[.int .i64 1, .int .i64 txn, .int .i64 prev, .int .i64 page, .int .i64 slot, .bool bU, .slice bDa bDb.length bDc, .bool aU, .slice aDa aDb.length aDc, .int .i64 uN, .int .i64 nT, .slice tXa tXn tXc, .slice dYa dYn dYc, .slice iMa iMb.length iMc] 35))
 rw [HRES.out] at HF1
 dsimp only [StLogRecord.val, StPageRecord.val, BS.v, FR.v] at HF1 ⊢
 have b0 := Blk.newL w [.int .i64 1, .int .i64 txn, .int .i64 prev, .int .i64 page, .int .i64 slot, .bool bU, .slice bDa bDb.length bDc, .bool aU, .slice aDa aDb.length aDc, .int .i64 uN, .int .i64 nT, .slice tXa tXn tXc, .slice dYa dYn dYc, .slice iMa iMb.length iMc] 35
 have HK0 := hid (sameA w [.int .i64 1, .int .i64 txn, .int .i64 prev, .int .i64 page, .int .i64 slot, .bool bU, .slice bDa bDb.length bDc, .bool aU, .slice aDa aDb.length aDc, .int .i64 uN, .int .i64 nT, .slice tXa tXn tXc, .slice dYa dYn dYc, .slice iMa iMb.length iMc] 35)
 clear HRES HF HWZ
 go_enter Tryz.func28, Tryz.ntmps28
 go_wp2_with fail
 refine HF1.mono ?_
 rintro e w1 ⟨rfl, hk1⟩
 have HK1 := hid (HK0.out.trans hk1)
 have b1 := b0.same hk1
 clear hk1 HF1 b0
 obtain ⟨d0, d1, d2, d3, d4, d5, d6, d7, d8, d9, d10, d11, d12, d13⟩ := b1.all14
 go_wp2_with fail
 refine (typeRecord_1 txn prev page slot bU bDa bDb.length bDc aU aDa aDb.length aDc uN nT tXa tXn tXc dYa dYn dYc iMa iMb.length iMc _).mono ?_
 rintro e w2 ⟨rfl, hk2⟩
 have HK2 := hid (HK1.out.trans hk2)
 clear hk2
 go_wp2_with fail
 refine (encTyped_1 txn prev page slot bU bDa bDc bDb aU aDa aDc aDb _ (by omega) (by omega) (by unfold IsI; omega) (by unfold IsI; omega) hb1 hb2 (HRB.out.same HK2.out) (HRA.out.same HK2.out)).mono ?_
 rintro e w3 ⟨a3, n3, c3, rfl, hown, hf, hk3⟩
 have HO3 := (show Hid (Own 0 5 .u8 w3 (.slice a3 n3 c3) (headR 1 txn prev ++ (((numB page 2 ++ numB slot 2) ++ partB bU bDb) ++ partB aU aDb))) from hown)
 have HF3 := (show Hid (∀ b, (Value.slice a3 n3 c3).ownBlock = some b → w.heap.size ≤ b) from fun b hb => Nat.le_trans HK2.out.size (hf b hb))
 have HK3 := hid (HK2.out.trans hk3)
 clear hown hf hk3
 go_wp2
 go_ret
 exact ⟨_, _, _, rfl, HO3.out, HF3.out, HK3.out⟩
theorem encI_2 (x : StLogRecord) (w : World) (hB : x.isB) (hn : x.szs ≤ 1073741824) (hv : StLogRecord.rd w x) (hk : x.kind = 2) (hz : recFd x.dat = 0) :
  Calls Tryz.prog 28 #[x.val] w fun e w' => ∃ aa nn cc, e = .returned (.slice aa nn cc) ∧ Own 0 5 .u8 w' (.slice aa nn cc) (recBd x.dat) ∧ (∀ b, (Value.slice aa nn cc).ownBlock = some b → w.heap.size ≤ b) ∧ Same w w' := by
 have HRES := (show Hid (recFd x.dat = 0) from hz)
 have HF := (show Hid (∀ wx, Same w wx → _) from fun wx (h : Same w wx) => implRec_any x wx hB hn (StLogRecord.rd.same hv h))
 obtain ⟨kind, txn, prev, page, slot, ⟨bU, ⟨bDe, bDa, bDc, bDb⟩⟩, ⟨aU, ⟨aDe, aDa, aDc, aDb⟩⟩, uN, nT, ⟨tXe, tXa, tXn, tXc, tXb⟩, ⟨dYe, dYa, dYn, dYc, dYb⟩, ⟨iMe, iMa, iMc, iMb⟩⟩ := x
 obtain ⟨hvb, hva, hvt, hvd, hvi⟩ := hv
 have HRB := (show Hid (Rd .u8 w (.slice bDa bDb.length bDc) bDb) from hvb)
 have HRA := (show Hid (Rd .u8 w (.slice aDa aDb.length aDc) aDb) from hva)
 have HRI := (show Hid (Rd .u8 w (.slice iMa iMb.length iMc) iMb) from hvi)
 have HRT := (show Hid (RdF 4 w ⟨tXe, tXa, tXn, tXc, tXb⟩) from hvt)
 have HRD := (show Hid (RdF 2 w ⟨dYe, dYa, dYn, dYc, dYb⟩) from hvd)
 dsimp only at hk
 subst hk
 have hg := (show recF 2 txn prev page slot bU bDb aU aDb uN nT tXb dYb iMb = 0 from hz)
 obtain ⟨⟨hh1, hh2⟩, ⟨hp1, hp2⟩, hb1, hb2⟩ := good2 hg
 have hwz : recBd (StLogRecord.dat ⟨2, txn, prev, page, slot, ⟨bU, ⟨bDe, bDa, bDc, bDb⟩⟩, ⟨aU, ⟨aDe, aDa, aDc, aDb⟩⟩, uN, nT, ⟨tXe, tXa, tXn, tXc, tXb⟩, ⟨dYe, dYa, dYn, dYc, dYb⟩, ⟨iMe, iMa, iMc, iMb⟩⟩) = headR 2 txn prev ++ (((numB page 2 ++ numB slot 2) ++ partB aU aDb) ++ numB uN 8) := by simp [recBd, recBy, StLogRecord.dat, StPageRecord.dat]
 have HWZ := hid hwz
 clear hwz
 clear hz hB hn hvb hva hvt hvd hvi hg
 rw [HWZ.out]
 have HF1 := HF.out _ ((Kept.refl _ _).alloc (.cells #[.int .i64 2, .int .i64 txn, .int .i64 prev, .int .i64 page, .int .i64 slot, .bool bU, .slice bDa bDb.length bDc, .bool aU, .slice aDa aDb.length aDc, .int .i64 uN, .int .i64 nT, .slice tXa tXn tXc, .slice dYa dYn dYc, .slice iMa iMb.length iMc] 35))
 rw [HRES.out] at HF1
 dsimp only [StLogRecord.val, StPageRecord.val, BS.v, FR.v] at HF1 ⊢
 have b0 := Blk.newL w [.int .i64 2, .int .i64 txn, .int .i64 prev, .int .i64 page, .int .i64 slot, .bool bU, .slice bDa bDb.length bDc, .bool aU, .slice aDa aDb.length aDc, .int .i64 uN, .int .i64 nT, .slice tXa tXn tXc, .slice dYa dYn dYc, .slice iMa iMb.length iMc] 35
 have HK0 := hid (sameA w [.int .i64 2, .int .i64 txn, .int .i64 prev, .int .i64 page, .int .i64 slot, .bool bU, .slice bDa bDb.length bDc, .bool aU, .slice aDa aDb.length aDc, .int .i64 uN, .int .i64 nT, .slice tXa tXn tXc, .slice dYa dYn dYc, .slice iMa iMb.length iMc] 35)
 clear HRES HF HWZ
 go_enter Tryz.func28, Tryz.ntmps28
 go_wp2_with fail
 refine HF1.mono ?_
 rintro e w1 ⟨rfl, hk1⟩
 have HK1 := hid (HK0.out.trans hk1)
 have b1 := b0.same hk1
 clear hk1 HF1 b0
 obtain ⟨d0, d1, d2, d3, d4, d5, d6, d7, d8, d9, d10, d11, d12, d13⟩ := b1.all14
 go_wp2_with fail
 refine (typeRecord_2 txn prev page slot bU bDa bDb.length bDc aU aDa aDb.length aDc uN nT tXa tXn tXc dYa dYn dYc iMa iMb.length iMc _).mono ?_
 rintro e w2 ⟨rfl, hk2⟩
 have HK2 := hid (HK1.out.trans hk2)
 clear hk2
 go_wp2_with fail
 refine (encTyped_2 txn prev page slot aU aDa aDc aDb uN _ (by omega) (by omega) (by unfold IsI; omega) (by unfold IsI; omega) (by unfold IsI; omega) hb1 (HRA.out.same HK2.out)).mono ?_
 rintro e w3 ⟨a3, n3, c3, rfl, hown, hf, hk3⟩
 have HO3 := (show Hid (Own 0 5 .u8 w3 (.slice a3 n3 c3) (headR 2 txn prev ++ (((numB page 2 ++ numB slot 2) ++ partB aU aDb) ++ numB uN 8))) from hown)
 have HF3 := (show Hid (∀ b, (Value.slice a3 n3 c3).ownBlock = some b → w.heap.size ≤ b) from fun b hb => Nat.le_trans HK2.out.size (hf b hb))
 have HK3 := hid (HK2.out.trans hk3)
 clear hown hf hk3
 go_wp2
 go_ret
 exact ⟨_, _, _, rfl, HO3.out, HF3.out, HK3.out⟩
theorem encI_3 (x : StLogRecord) (w : World) (hB : x.isB) (hn : x.szs ≤ 1073741824) (hv : StLogRecord.rd w x) (hk : x.kind = 3) (hz : recFd x.dat = 0) :
  Calls Tryz.prog 28 #[x.val] w fun e w' => ∃ aa nn cc, e = .returned (.slice aa nn cc) ∧ Own 0 5 .u8 w' (.slice aa nn cc) (recBd x.dat) ∧ (∀ b, (Value.slice aa nn cc).ownBlock = some b → w.heap.size ≤ b) ∧ Same w w' := by
 have HRES := (show Hid (recFd x.dat = 0) from hz)
 have HF := (show Hid (∀ wx, Same w wx → _) from fun wx (h : Same w wx) => implRec_any x wx hB hn (StLogRecord.rd.same hv h))
 obtain ⟨kind, txn, prev, page, slot, ⟨bU, ⟨bDe, bDa, bDc, bDb⟩⟩, ⟨aU, ⟨aDe, aDa, aDc, aDb⟩⟩, uN, nT, ⟨tXe, tXa, tXn, tXc, tXb⟩, ⟨dYe, dYa, dYn, dYc, dYb⟩, ⟨iMe, iMa, iMc, iMb⟩⟩ := x
 obtain ⟨hvb, hva, hvt, hvd, hvi⟩ := hv
 have HRB := (show Hid (Rd .u8 w (.slice bDa bDb.length bDc) bDb) from hvb)
 have HRA := (show Hid (Rd .u8 w (.slice aDa aDb.length aDc) aDb) from hva)
 have HRI := (show Hid (Rd .u8 w (.slice iMa iMb.length iMc) iMb) from hvi)
 have HRT := (show Hid (RdF 4 w ⟨tXe, tXa, tXn, tXc, tXb⟩) from hvt)
 have HRD := (show Hid (RdF 2 w ⟨dYe, dYa, dYn, dYc, dYb⟩) from hvd)
 dsimp only at hk
 subst hk
 have hg := (show recF 3 txn prev page slot bU bDb aU aDb uN nT tXb dYb iMb = 0 from hz)
 obtain ⟨hh1, hh2⟩ := good3 hg
 have hwz : recBd (StLogRecord.dat ⟨3, txn, prev, page, slot, ⟨bU, ⟨bDe, bDa, bDc, bDb⟩⟩, ⟨aU, ⟨aDe, aDa, aDc, aDb⟩⟩, uN, nT, ⟨tXe, tXa, tXn, tXc, tXb⟩, ⟨dYe, dYa, dYn, dYc, dYb⟩, ⟨iMe, iMa, iMc, iMb⟩⟩) = headR 3 txn prev ++ ([]) := by simp [recBd, recBy, StLogRecord.dat, StPageRecord.dat]
 have HWZ := hid hwz
 clear hwz
 clear hz hB hn hvb hva hvt hvd hvi hg
 rw [HWZ.out]
 have HF1 := HF.out _ ((Kept.refl _ _).alloc (.cells #[.int .i64 3, .int .i64 txn, .int .i64 prev, .int .i64 page, .int .i64 slot, .bool bU, .slice bDa bDb.length bDc, .bool aU, .slice aDa aDb.length aDc, .int .i64 uN, .int .i64 nT, .slice tXa tXn tXc, .slice dYa dYn dYc, .slice iMa iMb.length iMc] 35))
 rw [HRES.out] at HF1
 dsimp only [StLogRecord.val, StPageRecord.val, BS.v, FR.v] at HF1 ⊢
 have b0 := Blk.newL w [.int .i64 3, .int .i64 txn, .int .i64 prev, .int .i64 page, .int .i64 slot, .bool bU, .slice bDa bDb.length bDc, .bool aU, .slice aDa aDb.length aDc, .int .i64 uN, .int .i64 nT, .slice tXa tXn tXc, .slice dYa dYn dYc, .slice iMa iMb.length iMc] 35
 have HK0 := hid (sameA w [.int .i64 3, .int .i64 txn, .int .i64 prev, .int .i64 page, .int .i64 slot, .bool bU, .slice bDa bDb.length bDc, .bool aU, .slice aDa aDb.length aDc, .int .i64 uN, .int .i64 nT, .slice tXa tXn tXc, .slice dYa dYn dYc, .slice iMa iMb.length iMc] 35)
 clear HRES HF HWZ
 go_enter Tryz.func28, Tryz.ntmps28
 go_wp2_with fail
 refine HF1.mono ?_
 rintro e w1 ⟨rfl, hk1⟩
 have HK1 := hid (HK0.out.trans hk1)
 have b1 := b0.same hk1
 clear hk1 HF1 b0
 obtain ⟨d0, d1, d2, d3, d4, d5, d6, d7, d8, d9, d10, d11, d12, d13⟩ := b1.all14
 go_wp2_with fail
 refine (typeRecord_3 txn prev page slot bU bDa bDb.length bDc aU aDa aDb.length aDc uN nT tXa tXn tXc dYa dYn dYc iMa iMb.length iMc _).mono ?_
 rintro e w2 ⟨rfl, hk2⟩
 have HK2 := hid (HK1.out.trans hk2)
 clear hk2
 go_wp2_with fail
 refine (encTyped_3 txn prev _ (by omega) (by omega)).mono ?_
 rintro e w3 ⟨a3, n3, c3, rfl, hown, hf, hk3⟩
 have HO3 := (show Hid (Own 0 5 .u8 w3 (.slice a3 n3 c3) (headR 3 txn prev ++ ([]))) from hown)
 have HF3 := (show Hid (∀ b, (Value.slice a3 n3 c3).ownBlock = some b → w.heap.size ≤ b) from fun b hb => Nat.le_trans HK2.out.size (hf b hb))
 have HK3 := hid (HK2.out.trans hk3)
 clear hown hf hk3
 go_wp2
 go_ret
 exact ⟨_, _, _, rfl, HO3.out, HF3.out, HK3.out⟩
theorem encI_4 (x : StLogRecord) (w : World) (hB : x.isB) (hn : x.szs ≤ 1073741824) (hv : StLogRecord.rd w x) (hk : x.kind = 4) (hz : recFd x.dat = 0) :
  Calls Tryz.prog 28 #[x.val] w fun e w' => ∃ aa nn cc, e = .returned (.slice aa nn cc) ∧ Own 0 5 .u8 w' (.slice aa nn cc) (recBd x.dat) ∧ (∀ b, (Value.slice aa nn cc).ownBlock = some b → w.heap.size ≤ b) ∧ Same w w' := by
 have HRES := (show Hid (recFd x.dat = 0) from hz)
 have HF := (show Hid (∀ wx, Same w wx → _) from fun wx (h : Same w wx) => implRec_any x wx hB hn (StLogRecord.rd.same hv h))
 obtain ⟨kind, txn, prev, page, slot, ⟨bU, ⟨bDe, bDa, bDc, bDb⟩⟩, ⟨aU, ⟨aDe, aDa, aDc, aDb⟩⟩, uN, nT, ⟨tXe, tXa, tXn, tXc, tXb⟩, ⟨dYe, dYa, dYn, dYc, dYb⟩, ⟨iMe, iMa, iMc, iMb⟩⟩ := x
 obtain ⟨hvb, hva, hvt, hvd, hvi⟩ := hv
 have HRB := (show Hid (Rd .u8 w (.slice bDa bDb.length bDc) bDb) from hvb)
 have HRA := (show Hid (Rd .u8 w (.slice aDa aDb.length aDc) aDb) from hva)
 have HRI := (show Hid (Rd .u8 w (.slice iMa iMb.length iMc) iMb) from hvi)
 have HRT := (show Hid (RdF 4 w ⟨tXe, tXa, tXn, tXc, tXb⟩) from hvt)
 have HRD := (show Hid (RdF 2 w ⟨dYe, dYa, dYn, dYc, dYb⟩) from hvd)
 dsimp only at hk
 subst hk
 have hg := (show recF 4 txn prev page slot bU bDb aU aDb uN nT tXb dYb iMb = 0 from hz)
 obtain ⟨hh1, hh2⟩ := good4 hg
 have hwz : recBd (StLogRecord.dat ⟨4, txn, prev, page, slot, ⟨bU, ⟨bDe, bDa, bDc, bDb⟩⟩, ⟨aU, ⟨aDe, aDa, aDc, aDb⟩⟩, uN, nT, ⟨tXe, tXa, tXn, tXc, tXb⟩, ⟨dYe, dYa, dYn, dYc, dYb⟩, ⟨iMe, iMa, iMc, iMb⟩⟩) = headR 4 txn prev ++ ([]) := by simp [recBd, recBy, StLogRecord.dat, StPageRecord.dat]
 have HWZ := hid hwz
 clear hwz
 clear hz hB hn hvb hva hvt hvd hvi hg
 rw [HWZ.out]
 have HF1 := HF.out _ ((Kept.refl _ _).alloc (.cells #[.int .i64 4, .int .i64 txn, .int .i64 prev, .int .i64 page, .int .i64 slot, .bool bU, .slice bDa bDb.length bDc, .bool aU, .slice aDa aDb.length aDc, .int .i64 uN, .int .i64 nT, .slice tXa tXn tXc, .slice dYa dYn dYc, .slice iMa iMb.length iMc] 35))
 rw [HRES.out] at HF1
 dsimp only [StLogRecord.val, StPageRecord.val, BS.v, FR.v] at HF1 ⊢
 have b0 := Blk.newL w [.int .i64 4, .int .i64 txn, .int .i64 prev, .int .i64 page, .int .i64 slot, .bool bU, .slice bDa bDb.length bDc, .bool aU, .slice aDa aDb.length aDc, .int .i64 uN, .int .i64 nT, .slice tXa tXn tXc, .slice dYa dYn dYc, .slice iMa iMb.length iMc] 35
 have HK0 := hid (sameA w [.int .i64 4, .int .i64 txn, .int .i64 prev, .int .i64 page, .int .i64 slot, .bool bU, .slice bDa bDb.length bDc, .bool aU, .slice aDa aDb.length aDc, .int .i64 uN, .int .i64 nT, .slice tXa tXn tXc, .slice dYa dYn dYc, .slice iMa iMb.length iMc] 35)
 clear HRES HF HWZ
 go_enter Tryz.func28, Tryz.ntmps28
 go_wp2_with fail
 refine HF1.mono ?_
 rintro e w1 ⟨rfl, hk1⟩
 have HK1 := hid (HK0.out.trans hk1)
 have b1 := b0.same hk1
 clear hk1 HF1 b0
 obtain ⟨d0, d1, d2, d3, d4, d5, d6, d7, d8, d9, d10, d11, d12, d13⟩ := b1.all14
 go_wp2_with fail
 refine (typeRecord_4 txn prev page slot bU bDa bDb.length bDc aU aDa aDb.length aDc uN nT tXa tXn tXc dYa dYn dYc iMa iMb.length iMc _).mono ?_
 rintro e w2 ⟨rfl, hk2⟩
 have HK2 := hid (HK1.out.trans hk2)
 clear hk2
 go_wp2_with fail
 refine (encTyped_4 txn prev _ (by omega) (by omega)).mono ?_
 rintro e w3 ⟨a3, n3, c3, rfl, hown, hf, hk3⟩
 have HO3 := (show Hid (Own 0 5 .u8 w3 (.slice a3 n3 c3) (headR 4 txn prev ++ ([]))) from hown)
 have HF3 := (show Hid (∀ b, (Value.slice a3 n3 c3).ownBlock = some b → w.heap.size ≤ b) from fun b hb => Nat.le_trans HK2.out.size (hf b hb))
 have HK3 := hid (HK2.out.trans hk3)
 clear hown hf hk3
 go_wp2
 go_ret
 exact ⟨_, _, _, rfl, HO3.out, HF3.out, HK3.out⟩
theorem encI_5 (x : StLogRecord) (w : World) (hB : x.isB) (hn : x.szs ≤ 1073741824) (hv : StLogRecord.rd w x) (hk : x.kind = 5) (hz : recFd x.dat = 0) :
  Calls Tryz.prog 28 #[x.val] w fun e w' => ∃ aa nn cc, e = .returned (.slice aa nn cc) ∧ Own 0 5 .u8 w' (.slice aa nn cc) (recBd x.dat) ∧ (∀ b, (Value.slice aa nn cc).ownBlock = some b → w.heap.size ≤ b) ∧ Same w w' := by
 have HRES := (show Hid (recFd x.dat = 0) from hz)
 have HF := (show Hid (∀ wx, Same w wx → _) from fun wx (h : Same w wx) => implRec_any x wx hB hn (StLogRecord.rd.same hv h))
 obtain ⟨kind, txn, prev, page, slot, ⟨bU, ⟨bDe, bDa, bDc, bDb⟩⟩, ⟨aU, ⟨aDe, aDa, aDc, aDb⟩⟩, uN, nT, ⟨tXe, tXa, tXn, tXc, tXb⟩, ⟨dYe, dYa, dYn, dYc, dYb⟩, ⟨iMe, iMa, iMc, iMb⟩⟩ := x
 obtain ⟨hvb, hva, hvt, hvd, hvi⟩ := hv
 have HRB := (show Hid (Rd .u8 w (.slice bDa bDb.length bDc) bDb) from hvb)
 have HRA := (show Hid (Rd .u8 w (.slice aDa aDb.length aDc) aDb) from hva)
 have HRI := (show Hid (Rd .u8 w (.slice iMa iMb.length iMc) iMb) from hvi)
 have HRT := (show Hid (RdF 4 w ⟨tXe, tXa, tXn, tXc, tXb⟩) from hvt)
 have HRD := (show Hid (RdF 2 w ⟨dYe, dYa, dYn, dYc, dYb⟩) from hvd)
 dsimp only at hk
 subst hk
 have hg := (show recF 5 txn prev page slot bU bDb aU aDb uN nT tXb dYb iMb = 0 from hz)
 obtain ⟨hh1, hh2⟩ := good5 hg
 have hwz : recBd (StLogRecord.dat ⟨5, txn, prev, page, slot, ⟨bU, ⟨bDe, bDa, bDc, bDb⟩⟩, ⟨aU, ⟨aDe, aDa, aDc, aDb⟩⟩, uN, nT, ⟨tXe, tXa, tXn, tXc, tXb⟩, ⟨dYe, dYa, dYn, dYc, dYb⟩, ⟨iMe, iMa, iMc, iMb⟩⟩) = headR 5 txn prev ++ ([]) := by simp [recBd, recBy, StLogRecord.dat, StPageRecord.dat]
 have HWZ := hid hwz
 clear hwz
 clear hz hB hn hvb hva hvt hvd hvi hg
 rw [HWZ.out]
 have HF1 := HF.out _ ((Kept.refl _ _).alloc (.cells #[.int .i64 5, .int .i64 txn, .int .i64 prev, .int .i64 page, .int .i64 slot, .bool bU, .slice bDa bDb.length bDc, .bool aU, .slice aDa aDb.length aDc, .int .i64 uN, .int .i64 nT, .slice tXa tXn tXc, .slice dYa dYn dYc, .slice iMa iMb.length iMc] 35))
 rw [HRES.out] at HF1
 dsimp only [StLogRecord.val, StPageRecord.val, BS.v, FR.v] at HF1 ⊢
 have b0 := Blk.newL w [.int .i64 5, .int .i64 txn, .int .i64 prev, .int .i64 page, .int .i64 slot, .bool bU, .slice bDa bDb.length bDc, .bool aU, .slice aDa aDb.length aDc, .int .i64 uN, .int .i64 nT, .slice tXa tXn tXc, .slice dYa dYn dYc, .slice iMa iMb.length iMc] 35
 have HK0 := hid (sameA w [.int .i64 5, .int .i64 txn, .int .i64 prev, .int .i64 page, .int .i64 slot, .bool bU, .slice bDa bDb.length bDc, .bool aU, .slice aDa aDb.length aDc, .int .i64 uN, .int .i64 nT, .slice tXa tXn tXc, .slice dYa dYn dYc, .slice iMa iMb.length iMc] 35)
 clear HRES HF HWZ
 go_enter Tryz.func28, Tryz.ntmps28
 go_wp2_with fail
 refine HF1.mono ?_
 rintro e w1 ⟨rfl, hk1⟩
 have HK1 := hid (HK0.out.trans hk1)
 have b1 := b0.same hk1
 clear hk1 HF1 b0
 obtain ⟨d0, d1, d2, d3, d4, d5, d6, d7, d8, d9, d10, d11, d12, d13⟩ := b1.all14
 go_wp2_with fail
 refine (typeRecord_5 txn prev page slot bU bDa bDb.length bDc aU aDa aDb.length aDc uN nT tXa tXn tXc dYa dYn dYc iMa iMb.length iMc _).mono ?_
 rintro e w2 ⟨rfl, hk2⟩
 have HK2 := hid (HK1.out.trans hk2)
 clear hk2
 go_wp2_with fail
 refine (encTyped_5 txn prev _ (by omega) (by omega)).mono ?_
 rintro e w3 ⟨a3, n3, c3, rfl, hown, hf, hk3⟩
 have HO3 := (show Hid (Own 0 5 .u8 w3 (.slice a3 n3 c3) (headR 5 txn prev ++ ([]))) from hown)
 have HF3 := (show Hid (∀ b, (Value.slice a3 n3 c3).ownBlock = some b → w.heap.size ≤ b) from fun b hb => Nat.le_trans HK2.out.size (hf b hb))
 have HK3 := hid (HK2.out.trans hk3)
 clear hown hf hk3
 go_wp2
 go_ret
 exact ⟨_, _, _, rfl, HO3.out, HF3.out, HK3.out⟩
theorem encI_6 (x : StLogRecord) (w : World) (hB : x.isB) (hn : x.szs ≤ 1073741824) (hv : StLogRecord.rd w x) (hk : x.kind = 6) (hz : recFd x.dat = 0) :
  Calls Tryz.prog 28 #[x.val] w fun e w' => ∃ aa nn cc, e = .returned (.slice aa nn cc) ∧ Own 0 5 .u8 w' (.slice aa nn cc) (recBd x.dat) ∧ (∀ b, (Value.slice aa nn cc).ownBlock = some b → w.heap.size ≤ b) ∧ Same w w' := by
 have HRES := (show Hid (recFd x.dat = 0) from hz)
 have HF := (show Hid (∀ wx, Same w wx → _) from fun wx (h : Same w wx) => implRec_any x wx hB hn (StLogRecord.rd.same hv h))
 obtain ⟨kind, txn, prev, page, slot, ⟨bU, ⟨bDe, bDa, bDc, bDb⟩⟩, ⟨aU, ⟨aDe, aDa, aDc, aDb⟩⟩, uN, nT, ⟨tXe, tXa, tXn, tXc, tXb⟩, ⟨dYe, dYa, dYn, dYc, dYb⟩, ⟨iMe, iMa, iMc, iMb⟩⟩ := x
 obtain ⟨hvb, hva, hvt, hvd, hvi⟩ := hv
 have HRB := (show Hid (Rd .u8 w (.slice bDa bDb.length bDc) bDb) from hvb)
 have HRA := (show Hid (Rd .u8 w (.slice aDa aDb.length aDc) aDb) from hva)
 have HRI := (show Hid (Rd .u8 w (.slice iMa iMb.length iMc) iMb) from hvi)
 have HRT := (show Hid (RdF 4 w ⟨tXe, tXa, tXn, tXc, tXb⟩) from hvt)
 have HRD := (show Hid (RdF 2 w ⟨dYe, dYa, dYn, dYc, dYb⟩) from hvd)
 dsimp only at hk
 subst hk
 have hg := (show recF 6 txn prev page slot bU bDb aU aDb uN nT tXb dYb iMb = 0 from hz)
 obtain ⟨ht0, hp0⟩ := good6 hg
 have HT0 := (show Hid (txn = 0) from ht0)
 have HP0 := (show Hid (prev = 0) from hp0)
 clear ht0 hp0
 have hwz : recBd (StLogRecord.dat ⟨6, txn, prev, page, slot, ⟨bU, ⟨bDe, bDa, bDc, bDb⟩⟩, ⟨aU, ⟨aDe, aDa, aDc, aDb⟩⟩, uN, nT, ⟨tXe, tXa, tXn, tXc, tXb⟩, ⟨dYe, dYa, dYn, dYc, dYb⟩, ⟨iMe, iMa, iMc, iMb⟩⟩) = headR 6 0 0 ++ ([]) := by simp [recBd, recBy, StLogRecord.dat, StPageRecord.dat, HT0.out, HP0.out]
 have HWZ := hid hwz
 clear hwz
 clear hz hB hn hvb hva hvt hvd hvi hg
 rw [HWZ.out]
 have HF1 := HF.out _ ((Kept.refl _ _).alloc (.cells #[.int .i64 6, .int .i64 txn, .int .i64 prev, .int .i64 page, .int .i64 slot, .bool bU, .slice bDa bDb.length bDc, .bool aU, .slice aDa aDb.length aDc, .int .i64 uN, .int .i64 nT, .slice tXa tXn tXc, .slice dYa dYn dYc, .slice iMa iMb.length iMc] 35))
 rw [HRES.out] at HF1
 dsimp only [StLogRecord.val, StPageRecord.val, BS.v, FR.v] at HF1 ⊢
 have b0 := Blk.newL w [.int .i64 6, .int .i64 txn, .int .i64 prev, .int .i64 page, .int .i64 slot, .bool bU, .slice bDa bDb.length bDc, .bool aU, .slice aDa aDb.length aDc, .int .i64 uN, .int .i64 nT, .slice tXa tXn tXc, .slice dYa dYn dYc, .slice iMa iMb.length iMc] 35
 have HK0 := hid (sameA w [.int .i64 6, .int .i64 txn, .int .i64 prev, .int .i64 page, .int .i64 slot, .bool bU, .slice bDa bDb.length bDc, .bool aU, .slice aDa aDb.length aDc, .int .i64 uN, .int .i64 nT, .slice tXa tXn tXc, .slice dYa dYn dYc, .slice iMa iMb.length iMc] 35)
 clear HRES HF HWZ
 go_enter Tryz.func28, Tryz.ntmps28
 go_wp2_with fail
 refine HF1.mono ?_
 rintro e w1 ⟨rfl, hk1⟩
 have HK1 := hid (HK0.out.trans hk1)
 have b1 := b0.same hk1
 clear hk1 HF1 b0
 obtain ⟨d0, d1, d2, d3, d4, d5, d6, d7, d8, d9, d10, d11, d12, d13⟩ := b1.all14
 go_wp2_with fail
 refine (typeRecord_6 txn prev page slot bU bDa bDb.length bDc aU aDa aDb.length aDc uN nT tXa tXn tXc dYa dYn dYc iMa iMb.length iMc _).mono ?_
 rintro e w2 ⟨rfl, hk2⟩
 have HK2 := hid (HK1.out.trans hk2)
 clear hk2
 go_wp2_with fail
 refine (encTyped_6 0 0 _ (by omega) (by omega)).mono ?_
 rintro e w3 ⟨a3, n3, c3, rfl, hown, hf, hk3⟩
 have HO3 := (show Hid (Own 0 5 .u8 w3 (.slice a3 n3 c3) (headR 6 0 0 ++ ([]))) from hown)
 have HF3 := (show Hid (∀ b, (Value.slice a3 n3 c3).ownBlock = some b → w.heap.size ≤ b) from fun b hb => Nat.le_trans HK2.out.size (hf b hb))
 have HK3 := hid (HK2.out.trans hk3)
 clear hown hf hk3
 go_wp2
 go_ret
 exact ⟨_, _, _, rfl, HO3.out, HF3.out, HK3.out⟩
theorem encI_7 (x : StLogRecord) (w : World) (hB : x.isB) (hn : x.szs ≤ 1073741824) (hv : StLogRecord.rd w x) (hk : x.kind = 7) (hz : recFd x.dat = 0) :
  Calls Tryz.prog 28 #[x.val] w fun e w' => ∃ aa nn cc, e = .returned (.slice aa nn cc) ∧ Own 0 5 .u8 w' (.slice aa nn cc) (recBd x.dat) ∧ (∀ b, (Value.slice aa nn cc).ownBlock = some b → w.heap.size ≤ b) ∧ Same w w' := by
 have HRES := (show Hid (recFd x.dat = 0) from hz)
 have HF := (show Hid (∀ wx, Same w wx → _) from fun wx (h : Same w wx) => implRec_any x wx hB hn (StLogRecord.rd.same hv h))
 obtain ⟨kind, txn, prev, page, slot, ⟨bU, ⟨bDe, bDa, bDc, bDb⟩⟩, ⟨aU, ⟨aDe, aDa, aDc, aDb⟩⟩, uN, nT, ⟨tXe, tXa, tXn, tXc, tXb⟩, ⟨dYe, dYa, dYn, dYc, dYb⟩, ⟨iMe, iMa, iMc, iMb⟩⟩ := x
 obtain ⟨hvb, hva, hvt, hvd, hvi⟩ := hv
 have HRB := (show Hid (Rd .u8 w (.slice bDa bDb.length bDc) bDb) from hvb)
 have HRA := (show Hid (Rd .u8 w (.slice aDa aDb.length aDc) aDb) from hva)
 have HRI := (show Hid (Rd .u8 w (.slice iMa iMb.length iMc) iMb) from hvi)
 have HRT := (show Hid (RdF 4 w ⟨tXe, tXa, tXn, tXc, tXb⟩) from hvt)
 have HRD := (show Hid (RdF 2 w ⟨dYe, dYa, dYn, dYc, dYb⟩) from hvd)
 dsimp only at hk
 subst hk
 have hg := (show recF 7 txn prev page slot bU bDb aU aDb uN nT tXb dYb iMb = 0 from hz)
 obtain ⟨ht0, hp0, hh1, hh2, hh3⟩ := good7 hg
 have e1 : tXb.length / 4 = tXn := by have := hvt.2.1; dsimp only at this; omega
 have e2 : dYb.length / 2 = dYn := by have := hvd.2.1; dsimp only at this; omega
 rw [e1] at hh2
 rw [e2] at hh3
 obtain ⟨hn8, htg⟩ := tXgood hh2
 obtain ⟨hn16, hdg⟩ := dYgood hh3
 have HTG := (show Hid (∀ i, i < tXn → _) from htg)
 have HDG := (show Hid (∀ i, i < dYn → _) from hdg)
 have HTN := (show Hid (tXb.length / 4 = tXn) from e1)
 have HDN := (show Hid (dYb.length / 2 = dYn) from e2)
 clear e1 e2 htg hdg hh2 hh3
 have HT0 := (show Hid (txn = 0) from ht0)
 have HP0 := (show Hid (prev = 0) from hp0)
 clear ht0 hp0
 have hwz : recBd (StLogRecord.dat ⟨7, txn, prev, page, slot, ⟨bU, ⟨bDe, bDa, bDc, bDb⟩⟩, ⟨aU, ⟨aDe, aDa, aDc, aDb⟩⟩, uN, nT, ⟨tXe, tXa, tXn, tXc, tXb⟩, ⟨dYe, dYa, dYn, dYc, dYb⟩, ⟨iMe, iMa, iMc, iMb⟩⟩) = headR 7 0 0 ++ ((((numB nT 4 ++ numB (tXn : Nat) 1) ++ txsB tXb tXn) ++ numB (dYn : Nat) 1) ++ dysB dYb dYn) := by simp [recBd, recBy, StLogRecord.dat, StPageRecord.dat, HTN.out, HDN.out, HT0.out, HP0.out]
 have HWZ := hid hwz
 clear hwz
 clear hz hB hn hvb hva hvt hvd hvi hg
 rw [HWZ.out]
 have HF1 := HF.out _ ((Kept.refl _ _).alloc (.cells #[.int .i64 7, .int .i64 txn, .int .i64 prev, .int .i64 page, .int .i64 slot, .bool bU, .slice bDa bDb.length bDc, .bool aU, .slice aDa aDb.length aDc, .int .i64 uN, .int .i64 nT, .slice tXa tXn tXc, .slice dYa dYn dYc, .slice iMa iMb.length iMc] 35))
 rw [HRES.out] at HF1
 dsimp only [StLogRecord.val, StPageRecord.val, BS.v, FR.v] at HF1 ⊢
 have b0 := Blk.newL w [.int .i64 7, .int .i64 txn, .int .i64 prev, .int .i64 page, .int .i64 slot, .bool bU, .slice bDa bDb.length bDc, .bool aU, .slice aDa aDb.length aDc, .int .i64 uN, .int .i64 nT, .slice tXa tXn tXc, .slice dYa dYn dYc, .slice iMa iMb.length iMc] 35
 have HK0 := hid (sameA w [.int .i64 7, .int .i64 txn, .int .i64 prev, .int .i64 page, .int .i64 slot, .bool bU, .slice bDa bDb.length bDc, .bool aU, .slice aDa aDb.length aDc, .int .i64 uN, .int .i64 nT, .slice tXa tXn tXc, .slice dYa dYn dYc, .slice iMa iMb.length iMc] 35)
 clear HRES HF HWZ
 go_enter Tryz.func28, Tryz.ntmps28
 go_wp2_with fail
 refine HF1.mono ?_
 rintro e w1 ⟨rfl, hk1⟩
 have HK1 := hid (HK0.out.trans hk1)
 have b1 := b0.same hk1
 clear hk1 HF1 b0
 obtain ⟨d0, d1, d2, d3, d4, d5, d6, d7, d8, d9, d10, d11, d12, d13⟩ := b1.all14
 go_wp2_with fail
 refine (typeRecord_7 txn prev page slot bU bDa bDb.length bDc aU aDa aDb.length aDc uN nT tXa tXn tXc dYa dYn dYc iMa iMb.length iMc _).mono ?_
 rintro e w2 ⟨rfl, hk2⟩
 have HK2 := hid (HK1.out.trans hk2)
 clear hk2
 go_wp2_with fail
 refine (encTyped_7 0 0 nT tXe tXa tXn tXc tXb dYe dYa dYn dYc dYb _ (by omega) (by omega) hh1 hn8 hn16 HTG.out HDG.out (HRT.out.same HK2.out) (HRD.out.same HK2.out)).mono ?_
 rintro e w3 ⟨a3, n3, c3, rfl, hown, hf, hk3⟩
 have HO3 := (show Hid (Own 0 5 .u8 w3 (.slice a3 n3 c3) (headR 7 0 0 ++ ((((numB nT 4 ++ numB (tXn : Nat) 1) ++ txsB tXb tXn) ++ numB (dYn : Nat) 1) ++ dysB dYb dYn))) from hown)
 have HF3 := (show Hid (∀ b, (Value.slice a3 n3 c3).ownBlock = some b → w.heap.size ≤ b) from fun b hb => Nat.le_trans HK2.out.size (hf b hb))
 have HK3 := hid (HK2.out.trans hk3)
 clear hown hf hk3
 go_wp2
 go_ret
 exact ⟨_, _, _, rfl, HO3.out, HF3.out, HK3.out⟩
theorem encI_8 (x : StLogRecord) (w : World) (hB : x.isB) (hn : x.szs ≤ 1073741824) (hv : StLogRecord.rd w x) (hk : x.kind = 8) (hz : recFd x.dat = 0) :
  Calls Tryz.prog 28 #[x.val] w fun e w' => ∃ aa nn cc, e = .returned (.slice aa nn cc) ∧ Own 0 5 .u8 w' (.slice aa nn cc) (recBd x.dat) ∧ (∀ b, (Value.slice aa nn cc).ownBlock = some b → w.heap.size ≤ b) ∧ Same w w' := by
 have HRES := (show Hid (recFd x.dat = 0) from hz)
 have HF := (show Hid (∀ wx, Same w wx → _) from fun wx (h : Same w wx) => implRec_any x wx hB hn (StLogRecord.rd.same hv h))
 obtain ⟨kind, txn, prev, page, slot, ⟨bU, ⟨bDe, bDa, bDc, bDb⟩⟩, ⟨aU, ⟨aDe, aDa, aDc, aDb⟩⟩, uN, nT, ⟨tXe, tXa, tXn, tXc, tXb⟩, ⟨dYe, dYa, dYn, dYc, dYb⟩, ⟨iMe, iMa, iMc, iMb⟩⟩ := x
 obtain ⟨hvb, hva, hvt, hvd, hvi⟩ := hv
 have HRB := (show Hid (Rd .u8 w (.slice bDa bDb.length bDc) bDb) from hvb)
 have HRA := (show Hid (Rd .u8 w (.slice aDa aDb.length aDc) aDb) from hva)
 have HRI := (show Hid (Rd .u8 w (.slice iMa iMb.length iMc) iMb) from hvi)
 have HRT := (show Hid (RdF 4 w ⟨tXe, tXa, tXn, tXc, tXb⟩) from hvt)
 have HRD := (show Hid (RdF 2 w ⟨dYe, dYa, dYn, dYc, dYb⟩) from hvd)
 dsimp only at hk
 subst hk
 have hg := (show recF 8 txn prev page slot bU bDb aU aDb uN nT tXb dYb iMb = 0 from hz)
 obtain ⟨ht0, hp0, hp1, hp2⟩ := good8 hg
 replace hp2 := Nat.le_of_eq hp2
 have HT0 := (show Hid (txn = 0) from ht0)
 have HP0 := (show Hid (prev = 0) from hp0)
 clear ht0 hp0
 have hwz : recBd (StLogRecord.dat ⟨8, txn, prev, page, slot, ⟨bU, ⟨bDe, bDa, bDc, bDb⟩⟩, ⟨aU, ⟨aDe, aDa, aDc, aDb⟩⟩, uN, nT, ⟨tXe, tXa, tXn, tXc, tXb⟩, ⟨dYe, dYa, dYn, dYc, dYb⟩, ⟨iMe, iMa, iMc, iMb⟩⟩) = headR 8 0 0 ++ (numB page 2 ++ iMb) := by simp [recBd, recBy, StLogRecord.dat, StPageRecord.dat, HT0.out, HP0.out]
 have HWZ := hid hwz
 clear hwz
 clear hz hB hn hvb hva hvt hvd hvi hg
 rw [HWZ.out]
 have HF1 := HF.out _ ((Kept.refl _ _).alloc (.cells #[.int .i64 8, .int .i64 txn, .int .i64 prev, .int .i64 page, .int .i64 slot, .bool bU, .slice bDa bDb.length bDc, .bool aU, .slice aDa aDb.length aDc, .int .i64 uN, .int .i64 nT, .slice tXa tXn tXc, .slice dYa dYn dYc, .slice iMa iMb.length iMc] 35))
 rw [HRES.out] at HF1
 dsimp only [StLogRecord.val, StPageRecord.val, BS.v, FR.v] at HF1 ⊢
 have b0 := Blk.newL w [.int .i64 8, .int .i64 txn, .int .i64 prev, .int .i64 page, .int .i64 slot, .bool bU, .slice bDa bDb.length bDc, .bool aU, .slice aDa aDb.length aDc, .int .i64 uN, .int .i64 nT, .slice tXa tXn tXc, .slice dYa dYn dYc, .slice iMa iMb.length iMc] 35
 have HK0 := hid (sameA w [.int .i64 8, .int .i64 txn, .int .i64 prev, .int .i64 page, .int .i64 slot, .bool bU, .slice bDa bDb.length bDc, .bool aU, .slice aDa aDb.length aDc, .int .i64 uN, .int .i64 nT, .slice tXa tXn tXc, .slice dYa dYn dYc, .slice iMa iMb.length iMc] 35)
 clear HRES HF HWZ
 go_enter Tryz.func28, Tryz.ntmps28
 go_wp2_with fail
 refine HF1.mono ?_
 rintro e w1 ⟨rfl, hk1⟩
 have HK1 := hid (HK0.out.trans hk1)
 have b1 := b0.same hk1
 clear hk1 HF1 b0
 obtain ⟨d0, d1, d2, d3, d4, d5, d6, d7, d8, d9, d10, d11, d12, d13⟩ := b1.all14
 go_wp2_with fail
 refine (typeRecord_8 txn prev page slot bU bDa bDb.length bDc aU aDa aDb.length aDc uN nT tXa tXn tXc dYa dYn dYc iMa iMb.length iMc _).mono ?_
 rintro e w2 ⟨rfl, hk2⟩
 have HK2 := hid (HK1.out.trans hk2)
 clear hk2
 go_wp2_with fail
 refine (encTyped_8 0 0 page iMa iMc iMb _ (by omega) (by omega) (by unfold IsI; omega) (by omega) (HRI.out.same HK2.out)).mono ?_
 rintro e w3 ⟨a3, n3, c3, rfl, hown, hf, hk3⟩
 have HO3 := (show Hid (Own 0 5 .u8 w3 (.slice a3 n3 c3) (headR 8 0 0 ++ (numB page 2 ++ iMb))) from hown)
 have HF3 := (show Hid (∀ b, (Value.slice a3 n3 c3).ownBlock = some b → w.heap.size ≤ b) from fun b hb => Nat.le_trans HK2.out.size (hf b hb))
 have HK3 := hid (HK2.out.trans hk3)
 clear hown hf hk3
 go_wp2
 go_ret
 exact ⟨_, _, _, rfl, HO3.out, HF3.out, HK3.out⟩
theorem encS_1 (x : StLogRecord) (w : World) (hB : x.isB) (hn : x.szs ≤ 1073741824) (hv : StLogRecord.rd w x) (hk : x.kind = 1) (hz : recFd x.dat = 0) :
  Calls Tryz.prog 21 #[x.val] w fun e w' => ∃ aa nn cc, e = .returned (.slice aa nn cc) ∧ Own 0 5 .u8 w' (.slice aa nn cc) (recBd x.dat) ∧ (∀ b, (Value.slice aa nn cc).ownBlock = some b → w.heap.size ≤ b) ∧ Same w w' := by
 have hF := fun wx (h : Same w wx) => specRec_any x wx hB hn (StLogRecord.rd.same hv h)
 rw [hz] at hF
 obtain ⟨kind, txn, prev, page, slot, ⟨bU, ⟨bDe, bDa, bDc, bDb⟩⟩, ⟨aU, ⟨aDe, aDa, aDc, aDb⟩⟩, uN, nT, ⟨tXe, tXa, tXn, tXc, tXb⟩, ⟨dYe, dYa, dYn, dYc, dYb⟩, ⟨iMe, iMa, iMc, iMb⟩⟩ := x
 obtain ⟨hvb, hva, hvt, hvd, hvi⟩ := hv
 have HRB := (show Hid (Rd .u8 w (.slice bDa bDb.length bDc) bDb) from hvb)
 have HRA := (show Hid (Rd .u8 w (.slice aDa aDb.length aDc) aDb) from hva)
 have HRI := (show Hid (Rd .u8 w (.slice iMa iMb.length iMc) iMb) from hvi)
 dsimp only at hk
 subst hk
 have hg := (show recF 1 txn prev page slot bU bDb aU aDb uN nT tXb dYb iMb = 0 from hz)
 obtain ⟨⟨hh1, hh2⟩, ⟨hp1, hp2⟩, hb1, hb2⟩ := good1 hg
 simp only [StLogRecord.szs, StPageRecord.szs] at hn
 clear hz hB hvb hva hvt hvd hvi hg
 dsimp only [StLogRecord.val, StPageRecord.val, BS.v, FR.v, recBd, StLogRecord.dat, StPageRecord.dat, recBy] at hF ⊢
 have b0 := Blk.newL w [.int .i64 1, .int .i64 txn, .int .i64 prev, .int .i64 page, .int .i64 slot, .bool bU, .slice bDa bDb.length bDc, .bool aU, .slice aDa aDb.length aDc, .int .i64 uN, .int .i64 nT, .slice tXa tXn tXc, .slice dYa dYn dYc, .slice iMa iMb.length iMc] 35
 have hF := hF _ ((Kept.refl _ _).alloc (.cells #[.int .i64 1, .int .i64 txn, .int .i64 prev, .int .i64 page, .int .i64 slot, .bool bU, .slice bDa bDb.length bDc, .bool aU, .slice aDa aDb.length aDc, .int .i64 uN, .int .i64 nT, .slice tXa tXn tXc, .slice dYa dYn dYc, .slice iMa iMb.length iMc] 35))
 have hwz := (show w.heap.size + 1 = (w.alloc (.cells #[.int .i64 1, .int .i64 txn, .int .i64 prev, .int .i64 page, .int .i64 slot, .bool bU, .slice bDa bDb.length bDc, .bool aU, .slice aDa aDb.length aDc, .int .i64 uN, .int .i64 nT, .slice tXa tXn tXc, .slice dYa dYn dYc, .slice iMa iMb.length iMc] 35)).heap.size from by simp)
 go_enter Tryz.func21, Tryz.ntmps21
 go_wp2_with (go_at_call 17; refine hF.mono ?_; rintro e w1 ⟨rfl, hk1⟩; have HK1 := (show Hid (Same (w.alloc (.cells #[.int .i64 1, .int .i64 txn, .int .i64 prev, .int .i64 page, .int .i64 slot, .bool bU, .slice bDa bDb.length bDc, .bool aU, .slice aDa aDb.length aDc, .int .i64 uN, .int .i64 nT, .slice tXa tXn tXc, .slice dYa dYn dYc, .slice iMa iMb.length iMc] 35)) w1) from hk1); have b1 := b0.same HK1.out; clear hk1)
 have hzz := HK1.out.size
 have HK2 := (show Hid (Same (w.alloc (.cells #[.int .i64 1, .int .i64 txn, .int .i64 prev, .int .i64 page, .int .i64 slot, .bool bU, .slice bDa bDb.length bDc, .bool aU, .slice aDa aDb.length aDc, .int .i64 uN, .int .i64 nT, .slice tXa tXn tXc, .slice dYa dYn dYc, .slice iMa iMb.length iMc] 35)) (w1.drew.alloc (.cells #[.int .u8 1] 5))) from HK1.out.drew.alloc _)
 have HO2 := (show Hid (Own 0 5 .u8 (w1.drew.alloc (.cells #[.int .u8 1] 5)) (.slice (some ⟨w1.heap.size, 0, none⟩) 1 1) [1]) from (show Blk (w1.drew.alloc (.cells #[.int .u8 1] 5)) w1.heap.size 5 (vals .u8 [1]) from Blk.new w1.drew #[.int .u8 1] 5).own (by unfold maxLen; simp))
 have HF2 := (show Hid (∀ b, (Value.slice (some ⟨w1.heap.size, 0, none⟩) 1 1).ownBlock = some b → (w.alloc (.cells #[.int .i64 1, .int .i64 txn, .int .i64 prev, .int .i64 page, .int .i64 slot, .bool bU, .slice bDa bDb.length bDc, .bool aU, .slice aDa aDb.length aDc, .int .i64 uN, .int .i64 nT, .slice tXa tXn tXc, .slice dYa dYn dYc, .slice iMa iMb.length iMc] 35)).heap.size ≤ b) from fun b hb => by have hb : w1.heap.size = b := Option.some.inj hb; omega)
 have b2 := b0.same HK2.out
 have hl2 : ([1] : List Int).length ≤ 1 := by simp
 let Y2 : World → Prop := fun wx : World => wx.cell? ⟨w.heap.size, 0, none⟩ = some (.int .i64 1) ∧ wx.cell? ⟨w.heap.size, 1, none⟩ = some (.int .i64 txn) ∧ wx.cell? ⟨w.heap.size, 2, none⟩ = some (.int .i64 prev)
 have hS : Y2 w1.drew := by exact ⟨b1.cell 0, b1.cell 1, b1.cell 2⟩
 refine wp_region_V Y2 99 11 rfl (by kernel_rfl) ?_
 refine tk 0 11 hS ?_
 refine tk 1 12 hS ?_
 refine tk 2 13 hS ?_
 refine tk 4 15 hS ?_
 refine tk 5 16 hS ?_
 refine tk 7 18 hS ?_
 refine tk 8 19 hS ?_
 refine wpAnyV_one (i := 3) (by kernel_rfl) rfl (fun K hK => ?_)
 go_simp
 have hS : Y2 (w1.drew.alloc (.cells #[.int .u8 1] 5)) := by exact ⟨b2.cell 0, b2.cell 1, b2.cell 2⟩
 refine hK.out _ _ (fun _ => hS) ?_
 clear hK K
 try simp only [Act.put, sA, s0, sS]
 refine wpAnyV_one (i := 6) (by kernel_rfl) rfl (fun K hK => ?_)
 go_simp
 refine (l4Put_own _ ([1]) (txn) 4 _ (by unfold IsI; omega) (by unfold IsI; omega) (by omega) HO2.out).mono ?_
 rintro e wq1 ⟨aq1, nq1, cq1, rfl, hown, hg⟩
 have HOq1 := (show Hid (Own 0 5 .u8 wq1 (.slice aq1 nq1 cq1) (([1]) ++ numB (txn) 4)) from hown)
 have HKq1 := hid (hg.same HK2.out HF2.out)
 have HFq1 := hid (hg.fresh HK2.out HF2.out)
 have bq1 := b0.same HKq1.out
 have hlq1 : (([1]) ++ numB (txn) 4).length ≤ 9 := by rw [List.length_append]; have := numB_length (txn) 4; omega
 clear hown hg
 have hS : Y2 wq1 := by exact ⟨bq1.cell 0, bq1.cell 1, bq1.cell 2⟩
 refine hK.out _ _ (fun _ => hS) ?_
 clear hK K
 try simp only [Act.put, sA, s0, sS]
 refine wpAnyV_one (i := 9) (by kernel_rfl) rfl (fun K hK => ?_)
 go_simp
 refine (l4Put_own _ (([1]) ++ numB (txn) 4) (prev) 8 _ (by unfold IsI; omega) (by unfold IsI; omega) (by omega) HOq1.out).mono ?_
 rintro e wq2 ⟨aq2, nq2, cq2, rfl, hown, hg⟩
 have HOq2 := (show Hid (Own 0 5 .u8 wq2 (.slice aq2 nq2 cq2) ((([1]) ++ numB (txn) 4) ++ numB (prev) 8)) from hown)
 have HKq2 := hid (hg.same HKq1.out HFq1.out)
 have HFq2 := hid (hg.fresh HKq1.out HFq1.out)
 have bq2 := b0.same HKq2.out
 have hlq2 : ((([1]) ++ numB (txn) 4) ++ numB (prev) 8).length ≤ 17 := by rw [List.length_append]; have := numB_length (prev) 8; omega
 clear hown hg
 have hS : Y2 wq2 := by exact ⟨bq2.cell 0, bq2.cell 1, bq2.cell 2⟩
 refine hK.out _ _ (fun _ => hS) ?_
 clear hK K
 try simp only [Act.put, sA, s0, sS]
 refine tk 10 3 hS ?_
 refine wpAnyV_done (by kernel_rfl) ?_
 have dq2_0 := bq2.c0
 go_wp2_with fail
 let Y3 : World → Prop := fun wx : World => wx.cell? ⟨w.heap.size, 3, none⟩ = some (.int .i64 page) ∧ wx.cell? ⟨w.heap.size, 4, none⟩ = some (.int .i64 slot)
 have hS : Y3 wq2.drew := by exact ⟨bq2.cell 3, bq2.cell 4⟩
 refine wp_region_V Y3 99 8 rfl (by kernel_rfl) ?_
 refine tk 0 25 hS ?_
 refine tk 1 26 hS ?_
 refine tk 2 27 hS ?_
 refine tk 4 29 hS ?_
 refine tk 5 30 hS ?_
 refine wpAnyV_one (i := 3) (by kernel_rfl) rfl (fun K hK => ?_)
 go_simp
 refine (l4Put_own _ ((([1]) ++ numB (txn) 4) ++ numB (prev) 8) (page) 2 _ (by unfold IsI; omega) (by unfold IsI; omega) (by omega) (HOq2.out.same (Kept.refl _ _).drew)).mono ?_
 rintro e wq3 ⟨aq3, nq3, cq3, rfl, hown, hg⟩
 have HOq3 := (show Hid (Own 0 5 .u8 wq3 (.slice aq3 nq3 cq3) (((([1]) ++ numB (txn) 4) ++ numB (prev) 8) ++ numB (page) 2)) from hown)
 have HKq3 := hid (hg.same HKq2.out.drew HFq2.out)
 have HFq3 := hid (hg.fresh HKq2.out.drew HFq2.out)
 have bq3 := b0.same HKq3.out
 have hlq3 : (((([1]) ++ numB (txn) 4) ++ numB (prev) 8) ++ numB (page) 2).length ≤ 25 := by rw [List.length_append]; have := numB_length (page) 2; omega
 clear hown hg
 have hS : Y3 wq3 := by exact ⟨bq3.cell 3, bq3.cell 4⟩
 refine hK.out _ _ (fun _ => hS) ?_
 clear hK K
 try simp only [Act.put, sA, s0, sS]
 refine wpAnyV_one (i := 6) (by kernel_rfl) rfl (fun K hK => ?_)
 go_simp
 refine (l4Put_own _ (((([1]) ++ numB (txn) 4) ++ numB (prev) 8) ++ numB (page) 2) (slot) 2 _ (by unfold IsI; omega) (by unfold IsI; omega) (by omega) HOq3.out).mono ?_
 rintro e wq4 ⟨aq4, nq4, cq4, rfl, hown, hg⟩
 have HOq4 := (show Hid (Own 0 5 .u8 wq4 (.slice aq4 nq4 cq4) ((((([1]) ++ numB (txn) 4) ++ numB (prev) 8) ++ numB (page) 2) ++ numB (slot) 2)) from hown)
 have HKq4 := hid (hg.same HKq3.out HFq3.out)
 have HFq4 := hid (hg.fresh HKq3.out HFq3.out)
 have bq4 := b0.same HKq4.out
 have hlq4 : ((((([1]) ++ numB (txn) 4) ++ numB (prev) 8) ++ numB (page) 2) ++ numB (slot) 2).length ≤ 33 := by rw [List.length_append]; have := numB_length (slot) 2; omega
 clear hown hg
 have hS : Y3 wq4 := by exact ⟨bq4.cell 3, bq4.cell 4⟩
 refine hK.out _ _ (fun _ => hS) ?_
 clear hK K
 try simp only [Act.put, sA, s0, sS]
 refine tk 7 3 hS ?_
 refine wpAnyV_done (by kernel_rfl) ?_
 go_wp2_with fail
 let Y1 : World → Prop := fun wx : World => wx.cell? ⟨w.heap.size, 5, none⟩ = some (.bool bU) ∧ wx.cell? ⟨w.heap.size, 6, none⟩ = some (.slice bDa bDb.length bDc) ∧ wx.cell? ⟨w.heap.size, 7, none⟩ = some (.bool aU) ∧ wx.cell? ⟨w.heap.size, 8, none⟩ = some (.slice aDa aDb.length aDc)
 have hS : Y1 wq4.drew := by exact ⟨bq4.cell 5, bq4.cell 6, bq4.cell 7, bq4.cell 8⟩
 refine wp_region_V Y1 99 8 rfl (by kernel_rfl) ?_
 refine tk 0 32 hS ?_
 refine tk 1 33 hS ?_
 refine tk 2 34 hS ?_
 refine tk 4 36 hS ?_
 refine tk 5 37 hS ?_
 refine wpAnyV_one (i := 3) (by kernel_rfl) rfl (fun K hK => ?_)
 go_simp
 refine (l4PutSlot_own _ ((((([1]) ++ numB (txn) 4) ++ numB (prev) 8) ++ numB (page) 2) ++ numB (slot) 2) bU (.slice bDa bDb.length bDc) (bDb) _ (by omega) (by omega) (fun wx hkx => (fun h => (HRB.out.same ((Kept.refl _ _).alloc _)).same h) (HKq4.out.drew.next hkx (fun i hi e => by have := HFq4.out i e; omega))) (HOq4.out.same (Kept.refl _ _).drew)).mono ?_
 rintro e wq5 ⟨aq5, nq5, cq5, rfl, hown, hg⟩
 have HOq5 := (show Hid (Own 0 5 .u8 wq5 (.slice aq5 nq5 cq5) (((((([1]) ++ numB (txn) 4) ++ numB (prev) 8) ++ numB (page) 2) ++ numB (slot) 2) ++ partB bU (bDb))) from hown)
 have HKq5 := hid (hg.same HKq4.out.drew HFq4.out)
 have HFq5 := hid (hg.fresh HKq4.out.drew HFq4.out)
 have bq5 := b0.same HKq5.out
 have hlq5 : (((((([1]) ++ numB (txn) 4) ++ numB (prev) 8) ++ numB (page) 2) ++ numB (slot) 2) ++ partB bU (bDb)).length ≤ 1133 := by rw [List.length_append]; have := partB_length bU (bDb); omega
 clear hown hg
 have hS : Y1 wq5 := by exact ⟨bq5.cell 5, bq5.cell 6, bq5.cell 7, bq5.cell 8⟩
 refine hK.out _ _ (fun _ => hS) ?_
 clear hK K
 try simp only [Act.put, sA, s0, sS]
 refine wpAnyV_one (i := 6) (by kernel_rfl) rfl (fun K hK => ?_)
 go_simp
 refine (l4PutSlot_own _ (((((([1]) ++ numB (txn) 4) ++ numB (prev) 8) ++ numB (page) 2) ++ numB (slot) 2) ++ partB bU (bDb)) aU (.slice aDa aDb.length aDc) (aDb) _ (by omega) (by omega) (fun wx hkx => (fun h => (HRA.out.same ((Kept.refl _ _).alloc _)).same h) (HKq5.out.next hkx (fun i hi e => by have := HFq5.out i e; omega))) HOq5.out).mono ?_
 rintro e wq6 ⟨aq6, nq6, cq6, rfl, hown, hg⟩
 have HOq6 := (show Hid (Own 0 5 .u8 wq6 (.slice aq6 nq6 cq6) ((((((([1]) ++ numB (txn) 4) ++ numB (prev) 8) ++ numB (page) 2) ++ numB (slot) 2) ++ partB bU (bDb)) ++ partB aU (aDb))) from hown)
 have HKq6 := hid (hg.same HKq5.out HFq5.out)
 have HFq6 := hid (hg.fresh HKq5.out HFq5.out)
 have bq6 := b0.same HKq6.out
 have hlq6 : ((((((([1]) ++ numB (txn) 4) ++ numB (prev) 8) ++ numB (page) 2) ++ numB (slot) 2) ++ partB bU (bDb)) ++ partB aU (aDb)).length ≤ 2233 := by rw [List.length_append]; have := partB_length aU (aDb); omega
 clear hown hg
 have hS : Y1 wq6 := by exact ⟨bq6.cell 5, bq6.cell 6, bq6.cell 7, bq6.cell 8⟩
 refine hK.out _ _ (fun _ => hS) ?_
 clear hK K
 try simp only [Act.put, sA, s0, sS]
 refine tk 7 3 hS ?_
 refine wpAnyV_done (by kernel_rfl) ?_
 go_wp2
 go_ret
 exact ⟨_, _, _, rfl, by simpa [headR] using HOq6.out, fun b hb => by have := HFq6.out b hb; simp at this; omega, ((Kept.refl _ _).alloc _).trans HKq6.out⟩
end Go.Proofs.YtdgmecmkkddpeaaGreat
