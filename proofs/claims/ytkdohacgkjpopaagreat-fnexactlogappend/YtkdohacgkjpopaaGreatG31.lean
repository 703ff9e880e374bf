import Derived.Test.YtkdohacgkjpopaaGreatG28
import Derived.Test.YtkdohacgkjpopaaGreatEncTyped
namespace Go.Proofs.YtkdohacgkjpopaaGreat
set_option maxRecDepth 100000
set_option maxHeartbeats 4000000
set_option linter.unusedVariables false
set_option linter.unusedSimpArgs false
open Go.RowKit
theorem encI_1 (x : StLogRecord) (w : World) (hB : x.isB) (hn : x.szs ≤ 1073741824) (hv : StLogRecord.rd w x) (hk : x.kind = 1) (hz : recFd x.dat = 0) :
  Calls Tryz.prog 56 #[x.val] w fun e w' => ∃ aa nn cc, e = .returned (.slice aa nn cc) ∧ Own 0 5 .u8 w' (.slice aa nn cc) (recBd x.dat) ∧ (∀ b, (Value.slice aa nn cc).ownBlock = some b → w.heap.size ≤ b) ∧ Same w w' := by
 have HRES := (show Hid (recFd x.dat = 0) from hz)
 have HF := (show Hid (∀ wx, Same w wx → _) from fun wx (h : Same w wx) => implRec_any x wx hB hn (StLogRecord.rd.same hv h))
 obtain ⟨kind, txn, prev, page, slot, ⟨bU, ⟨bDe, bDa, bDc, bDb⟩⟩, ⟨aU, ⟨aDe, aDa, aDc, aDb⟩⟩, uN, nT, ⟨tXe, tXa, tXn, tXc, tXb⟩, ⟨dYe, dYa, dYn, dYc, dYb⟩, ⟨iMe, iMa, iMc, iMb⟩⟩ := x
 obtain ⟨hvb, hva, hvt, hvd, hvi⟩ := hv
 have HRB := (show Hid (Rd .u8 w (.slice bDa bDb.length bDc) bDb) from hvb)
 have HRA := (show Hid (Rd .u8 w (.slice aDa aDb.length aDc) aDb) from hva)
 have HRI := (show Hid (Rd .u8 w (.slice iMa iMb.length iMc) iMb) from hvi)
 have HRT := (show Hid (RdF 4 w ⟨tXe, tXa, tXn, tXc, tXb⟩) from hvt)
 have HRD := (show Hid (RdF 2 w ⟨dYe, dYa, dYn, dYc, dYb⟩) from hvd)
 dsimp only at hk
 subst hk
 have hg := (show recF 1 txn prev page slot bU bDb aU aDb uN nT tXb dYb iMb = 0 from hz)
 obtain ⟨⟨hh1, hh2⟩, ⟨hp1, hp2⟩, hb1, hb2⟩ := good1 hg
 have hwz : recBd (StLogRecord.dat ⟨1, txn, prev, page, slot, ⟨bU, ⟨bDe, bDa, bDc, bDb⟩⟩, ⟨aU, ⟨aDe, aDa, aDc, aDb⟩⟩, uN, nT, ⟨tXe, tXa, tXn, tXc, tXb⟩, ⟨dYe, dYa, dYn, dYc, dYb⟩, ⟨iMe, iMa, iMc, iMb⟩⟩) = headR 1 txn prev ++ (((numB page 2 ++ numB slot 2) ++ partB bU bDb) ++ partB aU aDb) := by simp [recBd, recBy, StLogRecord.dat, StPageRecord.dat]
 have HWZ := hid hwz
 clear hwz
 clear hz hB hn hvb hva hvt hvd hvi hg
 rw [HWZ.out]
 have HF1 := HF.out _ ((Kept.refl _ _).alloc (.cells #[.int .i64 1, .int .i64 txn, .int .i64 prev, .int .i64 page, .int .i64 slot, .bool bU, .slice bDa bDb.length bDc, .bool aU, .slice aDa aDb.length aDc, .int .i64 uN, .int .i64 nT, .slice tXa tXn tXc, .slice dYa dYn dYc, .slice iMa iMb.length iMc] 42))
 rw [HRES.out] at HF1
 dsimp only [StLogRecord.val, StPageRecord.val, BS.v, FR.v] at HF1 ⊢
 have b0 := Blk.newL w [.int .i64 1, .int .i64 txn, .int .i64 prev, .int .i64 page, .int .i64 slot, .bool bU, .slice bDa bDb.length bDc, .bool aU, .slice aDa aDb.length aDc, .int .i64 uN, .int .i64 nT, .slice tXa tXn tXc, .slice dYa dYn dYc, .slice iMa iMb.length iMc] 42
 have HK0 := hid (sameA w [.int .i64 1, .int .i64 txn, .int .i64 prev, .int .i64 page, .int .i64 slot, .bool bU, .slice bDa bDb.length bDc, .bool aU, .slice aDa aDb.length aDc, .int .i64 uN, .int .i64 nT, .slice tXa tXn tXc, .slice dYa dYn dYc, .slice iMa iMb.length iMc] 42)
 clear HRES HF HWZ
 go_enter Tryz.func56, Tryz.ntmps56
 go_wp2_with fail
 refine HF1.mono ?_
 rintro e w1 ⟨rfl, hk1⟩
 have HK1 := hid (HK0.out.trans hk1)
 have b1 := b0.same hk1
 clear hk1 HF1 b0
 obtain ⟨d0, d1, d2, d3, d4, d5, d6, d7, d8, d9, d10, d11, d12, d13⟩ := b1.all14
 go_wp2_with fail
 refine (typeRecord_1 txn prev page slot bU bDa bDb.length bDc aU aDa aDb.length aDc uN nT tXa tXn tXc dYa dYn dYc iMa iMb.length iMc _).mono ?_
 rintro e w2 ⟨rfl, hk2⟩
 have HK2 := hid (HK1.out.trans hk2)
 clear hk2
 go_wp2_with fail
 refine (encTyped_1 txn prev page slot bU bDa bDc bDb aU aDa aDc aDb _ (by omega) (by omega) (by unfold IsI; omega) (by unfold IsI; omega) hb1 hb2 (HRB.out.same HK2.out) (HRA.out.same HK2.out)).mono ?_
 rintro e w3 ⟨a3, n3, c3, rfl, hown, hf, hk3⟩
 have HO3 := (show Hid (Own 0 5 .u8 w3 (.slice a3 n3 c3) (headR 1 txn prev ++ (((numB page 2 ++ numB slot 2) ++ partB bU bDb) ++ partB aU aDb))) from hown)
 have HF3 := (show Hid (∀ b, (Value.slice a3 n3 c3).ownBlock = some b → w.heap.size ≤ b) from fun b hb => Nat.le_trans HK2.out.size (hf b hb))
 have HK3 := hid (HK2.out.trans hk3)
 clear hown hf hk3
 go_wp2
 go_ret
 exact ⟨_, _, _, rfl, HO3.out, HF3.out, HK3.out⟩
theorem encI_2 (x : StLogRecord) (w : World) (hB : x.isB) (hn : x.szs ≤ 1073741824) (hv : StLogRecord.rd w x) (hk : x.kind = 2) (hz : recFd x.dat = 0) :
  Calls Tryz.prog 56 #[x.val] w fun e w' => ∃ aa nn cc, e = .returned (.slice aa nn cc) ∧ Own 0 5 .u8 w' (.slice aa nn cc) (recBd x.dat) ∧ (∀ b, (Value.slice aa nn cc).ownBlock = some b → w.heap.size ≤ b) ∧ Same w w' := by
 have HRES := (show Hid (recFd x.dat = 0) from hz)
 have HF := (show Hid (∀ wx, Same w wx → _) from fun wx (h : Same w wx) => implRec_any x wx hB hn (StLogRecord.rd.same hv h))
 obtain ⟨kind, txn, prev, page, slot, ⟨bU, ⟨bDe, bDa, bDc, bDb⟩⟩, ⟨aU, ⟨aDe, aDa, aDc, aDb⟩⟩, uN, nT, ⟨tXe, tXa, tXn, tXc, tXb⟩, ⟨dYe, dYa, dYn, dYc, dYb⟩, ⟨iMe, iMa, iMc, iMb⟩⟩ := x
 obtain ⟨hvb, hva, hvt, hvd, hvi⟩ := hv
 have HRB := (show Hid (Rd .u8 w (.slice bDa bDb.length bDc) bDb) from hvb)
 have HRA := (show Hid (Rd .u8 w (.slice aDa aDb.length aDc) aDb) from hva)
 have HRI := (show Hid (Rd .u8 w (.slice iMa iMb.length iMc) iMb) from hvi)
 have HRT := (show Hid (RdF 4 w ⟨tXe, tXa, tXn, tXc, tXb⟩) from hvt)
 have HRD := (show Hid (RdF 2 w ⟨dYe, dYa, dYn, dYc, dYb⟩) from hvd)
 dsimp only at hk
 subst hk
 have hg := (show recF 2 txn prev page slot bU bDb aU aDb uN nT tXb dYb iMb = 0 from hz)
 obtain ⟨⟨hh1, hh2⟩, ⟨hp1, hp2⟩, hb1, hb2⟩ := good2 hg
 have hwz : recBd (StLogRecord.dat ⟨2, txn, prev, page, slot, ⟨bU, ⟨bDe, bDa, bDc, bDb⟩⟩, ⟨aU, ⟨aDe, aDa, aDc, aDb⟩⟩, uN, nT, ⟨tXe, tXa, tXn, tXc, tXb⟩, ⟨dYe, dYa, dYn, dYc, dYb⟩, ⟨iMe, iMa, iMc, iMb⟩⟩) = headR 2 txn prev ++ (((numB page 2 ++ numB slot 2) ++ partB aU aDb) ++ numB uN 8) := by simp [recBd, recBy, StLogRecord.dat, StPageRecord.dat]
 have HWZ := hid hwz
 clear hwz
 clear hz hB hn hvb hva hvt hvd hvi hg
 rw [HWZ.out]
 have HF1 := HF.out _ ((Kept.refl _ _).alloc (.cells #[.int .i64 2, .int .i64 txn, .int .i64 prev, .int .i64 page, .int .i64 slot, .bool bU, .slice bDa bDb.length bDc, .bool aU, .slice aDa aDb.length aDc, .int .i64 uN, .int .i64 nT, .slice tXa tXn tXc, .slice dYa dYn dYc, .slice iMa iMb.length iMc] 42))
 rw [HRES.out] at HF1
 dsimp only [StLogRecord.val, StPageRecord.val, BS.v, FR.v] at HF1 ⊢
 have b0 := Blk.newL w [.int .i64 2, .int .i64 txn, .int .i64 prev, .int .i64 page, .int .i64 slot, .bool bU, .slice bDa bDb.length bDc, .bool aU, .slice aDa aDb.length aDc, .int .i64 uN, .int .i64 nT, .slice tXa tXn tXc, .slice dYa dYn dYc, .slice iMa iMb.length iMc] 42
 have HK0 := hid (sameA w [.int .i64 2, .int .i64 txn, .int .i64 prev, .int .i64 page, .int .i64 slot, .bool bU, .slice bDa bDb.length bDc, .bool aU, .slice aDa aDb.length aDc, .int .i64 uN, .int .i64 nT, .slice tXa tXn tXc, .slice dYa dYn dYc, .slice iMa iMb.length iMc] 42)
 clear HRES HF HWZ
 go_enter Tryz.func56, Tryz.ntmps56
 go_wp2_with fail
 refine HF1.mono ?_
 rintro e w1 ⟨rfl, hk1⟩
 have HK1 := hid (HK0.out.trans hk1)
 have b1 := b0.same hk1
 clear hk1 HF1 b0
 obtain ⟨d0, d1, d2, d3, d4, d5, d6, d7, d8, d9, d10, d11, d12, d13⟩ := b1.all14
 go_wp2_with fail
 refine (typeRecord_2 txn prev page slot bU bDa bDb.length bDc aU aDa aDb.length aDc uN nT tXa tXn tXc dYa dYn dYc iMa iMb.length iMc _).mono ?_
 rintro e w2 ⟨rfl, hk2⟩
 have HK2 := hid (HK1.out.trans hk2)
 clear hk2
 go_wp2_with fail
 refine (encTyped_2 txn prev page slot aU aDa aDc aDb uN _ (by omega) (by omega) (by unfold IsI; omega) (by unfold IsI; omega) (by unfold IsI; omega) hb1 (HRA.out.same HK2.out)).mono ?_
 rintro e w3 ⟨a3, n3, c3, rfl, hown, hf, hk3⟩
 have HO3 := (show Hid (Own 0 5 .u8 w3 (.slice a3 n3 c3) (headR 2 txn prev ++ (((numB page 2 ++ numB slot 2) ++ partB aU aDb) ++ numB uN 8))) from hown)
 have HF3 := (show Hid (∀ b, (Value.slice a3 n3 c3).ownBlock = some b → w.heap.size ≤ b) from fun b hb => Nat.le_trans HK2.out.size (hf b hb))
 have HK3 := hid (HK2.out.trans hk3)
 clear hown hf hk3
 go_wp2
 go_ret
 exact ⟨_, _, _, rfl, HO3.out, HF3.out, HK3.out⟩
theorem encI_3 (x : StLogRecord) (w : World) (hB : x.isB) (hn : x.szs ≤ 1073741824) (hv : StLogRecord.rd w x) (hk : x.kind = 3) (hz : recFd x.dat = 0) :
  Calls Tryz.prog 56 #[x.val] w fun e w' => ∃ aa nn cc, e = .returned (.slice aa nn cc) ∧ Own 0 5 .u8 w' (.slice aa nn cc) (recBd x.dat) ∧ (∀ b, (Value.slice aa nn cc).ownBlock = some b → w.heap.size ≤ b) ∧ Same w w' := by
 have HRES := (show Hid (recFd x.dat = 0) from hz)
 have HF := (show Hid (∀ wx, Same w wx → _) from fun wx (h : Same w wx) => implRec_any x wx hB hn (StLogRecord.rd.same hv h))
 obtain ⟨kind, txn, prev, page, slot, ⟨bU, ⟨bDe, bDa, bDc, bDb⟩⟩, ⟨aU, ⟨aDe, aDa, aDc, aDb⟩⟩, uN, nT, ⟨tXe, tXa, tXn, tXc, tXb⟩, ⟨dYe, dYa, dYn, dYc, dYb⟩, ⟨iMe, iMa, iMc, iMb⟩⟩ := x
 obtain ⟨hvb, hva, hvt, hvd, hvi⟩ := hv
 have HRB := (show Hid (Rd .u8 w (.slice bDa bDb.length bDc) bDb) from hvb)
 have HRA := (show Hid (Rd .u8 w (.slice aDa aDb.length aDc) aDb) from hva)
 have HRI := (show Hid (Rd .u8 w (.slice iMa iMb.length iMc) iMb) from hvi)
 have HRT := (show Hid (RdF 4 w ⟨tXe, tXa, tXn, tXc, tXb⟩) from hvt)
 have HRD := (show Hid (RdF 2 w ⟨dYe, dYa, dYn, dYc, dYb⟩) from hvd)
 dsimp only at hk
 subst hk
 have hg := (show recF 3 txn prev page slot bU bDb aU aDb uN nT tXb dYb iMb = 0 from hz)
 obtain ⟨hh1, hh2⟩ := good3 hg
 have hwz : recBd (StLogRecord.dat ⟨3, txn, prev, page, slot, ⟨bU, ⟨bDe, bDa, bDc, bDb⟩⟩, ⟨aU, ⟨aDe, aDa, aDc, aDb⟩⟩, uN, nT, ⟨tXe, tXa, tXn, tXc, tXb⟩, ⟨dYe, dYa, dYn, dYc, dYb⟩, ⟨iMe, iMa, iMc, iMb⟩⟩) = headR 3 txn prev ++ ([]) := by simp [recBd, recBy, StLogRecord.dat, StPageRecord.dat]
 have HWZ := hid hwz
 clear hwz
 clear hz hB hn hvb hva hvt hvd hvi hg
 rw [HWZ.out]
 have HF1 := HF.out _ ((Kept.refl _ _).alloc (.cells #[.int .i64 3, .int .i64 txn, .int .i64 prev, .int .i64 page, .int .i64 slot, .bool bU, .slice bDa bDb.length bDc, .bool aU, .slice aDa aDb.length aDc, .int .i64 uN, .int .i64 nT, .slice tXa tXn tXc, .slice dYa dYn dYc, .slice iMa iMb.length iMc] 42))
 rw [HRES.out] at HF1
 dsimp only [StLogRecord.val, StPageRecord.val, BS.v, FR.v] at HF1 ⊢
 have b0 := Blk.newL w [.int .i64 3, .int .i64 txn, .int .i64 prev, .int .i64 page, .int .i64 slot, .bool bU, .slice bDa bDb.length bDc, .bool aU, .slice aDa aDb.length aDc, .int .i64 uN, .int .i64 nT, .slice tXa tXn tXc, .slice dYa dYn dYc, .slice iMa iMb.length iMc] 42
 have HK0 := hid (sameA w [.int .i64 3, .int .i64 txn, .int .i64 prev, .int .i64 page, .int .i64 slot, .bool bU, .slice bDa bDb.length bDc, .bool aU, .slice aDa aDb.length aDc, .int .i64 uN, .int .i64 nT, .slice tXa tXn tXc, .slice dYa dYn dYc, .slice iMa iMb.length iMc] 42)
 clear HRES HF HWZ
 go_enter Tryz.func56, Tryz.ntmps56
 go_wp2_with fail
 refine HF1.mono ?_
 rintro e w1 ⟨rfl, hk1⟩
 have HK1 := hid (HK0.out.trans hk1)
 have b1 := b0.same hk1
 clear hk1 HF1 b0
 obtain ⟨d0, d1, d2, d3, d4, d5, d6, d7, d8, d9, d10, d11, d12, d13⟩ := b1.all14
 go_wp2_with fail
 refine (typeRecord_3 txn prev page slot bU bDa bDb.length bDc aU aDa aDb.length aDc uN nT tXa tXn tXc dYa dYn dYc iMa iMb.length iMc _).mono ?_
 rintro e w2 ⟨rfl, hk2⟩
 have HK2 := hid (HK1.out.trans hk2)
 clear hk2
 go_wp2_with fail
 refine (encTyped_3 txn prev _ (by omega) (by omega)).mono ?_
 rintro e w3 ⟨a3, n3, c3, rfl, hown, hf, hk3⟩
 have HO3 := (show Hid (Own 0 5 .u8 w3 (.slice a3 n3 c3) (headR 3 txn prev ++ ([]))) from hown)
 have HF3 := (show Hid (∀ b, (Value.slice a3 n3 c3).ownBlock = some b → w.heap.size ≤ b) from fun b hb => Nat.le_trans HK2.out.size (hf b hb))
 have HK3 := hid (HK2.out.trans hk3)
 clear hown hf hk3
 go_wp2
 go_ret
 exact ⟨_, _, _, rfl, HO3.out, HF3.out, HK3.out⟩
theorem encI_4 (x : StLogRecord) (w : World) (hB : x.isB) (hn : x.szs ≤ 1073741824) (hv : StLogRecord.rd w x) (hk : x.kind = 4) (hz : recFd x.dat = 0) :
  Calls Tryz.prog 56 #[x.val] w fun e w' => ∃ aa nn cc, e = .returned (.slice aa nn cc) ∧ Own 0 5 .u8 w' (.slice aa nn cc) (recBd x.dat) ∧ (∀ b, (Value.slice aa nn cc).ownBlock = some b → w.heap.size ≤ b) ∧ Same w w' := by
 have HRES := (show Hid (recFd x.dat = 0) from hz)
 have HF := (show Hid (∀ wx, Same w wx → _) from fun wx (h : Same w wx) => implRec_any x wx hB hn (StLogRecord.rd.same hv h))
 obtain ⟨kind, txn, prev, page, slot, ⟨bU, ⟨bDe, bDa, bDc, bDb⟩⟩, ⟨aU, ⟨aDe, aDa, aDc, aDb⟩⟩, uN, nT, ⟨tXe, tXa, tXn, tXc, tXb⟩, ⟨dYe, dYa, dYn, dYc, dYb⟩, ⟨iMe, iMa, iMc, iMb⟩⟩ := x
 obtain ⟨hvb, hva, hvt, hvd, hvi⟩ := hv
 have HRB := (show Hid (Rd .u8 w (.slice bDa bDb.length bDc) bDb) from hvb)
 have HRA := (show Hid (Rd .u8 w (.slice aDa aDb.length aDc) aDb) from hva)
 have HRI := (show Hid (Rd .u8 w (.slice iMa iMb.length iMc) iMb) from hvi)
 have HRT := (show Hid (RdF 4 w ⟨tXe, tXa, tXn, tXc, tXb⟩) from hvt)
 have HRD := (show Hid (RdF 2 w ⟨dYe, dYa, dYn, dYc, dYb⟩) from hvd)
 dsimp only at hk
 subst hk
 have hg := (show recF 4 txn prev page slot bU bDb aU aDb uN nT tXb dYb iMb = 0 from hz)
 obtain ⟨hh1, hh2⟩ := good4 hg
 have hwz : recBd (StLogRecord.dat ⟨4, txn, prev, page, slot, ⟨bU, ⟨bDe, bDa, bDc, bDb⟩⟩, ⟨aU, ⟨aDe, aDa, aDc, aDb⟩⟩, uN, nT, ⟨tXe, tXa, tXn, tXc, tXb⟩, ⟨dYe, dYa, dYn, dYc, dYb⟩, ⟨iMe, iMa, iMc, iMb⟩⟩) = headR 4 txn prev ++ ([]) := by simp [recBd, recBy, StLogRecord.dat, StPageRecord.dat]
 have HWZ := hid hwz
 clear hwz
 clear hz hB hn hvb hva hvt hvd hvi hg
 rw [HWZ.out]
 have HF1 := HF.out _ ((Kept.refl _ _).alloc (.cells #[.int .i64 4, .int .i64 txn, .int .i64 prev, .int .i64 page, .int .i64 slot, .bool bU, .slice bDa bDb.length bDc, .bool aU, .slice aDa aDb.length aDc, .int .i64 uN, .int .i64 nT, .slice tXa tXn tXc, .slice dYa dYn dYc, .slice iMa iMb.length iMc] 42))
 rw [HRES.out] at HF1
 dsimp only [StLogRecord.val, StPageRecord.val, BS.v, FR.v] at HF1 ⊢
 have b0 := Blk.newL w [.int .i64 4, .int .i64 txn, .int .i64 prev, .int .i64 page, .int .i64 slot, .bool bU, .slice bDa bDb.length bDc, .bool aU, .slice aDa aDb.length aDc, .int .i64 uN, .int .i64 nT, .slice tXa tXn tXc, .slice dYa dYn dYc, .slice iMa iMb.length iMc] 42
 have HK0 := hid (sameA w [.int .i64 4, .int .i64 txn, .int .i64 prev, .int .i64 page, .int .i64 slot, .bool bU, .slice bDa bDb.length bDc, .bool aU, .slice aDa aDb.length aDc, .int .i64 uN, .int .i64 nT, .slice tXa tXn tXc, .slice dYa dYn dYc, .slice iMa iMb.length iMc] 42)
 clear HRES HF HWZ
 go_enter Tryz.func56, Tryz.ntmps56
 go_wp2_with fail
 refine HF1.mono ?_
 rintro e w1 ⟨rfl, hk1⟩
 have HK1 := hid (HK0.out.trans hk1)
 have b1 := b0.same hk1
 clear hk1 HF1 b0
 obtain ⟨d0, d1, d2, d3, d4, d5, d6, d7, d8, d9, d10, d11, d12, d13⟩ := b1.all14
 go_wp2_with fail
 refine (typeRecord_4 txn prev page slot bU bDa bDb.length bDc aU aDa aDb.length aDc uN nT tXa tXn tXc dYa dYn dYc iMa iMb.length iMc _).mono ?_
 rintro e w2 ⟨rfl, hk2⟩
 have HK2 := hid (HK1.out.trans hk2)
 clear hk2
 go_wp2_with fail
 refine (encTyped_4 txn prev _ (by omega) (by omega)).mono ?_
 rintro e w3 ⟨a3, n3, c3, rfl, hown, hf, hk3⟩
 have HO3 := (show Hid (Own 0 5 .u8 w3 (.slice a3 n3 c3) (headR 4 txn prev ++ ([]))) from hown)
 have HF3 := (show Hid (∀ b, (Value.slice a3 n3 c3).ownBlock = some b → w.heap.size ≤ b) from fun b hb => Nat.le_trans HK2.out.size (hf b hb))
 have HK3 := hid (HK2.out.trans hk3)
 clear hown hf hk3
 go_wp2
 go_ret
 exact ⟨_, _, _, rfl, HO3.out, HF3.out, HK3.out⟩
theorem encI_5 (x : StLogRecord) (w : World) (hB : x.isB) (hn : x.szs ≤ 1073741824) (hv : StLogRecord.rd w x) (hk : x.kind = 5) (hz : recFd x.dat = 0) :
  Calls Tryz.prog 56 #[x.val] w fun e w' => ∃ aa nn cc, e = .returned (.slice aa nn cc) ∧ Own 0 5 .u8 w' (.slice aa nn cc) (recBd x.dat) ∧ (∀ b, (Value.slice aa nn cc).ownBlock = some b → w.heap.size ≤ b) ∧ Same w w' := by
 have HRES := (show Hid (recFd x.dat = 0) from hz)
 have HF := (show Hid (∀ wx, Same w wx → _) from fun wx (h : Same w wx) => implRec_any x wx hB hn (StLogRecord.rd.same hv h))
 obtain ⟨kind, txn, prev, page, slot, ⟨bU, ⟨bDe, bDa, bDc, bDb⟩⟩, ⟨aU, ⟨aDe, aDa, aDc, aDb⟩⟩, uN, nT, ⟨tXe, tXa, tXn, tXc, tXb⟩, ⟨dYe, dYa, dYn, dYc, dYb⟩, ⟨iMe, iMa, iMc, iMb⟩⟩ := x
 obtain ⟨hvb, hva, hvt, hvd, hvi⟩ := hv
 have HRB := (show Hid (Rd .u8 w (.slice bDa bDb.length bDc) bDb) from hvb)
 have HRA := (show Hid (Rd .u8 w (.slice aDa aDb.length aDc) aDb) from hva)
 have HRI := (show Hid (Rd .u8 w (.slice iMa iMb.length iMc) iMb) from hvi)
 have HRT := (show Hid (RdF 4 w ⟨tXe, tXa, tXn, tXc, tXb⟩) from hvt)
 have HRD := (show Hid (RdF 2 w ⟨dYe, dYa, dYn, dYc, dYb⟩) from hvd)
 dsimp only at hk
 subst hk
 have hg := (show recF 5 txn prev page slot bU bDb aU aDb uN nT tXb dYb iMb = 0 from hz)
 obtain ⟨hh1, hh2⟩ := good5 hg
 have hwz : recBd (StLogRecord.dat ⟨5, txn, prev, page, slot, ⟨bU, ⟨bDe, bDa, bDc, bDb⟩⟩, ⟨aU, ⟨aDe, aDa, aDc, aDb⟩⟩, uN, nT, ⟨tXe, tXa, tXn, tXc, tXb⟩, ⟨dYe, dYa, dYn, dYc, dYb⟩, ⟨iMe, iMa, iMc, iMb⟩⟩) = headR 5 txn prev ++ ([]) := by simp [recBd, recBy, StLogRecord.dat, StPageRecord.dat]
 have HWZ := hid hwz
 clear hwz
 clear hz hB hn hvb hva hvt hvd hvi hg
 rw [HWZ.out]
 have HF1 := HF.out _ ((Kept.refl _ _).alloc (.cells #[.int .i64 5, .int .i64 txn, .int .i64 prev, .int .i64 page, .int .i64 slot, .bool bU, .slice bDa bDb.length bDc, .bool aU, .slice aDa aDb.length aDc, .int .i64 uN, .int .i64 nT, .slice tXa tXn tXc, .slice dYa dYn dYc, .slice iMa iMb.length iMc] 42))
 rw [HRES.out] at HF1
 dsimp only [StLogRecord.val, StPageRecord.val, BS.v, FR.v] at HF1 ⊢
 have b0 := Blk.newL w [.int .i64 5, .int .i64 txn, .int .i64 prev, .int .i64 page, .int .i64 slot, .bool bU, .slice bDa bDb.length bDc, .bool aU, .slice aDa aDb.length aDc, .int .i64 uN, .int .i64 nT, .slice tXa tXn tXc, .slice dYa dYn dYc, .slice iMa iMb.length iMc] 42
 have HK0 := hid (sameA w [.int .i64 5, .int .i64 txn, .int .i64 prev, .int .i64 page, .int .i64 slot, .bool bU, .slice bDa bDb.length bDc, .bool aU, .slice aDa aDb.length aDc, .int .i64 uN, .int .i64 nT, .slice tXa tXn tXc, .slice dYa dYn dYc, .slice iMa iMb.length iMc] 42)
 clear HRES HF HWZ
 go_enter Tryz.func56, Tryz.ntmps56
 go_wp2_with fail
 refine HF1.mono ?_
 rintro e w1 ⟨rfl, hk1⟩
 have HK1 := hid (HK0.out.trans hk1)
 have b1 := b0.same hk1
 clear hk1 HF1 b0
 obtain ⟨d0, d1, d2, d3, d4, d5, d6, d7, d8, d9, d10, d11, d12, d13⟩ := b1.all14
 go_wp2_with fail
 refine (typeRecord_5 txn prev page slot bU bDa bDb.length bDc aU aDa aDb.length aDc uN nT tXa tXn tXc dYa dYn dYc iMa iMb.length iMc _).mono ?_
 rintro e w2 ⟨rfl, hk2⟩
 have HK2 := hid (HK1.out.trans hk2)
 clear hk2
 go_wp2_with fail
 refine (encTyped_5 txn prev _ (by omega) (by omega)).mono ?_
 rintro e w3 ⟨a3, n3, c3, rfl, hown, hf, hk3⟩
 have HO3 := (show Hid (Own 0 5 .u8 w3 (.slice a3 n3 c3) (headR 5 txn prev ++ ([]))) from hown)
 have HF3 := (show Hid (∀ b, (Value.slice a3 n3 c3).ownBlock = some b → w.heap.size ≤ b) from fun b hb => Nat.le_trans HK2.out.size (hf b hb))
 have HK3 := hid (HK2.out.trans hk3)
 clear hown hf hk3
 go_wp2
 go_ret
 exact ⟨_, _, _, rfl, HO3.out, HF3.out, HK3.out⟩
theorem encI_6 (x : StLogRecord) (w : World) (hB : x.isB) (hn : x.szs ≤ 1073741824) (hv : StLogRecord.rd w x) (hk : x.kind = 6) (hz : recFd x.dat = 0) :
  Calls Tryz.prog 56 #[x.val] w fun e w' => ∃ aa nn cc, e = .returned (.slice aa nn cc) ∧ Own 0 5 .u8 w' (.slice aa nn cc) (recBd x.dat) ∧ (∀ b, (Value.slice aa nn cc).ownBlock = some b → w.heap.size ≤ b) ∧ Same w w' := by
 have HRES := (show Hid (recFd x.dat = 0) from hz)
 have HF := (show Hid (∀ wx, Same w wx → _) from fun wx (h : Same w wx) => implRec_any x wx hB hn (StLogRecord.rd.same hv h))
 obtain ⟨kind, txn, prev, page, slot, ⟨bU, ⟨bDe, bDa, bDc, bDb⟩⟩, ⟨aU, ⟨aDe, aDa, aDc, aDb⟩⟩, uN, nT, ⟨tXe, tXa, tXn, tXc, tXb⟩, ⟨dYe, dYa, dYn, dYc, dYb⟩, ⟨iMe, iMa, iMc, iMb⟩⟩ := x
 obtain ⟨hvb, hva, hvt, hvd, hvi⟩ := hv
 have HRB := (show Hid (Rd .u8 w (.slice bDa bDb.length bDc) bDb) from hvb)
 have HRA := (show Hid (Rd .u8 w (.slice aDa aDb.length aDc) aDb) from hva)
 have HRI := (show Hid (Rd .u8 w (.slice iMa iMb.length iMc) iMb) from hvi)
 have HRT := (show Hid (RdF 4 w ⟨tXe, tXa, tXn, tXc, tXb⟩) from hvt)
 have HRD := (show Hid (RdF 2 w ⟨dYe, dYa, dYn, dYc, dYb⟩) from hvd)
 dsimp only at hk
 subst hk
 have hg := (show recF 6 txn prev page slot bU bDb aU aDb uN nT tXb dYb iMb = 0 from hz)
 obtain ⟨ht0, hp0⟩ := good6 hg
 have HT0 := (show Hid (txn = 0) from ht0)
 have HP0 := (show Hid (prev = 0) from hp0)
 clear ht0 hp0
 have hwz : recBd (StLogRecord.dat ⟨6, txn, prev, page, slot, ⟨bU, ⟨bDe, bDa, bDc, bDb⟩⟩, ⟨aU, ⟨aDe, aDa, aDc, aDb⟩⟩, uN, nT, ⟨tXe, tXa, tXn, tXc, tXb⟩, ⟨dYe, dYa, dYn, dYc, dYb⟩, ⟨iMe, iMa, iMc, iMb⟩⟩) = headR 6 0 0 ++ ([]) := by simp [recBd, recBy, StLogRecord.dat, StPageRecord.dat, HT0.out, HP0.out]
 have HWZ := hid hwz
 clear hwz
 clear hz hB hn hvb hva hvt hvd hvi hg
 rw [HWZ.out]
 have HF1 := HF.out _ ((Kept.refl _ _).alloc (.cells #[.int .i64 6, .int .i64 txn, .int .i64 prev, .int .i64 page, .int .i64 slot, .bool bU, .slice bDa bDb.length bDc, .bool aU, .slice aDa aDb.length aDc, .int .i64 uN, .int .i64 nT, .slice tXa tXn tXc, .slice dYa dYn dYc, .slice iMa iMb.length iMc] 42))
 rw [HRES.out] at HF1
 dsimp only [StLogRecord.val, StPageRecord.val, BS.v, FR.v] at HF1 ⊢
 have b0 := Blk.newL w [.int .i64 6, .int .i64 txn, .int .i64 prev, .int .i64 page, .int .i64 slot, .bool bU, .slice bDa bDb.length bDc, .bool aU, .slice aDa aDb.length aDc, .int .i64 uN, .int .i64 nT, .slice tXa tXn tXc, .slice dYa dYn dYc, .slice iMa iMb.length iMc] 42
 have HK0 := hid (sameA w [.int .i64 6, .int .i64 txn, .int .i64 prev, .int .i64 page, .int .i64 slot, .bool bU, .slice bDa bDb.length bDc, .bool aU, .slice aDa aDb.length aDc, .int .i64 uN, .int .i64 nT, .slice tXa tXn tXc, .slice dYa dYn dYc, .slice iMa iMb.length iMc] 42)
 clear HRES HF HWZ
 go_enter Tryz.func56, Tryz.ntmps56
 go_wp2_with fail
 refine HF1.mono ?_
 rintro e w1 ⟨rfl, hk1⟩
 have HK1 := hid (HK0.out.trans hk1)
 have b1 := b0.same hk1
 clear hk1 HF1 b0
 obtain ⟨d0, d1, d2, d3, d4, d5, d6, d7, d8, d9, d10, d11, d12, d13⟩ := b1.all14
 go_wp2_with fail
 refine (typeRecord_6 txn prev page slot bU bDa bDb.length bDc aU aDa aDb.length aDc uN nT tXa tXn tXc dYa dYn dYc iMa iMb.length iMc _).mono ?_
 rintro e w2 ⟨rfl, hk2⟩
 have HK2 := hid (HK1.out.trans hk2)
 clear hk2
 go_wp2_with fail
 refine (encTyped_6 0 0 _ (by omega) (by omega)).mono ?_
 rintro e w3 ⟨a3, n3, c3, rfl, hown, hf, hk3⟩
 have HO3 := (show Hid (Own 0 5 .u8 w3 (.slice a3 n3 c3) (headR 6 0 0 ++ ([]))) from hown)
 have HF3 := (show Hid (∀ b, (Value.slice a3 n3 c3).ownBlock = some b → w.heap.size ≤ b) from fun b hb => Nat.le_trans HK2.out.size (hf b hb))
 have HK3 := hid (HK2.out.trans hk3)
 clear hown hf hk3
 go_wp2
 go_ret
 exact ⟨_, _, _, rfl, HO3.out, HF3.out, HK3.out⟩
end Go.Proofs.YtkdohacgkjpopaaGreat
