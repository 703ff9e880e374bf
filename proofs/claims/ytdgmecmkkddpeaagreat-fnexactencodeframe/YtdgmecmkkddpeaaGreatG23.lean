import Derived.Test.YtdgmecmkkddpeaaGreatG19
namespace Go.Proofs.YtdgmecmkkddpeaaGreat
set_option maxRecDepth 100000
set_option maxHeartbeats 4000000
set_option linter.unusedVariables false
set_option linter.unusedSimpArgs false
open Go.RowKit
theorem encS_2 (x : StLogRecord) (w : World) (hB : x.isB) (hn : x.szs ≤ 1073741824) (hv : StLogRecord.rd w x) (hk : x.kind = 2) (hz : recFd x.dat = 0) :
  Calls Tryz.prog 21 #[x.val] w fun e w' => ∃ aa nn cc, e = .returned (.slice aa nn cc) ∧ Own 0 5 .u8 w' (.slice aa nn cc) (recBd x.dat) ∧ (∀ b, (Value.slice aa nn cc).ownBlock = some b → w.heap.size ≤ b) ∧ Same w w' := by
 have hF := fun wx (h : Same w wx) => specRec_any x wx hB hn (StLogRecord.rd.same hv h)
 rw [hz] at hF
 obtain ⟨kind, txn, prev, page, slot, ⟨bU, ⟨bDe, bDa, bDc, bDb⟩⟩, ⟨aU, ⟨aDe, aDa, aDc, aDb⟩⟩, uN, nT, ⟨tXe, tXa, tXn, tXc, tXb⟩, ⟨dYe, dYa, dYn, dYc, dYb⟩, ⟨iMe, iMa, iMc, iMb⟩⟩ := x
 obtain ⟨hvb, hva, hvt, hvd, hvi⟩ := hv
 have HRB := (show Hid (Rd .u8 w (.slice bDa bDb.length bDc) bDb) from hvb)
 have HRA := (show Hid (Rd .u8 w (.slice aDa aDb.length aDc) aDb) from hva)
 have HRI := (show Hid (Rd .u8 w (.slice iMa iMb.length iMc) iMb) from hvi)
 dsimp only at hk
 subst hk
 have hg := (show recF 2 txn prev page slot bU bDb aU aDb uN nT tXb dYb iMb = 0 from hz)
 obtain ⟨⟨hh1, hh2⟩, ⟨hp1, hp2⟩, hb1, hb2⟩ := good2 hg
 simp only [StLogRecord.szs, StPageRecord.szs] at hn
 clear hz hB hvb hva hvt hvd hvi hg
 dsimp only [StLogRecord.val, StPageRecord.val, BS.v, FR.v, recBd, StLogRecord.dat, StPageRecord.dat, recBy] at hF ⊢
 have b0 := Blk.newL w [.int .i64 2, .int .i64 txn, .int .i64 prev, .int .i64 page, .int .i64 slot, .bool bU, .slice bDa bDb.length bDc, .bool aU, .slice aDa aDb.length aDc, .int .i64 uN, .int .i64 nT, .slice tXa tXn tXc, .slice dYa dYn dYc, .slice iMa iMb.length iMc] 35
 have hF := hF _ ((Kept.refl _ _).alloc (.cells #[.int .i64 2, .int .i64 txn, .int .i64 prev, .int .i64 page, .int .i64 slot, .bool bU, .slice bDa bDb.length bDc, .bool aU, .slice aDa aDb.length aDc, .int .i64 uN, .int .i64 nT, .slice tXa tXn tXc, .slice dYa dYn dYc, .slice iMa iMb.length iMc] 35))
 have hwz := (show w.heap.size + 1 = (w.alloc (.cells #[.int .i64 2, .int .i64 txn, .int .i64 prev, .int .i64 page, .int .i64 slot, .bool bU, .slice bDa bDb.length bDc, .bool aU, .slice aDa aDb.length aDc, .int .i64 uN, .int .i64 nT, .slice tXa tXn tXc, .slice dYa dYn dYc, .slice iMa iMb.length iMc] 35)).heap.size from by simp)
 go_enter Tryz.func21, Tryz.ntmps21
 go_wp2_with (go_at_call 17; refine hF.mono ?_; rintro e w1 ⟨rfl, hk1⟩; have HK1 := (show Hid (Same (w.alloc (.cells #[.int .i64 2, .int .i64 txn, .int .i64 prev, .int .i64 page, .int .i64 slot, .bool bU, .slice bDa bDb.length bDc, .bool aU, .slice aDa aDb.length aDc, .int .i64 uN, .int .i64 nT, .slice tXa tXn tXc, .slice dYa dYn dYc, .slice iMa iMb.length iMc] 35)) w1) from hk1); have b1 := b0.same HK1.out; clear hk1)
 have hzz := HK1.out.size
 have HK2 := (show Hid (Same (w.alloc (.cells #[.int .i64 2, .int .i64 txn, .int .i64 prev, .int .i64 page, .int .i64 slot, .bool bU, .slice bDa bDb.length bDc, .bool aU, .slice aDa aDb.length aDc, .int .i64 uN, .int .i64 nT, .slice tXa tXn tXc, .slice dYa dYn dYc, .slice iMa iMb.length iMc] 35)) (w1.drew.alloc (.cells #[.int .u8 2] 5))) from HK1.out.drew.alloc _)
 have HO2 := (show Hid (Own 0 5 .u8 (w1.drew.alloc (.cells #[.int .u8 2] 5)) (.slice (some ⟨w1.heap.size, 0, none⟩) 1 1) [2]) from (show Blk (w1.drew.alloc (.cells #[.int .u8 2] 5)) w1.heap.size 5 (vals .u8 [2]) from Blk.new w1.drew #[.int .u8 2] 5).own (by unfold maxLen; simp))
 have HF2 := (show Hid (∀ b, (Value.slice (some ⟨w1.heap.size, 0, none⟩) 1 1).ownBlock = some b → (w.alloc (.cells #[.int .i64 2, .int .i64 txn, .int .i64 prev, .int .i64 page, .int .i64 slot, .bool bU, .slice bDa bDb.length bDc, .bool aU, .slice aDa aDb.length aDc, .int .i64 uN, .int .i64 nT, .slice tXa tXn tXc, .slice dYa dYn dYc, .slice iMa iMb.length iMc] 35)).heap.size ≤ b) from fun b hb => by have hb : w1.heap.size = b := Option.some.inj hb; omega)
 have b2 := b0.same HK2.out
 have hl2 : ([2] : List Int).length ≤ 1 := by simp
 let Y2 : World → Prop := fun wx : World => wx.cell? ⟨w.heap.size, 0, none⟩ = some (.int .i64 2) ∧ wx.cell? ⟨w.heap.size, 1, none⟩ = some (.int .i64 txn) ∧ wx.cell? ⟨w.heap.size, 2, none⟩ = some (.int .i64 prev)
 have hS : Y2 w1.drew := by exact ⟨b1.cell 0, b1.cell 1, b1.cell 2⟩
 refine wp_region_V Y2 99 11 rfl (by kernel_rfl) ?_
 refine tk 0 11 hS ?_
 refine tk 1 12 hS ?_
 refine tk 2 13 hS ?_
 refine tk 4 15 hS ?_
 refine tk 5 16 hS ?_
 refine tk 7 18 hS ?_
 refine tk 8 19 hS ?_
 refine wpAnyV_one (i := 3) (by kernel_rfl) rfl (fun K hK => ?_)
 go_simp
 have hS : Y2 (w1.drew.alloc (.cells #[.int .u8 2] 5)) := by exact ⟨b2.cell 0, b2.cell 1, b2.cell 2⟩
 refine hK.out _ _ (fun _ => hS) ?_
 clear hK K
 try simp only [Act.put, sA, s0, sS]
 refine wpAnyV_one (i := 6) (by kernel_rfl) rfl (fun K hK => ?_)
 go_simp
 refine (l4Put_own _ ([2]) (txn) 4 _ (by unfold IsI; omega) (by unfold IsI; omega) (by omega) HO2.out).mono ?_
 rintro e wq1 ⟨aq1, nq1, cq1, rfl, hown, hg⟩
 have HOq1 := (show Hid (Own 0 5 .u8 wq1 (.slice aq1 nq1 cq1) (([2]) ++ numB (txn) 4)) from hown)
 have HKq1 := hid (hg.same HK2.out HF2.out)
 have HFq1 := hid (hg.fresh HK2.out HF2.out)
 have bq1 := b0.same HKq1.out
 have hlq1 : (([2]) ++ numB (txn) 4).length ≤ 9 := by rw [List.length_append]; have := numB_length (txn) 4; omega
 clear hown hg
 have hS : Y2 wq1 := by exact ⟨bq1.cell 0, bq1.cell 1, bq1.cell 2⟩
 refine hK.out _ _ (fun _ => hS) ?_
 clear hK K
 try simp only [Act.put, sA, s0, sS]
 refine wpAnyV_one (i := 9) (by kernel_rfl) rfl (fun K hK => ?_)
 go_simp
 refine (l4Put_own _ (([2]) ++ numB (txn) 4) (prev) 8 _ (by unfold IsI; omega) (by unfold IsI; omega) (by omega) HOq1.out).mono ?_
 rintro e wq2 ⟨aq2, nq2, cq2, rfl, hown, hg⟩
 have HOq2 := (show Hid (Own 0 5 .u8 wq2 (.slice aq2 nq2 cq2) ((([2]) ++ numB (txn) 4) ++ numB (prev) 8)) from hown)
 have HKq2 := hid (hg.same HKq1.out HFq1.out)
 have HFq2 := hid (hg.fresh HKq1.out HFq1.out)
 have bq2 := b0.same HKq2.out
 have hlq2 : ((([2]) ++ numB (txn) 4) ++ numB (prev) 8).length ≤ 17 := by rw [List.length_append]; have := numB_length (prev) 8; omega
 clear hown hg
 have hS : Y2 wq2 := by exact ⟨bq2.cell 0, bq2.cell 1, bq2.cell 2⟩
 refine hK.out _ _ (fun _ => hS) ?_
 clear hK K
 try simp only [Act.put, sA, s0, sS]
 refine tk 10 3 hS ?_
 refine wpAnyV_done (by kernel_rfl) ?_
 have dq2_0 := bq2.c0
 go_wp2_with fail
 let Y3 : World → Prop := fun wx : World => wx.cell? ⟨w.heap.size, 3, none⟩ = some (.int .i64 page) ∧ wx.cell? ⟨w.heap.size, 4, none⟩ = some (.int .i64 slot)
 have hS : Y3 wq2.drew := by exact ⟨bq2.cell 3, bq2.cell 4⟩
 refine wp_region_V Y3 99 8 rfl (by kernel_rfl) ?_
 refine tk 0 41 hS ?_
 refine tk 1 42 hS ?_
 refine tk 2 43 hS ?_
 refine tk 4 45 hS ?_
 refine tk 5 46 hS ?_
 refine wpAnyV_one (i := 3) (by kernel_rfl) rfl (fun K hK => ?_)
 go_simp
 refine (l4Put_own _ ((([2]) ++ numB (txn) 4) ++ numB (prev) 8) (page) 2 _ (by unfold IsI; omega) (by unfold IsI; omega) (by omega) (HOq2.out.same (Kept.refl _ _).drew)).mono ?_
 rintro e wq3 ⟨aq3, nq3, cq3, rfl, hown, hg⟩
 have HOq3 := (show Hid (Own 0 5 .u8 wq3 (.slice aq3 nq3 cq3) (((([2]) ++ numB (txn) 4) ++ numB (prev) 8) ++ numB (page) 2)) from hown)
 have HKq3 := hid (hg.same HKq2.out.drew HFq2.out)
 have HFq3 := hid (hg.fresh HKq2.out.drew HFq2.out)
 have bq3 := b0.same HKq3.out
 have hlq3 : (((([2]) ++ numB (txn) 4) ++ numB (prev) 8) ++ numB (page) 2).length ≤ 25 := by rw [List.length_append]; have := numB_length (page) 2; omega
 clear hown hg
 have hS : Y3 wq3 := by exact ⟨bq3.cell 3, bq3.cell 4⟩
 refine hK.out _ _ (fun _ => hS) ?_
 clear hK K
 try simp only [Act.put, sA, s0, sS]
 refine wpAnyV_one (i := 6) (by kernel_rfl) rfl (fun K hK => ?_)
 go_simp
 refine (l4Put_own _ (((([2]) ++ numB (txn) 4) ++ numB (prev) 8) ++ numB (page) 2) (slot) 2 _ (by unfold IsI; omega) (by unfold IsI; omega) (by omega) HOq3.out).mono ?_
 rintro e wq4 ⟨aq4, nq4, cq4, rfl, hown, hg⟩
 have HOq4 := (show Hid (Own 0 5 .u8 wq4 (.slice aq4 nq4 cq4) ((((([2]) ++ numB (txn) 4) ++ numB (prev) 8) ++ numB (page) 2) ++ numB (slot) 2)) from hown)
 have HKq4 := hid (hg.same HKq3.out HFq3.out)
 have HFq4 := hid (hg.fresh HKq3.out HFq3.out)
 have bq4 := b0.same HKq4.out
 have hlq4 : ((((([2]) ++ numB (txn) 4) ++ numB (prev) 8) ++ numB (page) 2) ++ numB (slot) 2).length ≤ 33 := by rw [List.length_append]; have := numB_length (slot) 2; omega
 clear hown hg
 have hS : Y3 wq4 := by exact ⟨bq4.cell 3, bq4.cell 4⟩
 refine hK.out _ _ (fun _ => hS) ?_
 clear hK K
 try simp only [Act.put, sA, s0, sS]
 refine tk 7 3 hS ?_
 refine wpAnyV_done (by kernel_rfl) ?_
 go_wp2_with fail
 let Y1 : World → Prop := fun wx : World => wx.cell? ⟨w.heap.size, 7, none⟩ = some (.bool aU) ∧ wx.cell? ⟨w.heap.size, 8, none⟩ = some (.slice aDa aDb.length aDc) ∧ wx.cell? ⟨w.heap.size, 9, none⟩ = some (.int .i64 uN)
 have hS : Y1 wq4.drew := by exact ⟨bq4.cell 7, bq4.cell 8, bq4.cell 9⟩
 refine wp_region_V Y1 99 8 rfl (by kernel_rfl) ?_
 refine tk 0 48 hS ?_
 refine tk 1 49 hS ?_
 refine tk 2 50 hS ?_
 refine tk 4 52 hS ?_
 refine tk 5 53 hS ?_
 refine wpAnyV_one (i := 3) (by kernel_rfl) rfl (fun K hK => ?_)
 go_simp
 refine (l4PutSlot_own _ ((((([2]) ++ numB (txn) 4) ++ numB (prev) 8) ++ numB (page) 2) ++ numB (slot) 2) aU (.slice aDa aDb.length aDc) (aDb) _ (by omega) (by omega) (fun wx hkx => (fun h => (HRA.out.same ((Kept.refl _ _).alloc _)).same h) (HKq4.out.drew.next hkx (fun i hi e => by have := HFq4.out i e; omega))) (HOq4.out.same (Kept.refl _ _).drew)).mono ?_
 rintro e wq5 ⟨aq5, nq5, cq5, rfl, hown, hg⟩
 have HOq5 := (show Hid (Own 0 5 .u8 wq5 (.slice aq5 nq5 cq5) (((((([2]) ++ numB (txn) 4) ++ numB (prev) 8) ++ numB (page) 2) ++ numB (slot) 2) ++ partB aU (aDb))) from hown)
 have HKq5 := hid (hg.same HKq4.out.drew HFq4.out)
 have HFq5 := hid (hg.fresh HKq4.out.drew HFq4.out)
 have bq5 := b0.same HKq5.out
 have hlq5 : (((((([2]) ++ numB (txn) 4) ++ numB (prev) 8) ++ numB (page) 2) ++ numB (slot) 2) ++ partB aU (aDb)).length ≤ 1133 := by rw [List.length_append]; have := partB_length aU (aDb); omega
 clear hown hg
 have hS : Y1 wq5 := by exact ⟨bq5.cell 7, bq5.cell 8, bq5.cell 9⟩
 refine hK.out _ _ (fun _ => hS) ?_
 clear hK K
 try simp only [Act.put, sA, s0, sS]
 refine wpAnyV_one (i := 6) (by kernel_rfl) rfl (fun K hK => ?_)
 go_simp
 refine (l4Put_own _ (((((([2]) ++ numB (txn) 4) ++ numB (prev) 8) ++ numB (page) 2) ++ numB (slot) 2) ++ partB aU (aDb)) (uN) 8 _ (by unfold IsI; omega) (by unfold IsI; omega) (by omega) HOq5.out).mono ?_
 rintro e wq6 ⟨aq6, nq6, cq6, rfl, hown, hg⟩
 have HOq6 := (show Hid (Own 0 5 .u8 wq6 (.slice aq6 nq6 cq6) ((((((([2]) ++ numB (txn) 4) ++ numB (prev) 8) ++ numB (page) 2) ++ numB (slot) 2) ++ partB aU (aDb)) ++ numB (uN) 8)) from hown)
 have HKq6 := hid (hg.same HKq5.out HFq5.out)
 have HFq6 := hid (hg.fresh HKq5.out HFq5.out)
 have bq6 := b0.same HKq6.out
 have hlq6 : ((((((([2]) ++ numB (txn) 4) ++ numB (prev) 8) ++ numB (page) 2) ++ numB (slot) 2) ++ partB aU (aDb)) ++ numB (uN) 8).length ≤ 1141 := by rw [List.length_append]; have := numB_length (uN) 8; omega
 clear hown hg
 have hS : Y1 wq6 := by exact ⟨bq6.cell 7, bq6.cell 8, bq6.cell 9⟩
 refine hK.out _ _ (fun _ => hS) ?_
 clear hK K
 try simp only [Act.put, sA, s0, sS]
 refine tk 7 3 hS ?_
 refine wpAnyV_done (by kernel_rfl) ?_
 go_wp2
 go_ret
 exact ⟨_, _, _, rfl, by simpa [headR] using HOq6.out, fun b hb => by have := HFq6.out b hb; simp at this; omega, ((Kept.refl _ _).alloc _).trans HKq6.out⟩
theorem encS_3 (x : StLogRecord) (w : World) (hB : x.isB) (hn : x.szs ≤ 1073741824) (hv : StLogRecord.rd w x) (hk : x.kind = 3) (hz : recFd x.dat = 0) :
  Calls Tryz.prog 21 #[x.val] w fun e w' => ∃ aa nn cc, e = .returned (.slice aa nn cc) ∧ Own 0 5 .u8 w' (.slice aa nn cc) (recBd x.dat) ∧ (∀ b, (Value.slice aa nn cc).ownBlock = some b → w.heap.size ≤ b) ∧ Same w w' := by
 have hF := fun wx (h : Same w wx) => specRec_any x wx hB hn (StLogRecord.rd.same hv h)
 rw [hz] at hF
 obtain ⟨kind, txn, prev, page, slot, ⟨bU, ⟨bDe, bDa, bDc, bDb⟩⟩, ⟨aU, ⟨aDe, aDa, aDc, aDb⟩⟩, uN, nT, ⟨tXe, tXa, tXn, tXc, tXb⟩, ⟨dYe, dYa, dYn, dYc, dYb⟩, ⟨iMe, iMa, iMc, iMb⟩⟩ := x
 obtain ⟨hvb, hva, hvt, hvd, hvi⟩ := hv
 have HRB := (show Hid (Rd .u8 w (.slice bDa bDb.length bDc) bDb) from hvb)
 have HRA := (show Hid (Rd .u8 w (.slice aDa aDb.length aDc) aDb) from hva)
 have HRI := (show Hid (Rd .u8 w (.slice iMa iMb.length iMc) iMb) from hvi)
 dsimp only at hk
 subst hk
 have hg := (show recF 3 txn prev page slot bU bDb aU aDb uN nT tXb dYb iMb = 0 from hz)
 obtain ⟨hh1, hh2⟩ := good3 hg
 simp only [StLogRecord.szs, StPageRecord.szs] at hn
 clear hz hB hvb hva hvt hvd hvi hg
 dsimp only [StLogRecord.val, StPageRecord.val, BS.v, FR.v, recBd, StLogRecord.dat, StPageRecord.dat, recBy] at hF ⊢
 have b0 := Blk.newL w [.int .i64 3, .int .i64 txn, .int .i64 prev, .int .i64 page, .int .i64 slot, .bool bU, .slice bDa bDb.length bDc, .bool aU, .slice aDa aDb.length aDc, .int .i64 uN, .int .i64 nT, .slice tXa tXn tXc, .slice dYa dYn dYc, .slice iMa iMb.length iMc] 35
 have hF := hF _ ((Kept.refl _ _).alloc (.cells #[.int .i64 3, .int .i64 txn, .int .i64 prev, .int .i64 page, .int .i64 slot, .bool bU, .slice bDa bDb.length bDc, .bool aU, .slice aDa aDb.length aDc, .int .i64 uN, .int .i64 nT, .slice tXa tXn tXc, .slice dYa dYn dYc, .slice iMa iMb.length iMc] 35))
 have hwz := (show w.heap.size + 1 = (w.alloc (.cells #[.int .i64 3, .int .i64 txn, .int .i64 prev, .int .i64 page, .int .i64 slot, .bool bU, .slice bDa bDb.length bDc, .bool aU, .slice aDa aDb.length aDc, .int .i64 uN, .int .i64 nT, .slice tXa tXn tXc, .slice dYa dYn dYc, .slice iMa iMb.length iMc] 35)).heap.size from by simp)
 go_enter Tryz.func21, Tryz.ntmps21
 go_wp2_with (go_at_call 17; refine hF.mono ?_; rintro e w1 ⟨rfl, hk1⟩; have HK1 := (show Hid (Same (w.alloc (.cells #[.int .i64 3, .int .i64 txn, .int .i64 prev, .int .i64 page, .int .i64 slot, .bool bU, .slice bDa bDb.length bDc, .bool aU, .slice aDa aDb.length aDc, .int .i64 uN, .int .i64 nT, .slice tXa tXn tXc, .slice dYa dYn dYc, .slice iMa iMb.length iMc] 35)) w1) from hk1); have b1 := b0.same HK1.out; clear hk1)
 have hzz := HK1.out.size
 have HK2 := (show Hid (Same (w.alloc (.cells #[.int .i64 3, .int .i64 txn, .int .i64 prev, .int .i64 page, .int .i64 slot, .bool bU, .slice bDa bDb.length bDc, .bool aU, .slice aDa aDb.length aDc, .int .i64 uN, .int .i64 nT, .slice tXa tXn tXc, .slice dYa dYn dYc, .slice iMa iMb.length iMc] 35)) (w1.drew.alloc (.cells #[.int .u8 3] 5))) from HK1.out.drew.alloc _)
 have HO2 := (show Hid (Own 0 5 .u8 (w1.drew.alloc (.cells #[.int .u8 3] 5)) (.slice (some ⟨w1.heap.size, 0, none⟩) 1 1) [3]) from (show Blk (w1.drew.alloc (.cells #[.int .u8 3] 5)) w1.heap.size 5 (vals .u8 [3]) from Blk.new w1.drew #[.int .u8 3] 5).own (by unfold maxLen; simp))
 have HF2 := (show Hid (∀ b, (Value.slice (some ⟨w1.heap.size, 0, none⟩) 1 1).ownBlock = some b → (w.alloc (.cells #[.int .i64 3, .int .i64 txn, .int .i64 prev, .int .i64 page, .int .i64 slot, .bool bU, .slice bDa bDb.length bDc, .bool aU, .slice aDa aDb.length aDc, .int .i64 uN, .int .i64 nT, .slice tXa tXn tXc, .slice dYa dYn dYc, .slice iMa iMb.length iMc] 35)).heap.size ≤ b) from fun b hb => by have hb : w1.heap.size = b := Option.some.inj hb; omega)
 have b2 := b0.same HK2.out
 have hl2 : ([3] : List Int).length ≤ 1 := by simp
 let Y1 : World → Prop := fun wx : World => wx.cell? ⟨w.heap.size, 0, none⟩ = some (.int .i64 3) ∧ wx.cell? ⟨w.heap.size, 1, none⟩ = some (.int .i64 txn) ∧ wx.cell? ⟨w.heap.size, 2, none⟩ = some (.int .i64 prev)
 have hS : Y1 w1.drew := by exact ⟨b1.cell 0, b1.cell 1, b1.cell 2⟩
 refine wp_region_V Y1 99 11 rfl (by kernel_rfl) ?_
 refine tk 0 11 hS ?_
 refine tk 1 12 hS ?_
 refine tk 2 13 hS ?_
 refine tk 4 15 hS ?_
 refine tk 5 16 hS ?_
 refine tk 7 18 hS ?_
 refine tk 8 19 hS ?_
 refine wpAnyV_one (i := 3) (by kernel_rfl) rfl (fun K hK => ?_)
 go_simp
 have hS : Y1 (w1.drew.alloc (.cells #[.int .u8 3] 5)) := by exact ⟨b2.cell 0, b2.cell 1, b2.cell 2⟩
 refine hK.out _ _ (fun _ => hS) ?_
 clear hK K
 try simp only [Act.put, sA, s0, sS]
 refine wpAnyV_one (i := 6) (by kernel_rfl) rfl (fun K hK => ?_)
 go_simp
 refine (l4Put_own _ ([3]) (txn) 4 _ (by unfold IsI; omega) (by unfold IsI; omega) (by omega) HO2.out).mono ?_
 rintro e wq1 ⟨aq1, nq1, cq1, rfl, hown, hg⟩
 have HOq1 := (show Hid (Own 0 5 .u8 wq1 (.slice aq1 nq1 cq1) (([3]) ++ numB (txn) 4)) from hown)
 have HKq1 := hid (hg.same HK2.out HF2.out)
 have HFq1 := hid (hg.fresh HK2.out HF2.out)
 have bq1 := b0.same HKq1.out
 have hlq1 : (([3]) ++ numB (txn) 4).length ≤ 9 := by rw [List.length_append]; have := numB_length (txn) 4; omega
 clear hown hg
 have hS : Y1 wq1 := by exact ⟨bq1.cell 0, bq1.cell 1, bq1.cell 2⟩
 refine hK.out _ _ (fun _ => hS) ?_
 clear hK K
 try simp only [Act.put, sA, s0, sS]
 refine wpAnyV_one (i := 9) (by kernel_rfl) rfl (fun K hK => ?_)
 go_simp
 refine (l4Put_own _ (([3]) ++ numB (txn) 4) (prev) 8 _ (by unfold IsI; omega) (by unfold IsI; omega) (by omega) HOq1.out).mono ?_
 rintro e wq2 ⟨aq2, nq2, cq2, rfl, hown, hg⟩
 have HOq2 := (show Hid (Own 0 5 .u8 wq2 (.slice aq2 nq2 cq2) ((([3]) ++ numB (txn) 4) ++ numB (prev) 8)) from hown)
 have HKq2 := hid (hg.same HKq1.out HFq1.out)
 have HFq2 := hid (hg.fresh HKq1.out HFq1.out)
 have bq2 := b0.same HKq2.out
 have hlq2 : ((([3]) ++ numB (txn) 4) ++ numB (prev) 8).length ≤ 17 := by rw [List.length_append]; have := numB_length (prev) 8; omega
 clear hown hg
 have hS : Y1 wq2 := by exact ⟨bq2.cell 0, bq2.cell 1, bq2.cell 2⟩
 refine hK.out _ _ (fun _ => hS) ?_
 clear hK K
 try simp only [Act.put, sA, s0, sS]
 refine tk 10 3 hS ?_
 refine wpAnyV_done (by kernel_rfl) ?_
 have dq2_0 := bq2.c0
 go_wp2
 go_ret
 exact ⟨_, _, _, rfl, by simpa [headR] using HOq2.out, fun b hb => by have := HFq2.out b hb; simp at this; omega, ((Kept.refl _ _).alloc _).trans HKq2.out⟩
theorem encS_4 (x : StLogRecord) (w : World) (hB : x.isB) (hn : x.szs ≤ 1073741824) (hv : StLogRecord.rd w x) (hk : x.kind = 4) (hz : recFd x.dat = 0) :
  Calls Tryz.prog 21 #[x.val] w fun e w' => ∃ aa nn cc, e = .returned (.slice aa nn cc) ∧ Own 0 5 .u8 w' (.slice aa nn cc) (recBd x.dat) ∧ (∀ b, (Value.slice aa nn cc).ownBlock = some b → w.heap.size ≤ b) ∧ Same w w' := by
 have hF := fun wx (h : Same w wx) => specRec_any x wx hB hn (StLogRecord.rd.same hv h)
 rw [hz] at hF
 obtain ⟨kind, txn, prev, page, slot, ⟨bU, ⟨bDe, bDa, bDc, bDb⟩⟩, ⟨aU, ⟨aDe, aDa, aDc, aDb⟩⟩, uN, nT, ⟨tXe, tXa, tXn, tXc, tXb⟩, ⟨dYe, dYa, dYn, dYc, dYb⟩, ⟨iMe, iMa, iMc, iMb⟩⟩ := x
 obtain ⟨hvb, hva, hvt, hvd, hvi⟩ := hv
 have HRB := (show Hid (Rd .u8 w (.slice bDa bDb.length bDc) bDb) from hvb)
 have HRA := (show Hid (Rd .u8 w (.slice aDa aDb.length aDc) aDb) from hva)
 have HRI := (show Hid (Rd .u8 w (.slice iMa iMb.length iMc) iMb) from hvi)
 dsimp only at hk
 subst hk
 have hg := (show recF 4 txn prev page slot bU bDb aU aDb uN nT tXb dYb iMb = 0 from hz)
 obtain ⟨hh1, hh2⟩ := good4 hg
 simp only [StLogRecord.szs, StPageRecord.szs] at hn
 clear hz hB hvb hva hvt hvd hvi hg
 dsimp only [StLogRecord.val, StPageRecord.val, BS.v, FR.v, recBd, StLogRecord.dat, StPageRecord.dat, recBy] at hF ⊢
 have b0 := Blk.newL w [.int .i64 4, .int .i64 txn, .int .i64 prev, .int .i64 page, .int .i64 slot, .bool bU, .slice bDa bDb.length bDc, .bool aU, .slice aDa aDb.length aDc, .int .i64 uN, .int .i64 nT, .slice tXa tXn tXc, .slice dYa dYn dYc, .slice iMa iMb.length iMc] 35
 have hF := hF _ ((Kept.refl _ _).alloc (.cells #[.int .i64 4, .int .i64 txn, .int .i64 prev, .int .i64 page, .int .i64 slot, .bool bU, .slice bDa bDb.length bDc, .bool aU, .slice aDa aDb.length aDc, .int .i64 uN, .int .i64 nT, .slice tXa tXn tXc, .slice dYa dYn dYc, .slice iMa iMb.length iMc] 35))
 have hwz := (show w.heap.size + 1 = (w.alloc (.cells #[.int .i64 4, .int .i64 txn, .int .i64 prev, .int .i64 page, .int .i64 slot, .bool bU, .slice bDa bDb.length bDc, .bool aU, .slice aDa aDb.length aDc, .int .i64 uN, .int .i64 nT, .slice tXa tXn tXc, .slice dYa dYn dYc, .slice iMa iMb.length iMc] 35)).heap.size from by simp)
 go_enter Tryz.func21, Tryz.ntmps21
 go_wp2_with (go_at_call 17; refine hF.mono ?_; rintro e w1 ⟨rfl, hk1⟩; have HK1 := (show Hid (Same (w.alloc (.cells #[.int .i64 4, .int .i64 txn, .int .i64 prev, .int .i64 page, .int .i64 slot, .bool bU, .slice bDa bDb.length bDc, .bool aU, .slice aDa aDb.length aDc, .int .i64 uN, .int .i64 nT, .slice tXa tXn tXc, .slice dYa dYn dYc, .slice iMa iMb.length iMc] 35)) w1) from hk1); have b1 := b0.same HK1.out; clear hk1)
 have hzz := HK1.out.size
 have HK2 := (show Hid (Same (w.alloc (.cells #[.int .i64 4, .int .i64 txn, .int .i64 prev, .int .i64 page, .int .i64 slot, .bool bU, .slice bDa bDb.length bDc, .bool aU, .slice aDa aDb.length aDc, .int .i64 uN, .int .i64 nT, .slice tXa tXn tXc, .slice dYa dYn dYc, .slice iMa iMb.length iMc] 35)) (w1.drew.alloc (.cells #[.int .u8 4] 5))) from HK1.out.drew.alloc _)
 have HO2 := (show Hid (Own 0 5 .u8 (w1.drew.alloc (.cells #[.int .u8 4] 5)) (.slice (some ⟨w1.heap.size, 0, none⟩) 1 1) [4]) from (show Blk (w1.drew.alloc (.cells #[.int .u8 4] 5)) w1.heap.size 5 (vals .u8 [4]) from Blk.new w1.drew #[.int .u8 4] 5).own (by unfold maxLen; simp))
 have HF2 := (show Hid (∀ b, (Value.slice (some ⟨w1.heap.size, 0, none⟩) 1 1).ownBlock = some b → (w.alloc (.cells #[.int .i64 4, .int .i64 txn, .int .i64 prev, .int .i64 page, .int .i64 slot, .bool bU, .slice bDa bDb.length bDc, .bool aU, .slice aDa aDb.length aDc, .int .i64 uN, .int .i64 nT, .slice tXa tXn tXc, .slice dYa dYn dYc, .slice iMa iMb.length iMc] 35)).heap.size ≤ b) from fun b hb => by have hb : w1.heap.size = b := Option.some.inj hb; omega)
 have b2 := b0.same HK2.out
 have hl2 : ([4] : List Int).length ≤ 1 := by simp
 let Y1 : World → Prop := fun wx : World => wx.cell? ⟨w.heap.size, 0, none⟩ = some (.int .i64 4) ∧ wx.cell? ⟨w.heap.size, 1, none⟩ = some (.int .i64 txn) ∧ wx.cell? ⟨w.heap.size, 2, none⟩ = some (.int .i64 prev)
 have hS : Y1 w1.drew := by exact ⟨b1.cell 0, b1.cell 1, b1.cell 2⟩
 refine wp_region_V Y1 99 11 rfl (by kernel_rfl) ?_
 refine tk 0 11 hS ?_
 refine tk 1 12 hS ?_
 refine tk 2 13 hS ?_
 refine tk 4 15 hS ?_
 refine tk 5 16 hS ?_
 refine tk 7 18 hS ?_
 refine tk 8 19 hS ?_
 refine wpAnyV_one (i := 3) (by kernel_rfl) rfl (fun K hK => ?_)
 go_simp
 have hS : Y1 (w1.drew.alloc (.cells #[.int .u8 4] 5)) := by exact ⟨b2.cell 0, b2.cell 1, b2.cell 2⟩
 refine hK.out _ _ (fun _ => hS) ?_
 clear hK K
 try simp only [Act.put, sA, s0, sS]
 refine wpAnyV_one (i := 6) (by kernel_rfl) rfl (fun K hK => ?_)
 go_simp
 refine (l4Put_own _ ([4]) (txn) 4 _ (by unfold IsI; omega) (by unfold IsI; omega) (by omega) HO2.out).mono ?_
 rintro e wq1 ⟨aq1, nq1, cq1, rfl, hown, hg⟩
 have HOq1 := (show Hid (Own 0 5 .u8 wq1 (.slice aq1 nq1 cq1) (([4]) ++ numB (txn) 4)) from hown)
 have HKq1 := hid (hg.same HK2.out HF2.out)
 have HFq1 := hid (hg.fresh HK2.out HF2.out)
 have bq1 := b0.same HKq1.out
 have hlq1 : (([4]) ++ numB (txn) 4).length ≤ 9 := by rw [List.length_append]; have := numB_length (txn) 4; omega
 clear hown hg
 have hS : Y1 wq1 := by exact ⟨bq1.cell 0, bq1.cell 1, bq1.cell 2⟩
 refine hK.out _ _ (fun _ => hS) ?_
 clear hK K
 try simp only [Act.put, sA, s0, sS]
 refine wpAnyV_one (i := 9) (by kernel_rfl) rfl (fun K hK => ?_)
 go_simp
 refine (l4Put_own _ (([4]) ++ numB (txn) 4) (prev) 8 _ (by unfold IsI; omega) (by unfold IsI; omega) (by omega) HOq1.out).mono ?_
 rintro e wq2 ⟨aq2, nq2, cq2, rfl, hown, hg⟩
 have HOq2 := (show Hid (Own 0 5 .u8 wq2 (.slice aq2 nq2 cq2) ((([4]) ++ numB (txn) 4) ++ numB (prev) 8)) from hown)
 have HKq2 := hid (hg.same HKq1.out HFq1.out)
 have HFq2 := hid (hg.fresh HKq1.out HFq1.out)
 have bq2 := b0.same HKq2.out
 have hlq2 : ((([4]) ++ numB (txn) 4) ++ numB (prev) 8).length ≤ 17 := by rw [List.length_append]; have := numB_length (prev) 8; omega
 clear hown hg
 have hS : Y1 wq2 := by exact ⟨bq2.cell 0, bq2.cell 1, bq2.cell 2⟩
 refine hK.out _ _ (fun _ => hS) ?_
 clear hK K
 try simp only [Act.put, sA, s0, sS]
 refine tk 10 3 hS ?_
 refine wpAnyV_done (by kernel_rfl) ?_
 have dq2_0 := bq2.c0
 go_wp2
 go_ret
 exact ⟨_, _, _, rfl, by simpa [headR] using HOq2.out, fun b hb => by have := HFq2.out b hb; simp at this; omega, ((Kept.refl _ _).alloc _).trans HKq2.out⟩
theorem encS_5 (x : StLogRecord) (w : World) (hB : x.isB) (hn : x.szs ≤ 1073741824) (hv : StLogRecord.rd w x) (hk : x.kind = 5) (hz : recFd x.dat = 0) :
  Calls Tryz.prog 21 #[x.val] w fun e w' => ∃ aa nn cc, e = .returned (.slice aa nn cc) ∧ Own 0 5 .u8 w' (.slice aa nn cc) (recBd x.dat) ∧ (∀ b, (Value.slice aa nn cc).ownBlock = some b → w.heap.size ≤ b) ∧ Same w w' := by
 have hF := fun wx (h : Same w wx) => specRec_any x wx hB hn (StLogRecord.rd.same hv h)
 rw [hz] at hF
 obtain ⟨kind, txn, prev, page, slot, ⟨bU, ⟨bDe, bDa, bDc, bDb⟩⟩, ⟨aU, ⟨aDe, aDa, aDc, aDb⟩⟩, uN, nT, ⟨tXe, tXa, tXn, tXc, tXb⟩, ⟨dYe, dYa, dYn, dYc, dYb⟩, ⟨iMe, iMa, iMc, iMb⟩⟩ := x
 obtain ⟨hvb, hva, hvt, hvd, hvi⟩ := hv
 have HRB := (show Hid (Rd .u8 w (.slice bDa bDb.length bDc) bDb) from hvb)
 have HRA := (show Hid (Rd .u8 w (.slice aDa aDb.length aDc) aDb) from hva)
 have HRI := (show Hid (Rd .u8 w (.slice iMa iMb.length iMc) iMb) from hvi)
 dsimp only at hk
 subst hk
 have hg := (show recF 5 txn prev page slot bU bDb aU aDb uN nT tXb dYb iMb = 0 from hz)
 obtain ⟨hh1, hh2⟩ := good5 hg
 simp only [StLogRecord.szs, StPageRecord.szs] at hn
 clear hz hB hvb hva hvt hvd hvi hg
 dsimp only [StLogRecord.val, StPageRecord.val, BS.v, FR.v, recBd, StLogRecord.dat, StPageRecord.dat, recBy] at hF ⊢
 have b0 := Blk.newL w [.int .i64 5, .int .i64 txn, .int .i64 prev, .int .i64 page, .int .i64 slot, .bool bU, .slice bDa bDb.length bDc, .bool aU, .slice aDa aDb.length aDc, .int .i64 uN, .int .i64 nT, .slice tXa tXn tXc, .slice dYa dYn dYc, .slice iMa iMb.length iMc] 35
 have hF := hF _ ((Kept.refl _ _).alloc (.cells #[.int .i64 5, .int .i64 txn, .int .i64 prev, .int .i64 page, .int .i64 slot, .bool bU, .slice bDa bDb.length bDc, .bool aU, .slice aDa aDb.length aDc, .int .i64 uN, .int .i64 nT, .slice tXa tXn tXc, .slice dYa dYn dYc, .slice iMa iMb.length iMc] 35))
 have hwz := (show w.heap.size + 1 = (w.alloc (.cells #[.int .i64 5, .int .i64 txn, .int .i64 prev, .int .i64 page, .int .i64 slot, .bool bU, .slice bDa bDb.length bDc, .bool aU, .slice aDa aDb.length aDc, .int .i64 uN, .int .i64 nT, .slice tXa tXn tXc, .slice dYa dYn dYc, .slice iMa iMb.length iMc] 35)).heap.size from by simp)
 go_enter Tryz.func21, Tryz.ntmps21
 go_wp2_with (go_at_call 17; refine hF.mono ?_; rintro e w1 ⟨rfl, hk1⟩; have HK1 := (show Hid (Same (w.alloc (.cells #[.int .i64 5, .int .i64 txn, .int .i64 prev, .int .i64 page, .int .i64 slot, .bool bU, .slice bDa bDb.length bDc, .bool aU, .slice aDa aDb.length aDc, .int .i64 uN, .int .i64 nT, .slice tXa tXn tXc, .slice dYa dYn dYc, .slice iMa iMb.length iMc] 35)) w1) from hk1); have b1 := b0.same HK1.out; clear hk1)
 have hzz := HK1.out.size
 have HK2 := (show Hid (Same (w.alloc (.cells #[.int .i64 5, .int .i64 txn, .int .i64 prev, .int .i64 page, .int .i64 slot, .bool bU, .slice bDa bDb.length bDc, .bool aU, .slice aDa aDb.length aDc, .int .i64 uN, .int .i64 nT, .slice tXa tXn tXc, .slice dYa dYn dYc, .slice iMa iMb.length iMc] 35)) (w1.drew.alloc (.cells #[.int .u8 5] 5))) from HK1.out.drew.alloc _)
 have HO2 := (show Hid (Own 0 5 .u8 (w1.drew.alloc (.cells #[.int .u8 5] 5)) (.slice (some ⟨w1.heap.size, 0, none⟩) 1 1) [5]) from (show Blk (w1.drew.alloc (.cells #[.int .u8 5] 5)) w1.heap.size 5 (vals .u8 [5]) from Blk.new w1.drew #[.int .u8 5] 5).own (by unfold maxLen; simp))
 have HF2 := (show Hid (∀ b, (Value.slice (some ⟨w1.heap.size, 0, none⟩) 1 1).ownBlock = some b → (w.alloc (.cells #[.int .i64 5, .int .i64 txn, .int .i64 prev, .int .i64 page, .int .i64 slot, .bool bU, .slice bDa bDb.length bDc, .bool aU, .slice aDa aDb.length aDc, .int .i64 uN, .int .i64 nT, .slice tXa tXn tXc, .slice dYa dYn dYc, .slice iMa iMb.length iMc] 35)).heap.size ≤ b) from fun b hb => by have hb : w1.heap.size = b := Option.some.inj hb; omega)
 have b2 := b0.same HK2.out
 have hl2 : ([5] : List Int).length ≤ 1 := by simp
 let Y1 : World → Prop := fun wx : World => wx.cell? ⟨w.heap.size, 0, none⟩ = some (.int .i64 5) ∧ wx.cell? ⟨w.heap.size, 1, none⟩ = some (.int .i64 txn) ∧ wx.cell? ⟨w.heap.size, 2, none⟩ = some (.int .i64 prev)
 have hS : Y1 w1.drew := by exact ⟨b1.cell 0, b1.cell 1, b1.cell 2⟩
 refine wp_region_V Y1 99 11 rfl (by kernel_rfl) ?_
 refine tk 0 11 hS ?_
 refine tk 1 12 hS ?_
 refine tk 2 13 hS ?_
 refine tk 4 15 hS ?_
 refine tk 5 16 hS ?_
 refine tk 7 18 hS ?_
 refine tk 8 19 hS ?_
 refine wpAnyV_one (i := 3) (by kernel_rfl) rfl (fun K hK => ?_)
 go_simp
 have hS : Y1 (w1.drew.alloc (.cells #[.int .u8 5] 5)) := by exact ⟨b2.cell 0, b2.cell 1, b2.cell 2⟩
 refine hK.out _ _ (fun _ => hS) ?_
 clear hK K
 try simp only [Act.put, sA, s0, sS]
 refine wpAnyV_one (i := 6) (by kernel_rfl) rfl (fun K hK => ?_)
 go_simp
 refine (l4Put_own _ ([5]) (txn) 4 _ (by unfold IsI; omega) (by unfold IsI; omega) (by omega) HO2.out).mono ?_
 rintro e wq1 ⟨aq1, nq1, cq1, rfl, hown, hg⟩
 have HOq1 := (show Hid (Own 0 5 .u8 wq1 (.slice aq1 nq1 cq1) (([5]) ++ numB (txn) 4)) from hown)
 have HKq1 := hid (hg.same HK2.out HF2.out)
 have HFq1 := hid (hg.fresh HK2.out HF2.out)
 have bq1 := b0.same HKq1.out
 have hlq1 : (([5]) ++ numB (txn) 4).length ≤ 9 := by rw [List.length_append]; have := numB_length (txn) 4; omega
 clear hown hg
 have hS : Y1 wq1 := by exact ⟨bq1.cell 0, bq1.cell 1, bq1.cell 2⟩
 refine hK.out _ _ (fun _ => hS) ?_
 clear hK K
 try simp only [Act.put, sA, s0, sS]
 refine wpAnyV_one (i := 9) (by kernel_rfl) rfl (fun K hK => ?_)
 go_simp
 refine (l4Put_own _ (([5]) ++ numB (txn) 4) (prev) 8 _ (by unfold IsI; omega) (by unfold IsI; omega) (by omega) HOq1.out).mono ?_
 rintro e wq2 ⟨aq2, nq2, cq2, rfl, hown, hg⟩
 have HOq2 := (show Hid (Own 0 5 .u8 wq2 (.slice aq2 nq2 cq2) ((([5]) ++ numB (txn) 4) ++ numB (prev) 8)) from hown)
 have HKq2 := hid (hg.same HKq1.out HFq1.out)
 have HFq2 := hid (hg.fresh HKq1.out HFq1.out)
 have bq2 := b0.same HKq2.out
 have hlq2 : ((([5]) ++ numB (txn) 4) ++ numB (prev) 8).length ≤ 17 := by rw [List.length_append]; have := numB_length (prev) 8; omega
 clear hown hg
 have hS : Y1 wq2 := by exact ⟨bq2.cell 0, bq2.cell 1, bq2.cell 2⟩
 refine hK.out _ _ (fun _ => hS) ?_
 clear hK K
 try simp only [Act.put, sA, s0, sS]
 refine tk 10 3 hS ?_
 refine wpAnyV_done (by kernel_rfl) ?_
 have dq2_0 := bq2.c0
 go_wp2
 go_ret
 exact ⟨_, _, _, rfl, by simpa [headR] using HOq2.out, fun b hb => by have := HFq2.out b hb; simp at this; omega, ((Kept.refl _ _).alloc _).trans HKq2.out⟩
theorem encS_6 (x : StLogRecord) (w : World) (hB : x.isB) (hn : x.szs ≤ 1073741824) (hv : StLogRecord.rd w x) (hk : x.kind = 6) (hz : recFd x.dat = 0) :
  Calls Tryz.prog 21 #[x.val] w fun e w' => ∃ aa nn cc, e = .returned (.slice aa nn cc) ∧ Own 0 5 .u8 w' (.slice aa nn cc) (recBd x.dat) ∧ (∀ b, (Value.slice aa nn cc).ownBlock = some b → w.heap.size ≤ b) ∧ Same w w' := by
 have hF := fun wx (h : Same w wx) => specRec_any x wx hB hn (StLogRecord.rd.same hv h)
 rw [hz] at hF
 obtain ⟨kind, txn, prev, page, slot, ⟨bU, ⟨bDe, bDa, bDc, bDb⟩⟩, ⟨aU, ⟨aDe, aDa, aDc, aDb⟩⟩, uN, nT, ⟨tXe, tXa, tXn, tXc, tXb⟩, ⟨dYe, dYa, dYn, dYc, dYb⟩, ⟨iMe, iMa, iMc, iMb⟩⟩ := x
 obtain ⟨hvb, hva, hvt, hvd, hvi⟩ := hv
 have HRB := (show Hid (Rd .u8 w (.slice bDa bDb.length bDc) bDb) from hvb)
 have HRA := (show Hid (Rd .u8 w (.slice aDa aDb.length aDc) aDb) from hva)
 have HRI := (show Hid (Rd .u8 w (.slice iMa iMb.length iMc) iMb) from hvi)
 dsimp only at hk
 subst hk
 have hg := (show recF 6 txn prev page slot bU bDb aU aDb uN nT tXb dYb iMb = 0 from hz)
 obtain ⟨ht0, hp0⟩ := good6 hg
 have ht1 : 0 ≤ txn ∧ txn ≤ 1 := by omega
 have hp1b : 0 ≤ prev ∧ prev ≤ 1 := by omega
 clear ht0 hp0
 simp only [StLogRecord.szs, StPageRecord.szs] at hn
 clear hz hB hvb hva hvt hvd hvi hg
 dsimp only [StLogRecord.val, StPageRecord.val, BS.v, FR.v, recBd, StLogRecord.dat, StPageRecord.dat, recBy] at hF ⊢
 have b0 := Blk.newL w [.int .i64 6, .int .i64 txn, .int .i64 prev, .int .i64 page, .int .i64 slot, .bool bU, .slice bDa bDb.length bDc, .bool aU, .slice aDa aDb.length aDc, .int .i64 uN, .int .i64 nT, .slice tXa tXn tXc, .slice dYa dYn dYc, .slice iMa iMb.length iMc] 35
 have hF := hF _ ((Kept.refl _ _).alloc (.cells #[.int .i64 6, .int .i64 txn, .int .i64 prev, .int .i64 page, .int .i64 slot, .bool bU, .slice bDa bDb.length bDc, .bool aU, .slice aDa aDb.length aDc, .int .i64 uN, .int .i64 nT, .slice tXa tXn tXc, .slice dYa dYn dYc, .slice iMa iMb.length iMc] 35))
 have hwz := (show w.heap.size + 1 = (w.alloc (.cells #[.int .i64 6, .int .i64 txn, .int .i64 prev, .int .i64 page, .int .i64 slot, .bool bU, .slice bDa bDb.length bDc, .bool aU, .slice aDa aDb.length aDc, .int .i64 uN, .int .i64 nT, .slice tXa tXn tXc, .slice dYa dYn dYc, .slice iMa iMb.length iMc] 35)).heap.size from by simp)
 go_enter Tryz.func21, Tryz.ntmps21
 go_wp2_with (go_at_call 17; refine hF.mono ?_; rintro e w1 ⟨rfl, hk1⟩; have HK1 := (show Hid (Same (w.alloc (.cells #[.int .i64 6, .int .i64 txn, .int .i64 prev, .int .i64 page, .int .i64 slot, .bool bU, .slice bDa bDb.length bDc, .bool aU, .slice aDa aDb.length aDc, .int .i64 uN, .int .i64 nT, .slice tXa tXn tXc, .slice dYa dYn dYc, .slice iMa iMb.length iMc] 35)) w1) from hk1); have b1 := b0.same HK1.out; clear hk1)
 have hzz := HK1.out.size
 have HK2 := (show Hid (Same (w.alloc (.cells #[.int .i64 6, .int .i64 txn, .int .i64 prev, .int .i64 page, .int .i64 slot, .bool bU, .slice bDa bDb.length bDc, .bool aU, .slice aDa aDb.length aDc, .int .i64 uN, .int .i64 nT, .slice tXa tXn tXc, .slice dYa dYn dYc, .slice iMa iMb.length iMc] 35)) (w1.drew.alloc (.cells #[.int .u8 6] 5))) from HK1.out.drew.alloc _)
 have HO2 := (show Hid (Own 0 5 .u8 (w1.drew.alloc (.cells #[.int .u8 6] 5)) (.slice (some ⟨w1.heap.size, 0, none⟩) 1 1) [6]) from (show Blk (w1.drew.alloc (.cells #[.int .u8 6] 5)) w1.heap.size 5 (vals .u8 [6]) from Blk.new w1.drew #[.int .u8 6] 5).own (by unfold maxLen; simp))
 have HF2 := (show Hid (∀ b, (Value.slice (some ⟨w1.heap.size, 0, none⟩) 1 1).ownBlock = some b → (w.alloc (.cells #[.int .i64 6, .int .i64 txn, .int .i64 prev, .int .i64 page, .int .i64 slot, .bool bU, .slice bDa bDb.length bDc, .bool aU, .slice aDa aDb.length aDc, .int .i64 uN, .int .i64 nT, .slice tXa tXn tXc, .slice dYa dYn dYc, .slice iMa iMb.length iMc] 35)).heap.size ≤ b) from fun b hb => by have hb : w1.heap.size = b := Option.some.inj hb; omega)
 have b2 := b0.same HK2.out
 have hl2 : ([6] : List Int).length ≤ 1 := by simp
 let Y1 : World → Prop := fun wx : World => wx.cell? ⟨w.heap.size, 0, none⟩ = some (.int .i64 6) ∧ wx.cell? ⟨w.heap.size, 1, none⟩ = some (.int .i64 txn) ∧ wx.cell? ⟨w.heap.size, 2, none⟩ = some (.int .i64 prev)
 have hS : Y1 w1.drew := by exact ⟨b1.cell 0, b1.cell 1, b1.cell 2⟩
 refine wp_region_V Y1 99 11 rfl (by kernel_rfl) ?_
 refine tk 0 11 hS ?_
 refine tk 1 12 hS ?_
 refine tk 2 13 hS ?_
 refine tk 4 15 hS ?_
 refine tk 5 16 hS ?_
 refine tk 7 18 hS ?_
 refine tk 8 19 hS ?_
 refine wpAnyV_one (i := 3) (by kernel_rfl) rfl (fun K hK => ?_)
 go_simp
 have hS : Y1 (w1.drew.alloc (.cells #[.int .u8 6] 5)) := by exact ⟨b2.cell 0, b2.cell 1, b2.cell 2⟩
 refine hK.out _ _ (fun _ => hS) ?_
 clear hK K
 try simp only [Act.put, sA, s0, sS]
 refine wpAnyV_one (i := 6) (by kernel_rfl) rfl (fun K hK => ?_)
 go_simp
 refine (l4Put_own _ ([6]) (txn) 4 _ (by unfold IsI; omega) (by unfold IsI; omega) (by omega) HO2.out).mono ?_
 rintro e wq1 ⟨aq1, nq1, cq1, rfl, hown, hg⟩
 have HOq1 := (show Hid (Own 0 5 .u8 wq1 (.slice aq1 nq1 cq1) (([6]) ++ numB (txn) 4)) from hown)
 have HKq1 := hid (hg.same HK2.out HF2.out)
 have HFq1 := hid (hg.fresh HK2.out HF2.out)
 have bq1 := b0.same HKq1.out
 have hlq1 : (([6]) ++ numB (txn) 4).length ≤ 9 := by rw [List.length_append]; have := numB_length (txn) 4; omega
 clear hown hg
 have hS : Y1 wq1 := by exact ⟨bq1.cell 0, bq1.cell 1, bq1.cell 2⟩
 refine hK.out _ _ (fun _ => hS) ?_
 clear hK K
 try simp only [Act.put, sA, s0, sS]
 refine wpAnyV_one (i := 9) (by kernel_rfl) rfl (fun K hK => ?_)
 go_simp
 refine (l4Put_own _ (([6]) ++ numB (txn) 4) (prev) 8 _ (by unfold IsI; omega) (by unfold IsI; omega) (by omega) HOq1.out).mono ?_
 rintro e wq2 ⟨aq2, nq2, cq2, rfl, hown, hg⟩
 have HOq2 := (show Hid (Own 0 5 .u8 wq2 (.slice aq2 nq2 cq2) ((([6]) ++ numB (txn) 4) ++ numB (prev) 8)) from hown)
 have HKq2 := hid (hg.same HKq1.out HFq1.out)
 have HFq2 := hid (hg.fresh HKq1.out HFq1.out)
 have bq2 := b0.same HKq2.out
 have hlq2 : ((([6]) ++ numB (txn) 4) ++ numB (prev) 8).length ≤ 17 := by rw [List.length_append]; have := numB_length (prev) 8; omega
 clear hown hg
 have hS : Y1 wq2 := by exact ⟨bq2.cell 0, bq2.cell 1, bq2.cell 2⟩
 refine hK.out _ _ (fun _ => hS) ?_
 clear hK K
 try simp only [Act.put, sA, s0, sS]
 refine tk 10 3 hS ?_
 refine wpAnyV_done (by kernel_rfl) ?_
 have dq2_0 := bq2.c0
 go_wp2
 go_ret
 exact ⟨_, _, _, rfl, by simpa [headR] using HOq2.out, fun b hb => by have := HFq2.out b hb; simp at this; omega, ((Kept.refl _ _).alloc _).trans HKq2.out⟩
theorem encS_8 (x : StLogRecord) (w : World) (hB : x.isB) (hn : x.szs ≤ 1073741824) (hv : StLogRecord.rd w x) (hk : x.kind = 8) (hz : recFd x.dat = 0) :
  Calls Tryz.prog 21 #[x.val] w fun e w' => ∃ aa nn cc, e = .returned (.slice aa nn cc) ∧ Own 0 5 .u8 w' (.slice aa nn cc) (recBd x.dat) ∧ (∀ b, (Value.slice aa nn cc).ownBlock = some b → w.heap.size ≤ b) ∧ Same w w' := by
 have hF := fun wx (h : Same w wx) => specRec_any x wx hB hn (StLogRecord.rd.same hv h)
 rw [hz] at hF
 obtain ⟨kind, txn, prev, page, slot, ⟨bU, ⟨bDe, bDa, bDc, bDb⟩⟩, ⟨aU, ⟨aDe, aDa, aDc, aDb⟩⟩, uN, nT, ⟨tXe, tXa, tXn, tXc, tXb⟩, ⟨dYe, dYa, dYn, dYc, dYb⟩, ⟨iMe, iMa, iMc, iMb⟩⟩ := x
 obtain ⟨hvb, hva, hvt, hvd, hvi⟩ := hv
 have HRB := (show Hid (Rd .u8 w (.slice bDa bDb.length bDc) bDb) from hvb)
 have HRA := (show Hid (Rd .u8 w (.slice aDa aDb.length aDc) aDb) from hva)
 have HRI := (show Hid (Rd .u8 w (.slice iMa iMb.length iMc) iMb) from hvi)
 dsimp only at hk
 subst hk
 have hg := (show recF 8 txn prev page slot bU bDb aU aDb uN nT tXb dYb iMb = 0 from hz)
 obtain ⟨ht0, hp0, hp1, hp2⟩ := good8 hg
 replace hp2 := Nat.le_of_eq hp2
 have ht1 : 0 ≤ txn ∧ txn ≤ 1 := by omega
 have hp1b : 0 ≤ prev ∧ prev ≤ 1 := by omega
 clear ht0 hp0
 simp only [StLogRecord.szs, StPageRecord.szs] at hn
 clear hz hB hvb hva hvt hvd hvi hg
 dsimp only [StLogRecord.val, StPageRecord.val, BS.v, FR.v, recBd, StLogRecord.dat, StPageRecord.dat, recBy] at hF ⊢
 have b0 := Blk.newL w [.int .i64 8, .int .i64 txn, .int .i64 prev, .int .i64 page, .int .i64 slot, .bool bU, .slice bDa bDb.length bDc, .bool aU, .slice aDa aDb.length aDc, .int .i64 uN, .int .i64 nT, .slice tXa tXn tXc, .slice dYa dYn dYc, .slice iMa iMb.length iMc] 35
 have hF := hF _ ((Kept.refl _ _).alloc (.cells #[.int .i64 8, .int .i64 txn, .int .i64 prev, .int .i64 page, .int .i64 slot, .bool bU, .slice bDa bDb.length bDc, .bool aU, .slice aDa aDb.length aDc, .int .i64 uN, .int .i64 nT, .slice tXa tXn tXc, .slice dYa dYn dYc, .slice iMa iMb.length iMc] 35))
 have hwz := (show w.heap.size + 1 = (w.alloc (.cells #[.int .i64 8, .int .i64 txn, .int .i64 prev, .int .i64 page, .int .i64 slot, .bool bU, .slice bDa bDb.length bDc, .bool aU, .slice aDa aDb.length aDc, .int .i64 uN, .int .i64 nT, .slice tXa tXn tXc, .slice dYa dYn dYc, .slice iMa iMb.length iMc] 35)).heap.size from by simp)
 go_enter Tryz.func21, Tryz.ntmps21
 go_wp2_with (go_at_call 17; refine hF.mono ?_; rintro e w1 ⟨rfl, hk1⟩; have HK1 := (show Hid (Same (w.alloc (.cells #[.int .i64 8, .int .i64 txn, .int .i64 prev, .int .i64 page, .int .i64 slot, .bool bU, .slice bDa bDb.length bDc, .bool aU, .slice aDa aDb.length aDc, .int .i64 uN, .int .i64 nT, .slice tXa tXn tXc, .slice dYa dYn dYc, .slice iMa iMb.length iMc] 35)) w1) from hk1); have b1 := b0.same HK1.out; clear hk1)
 have hzz := HK1.out.size
 have HK2 := (show Hid (Same (w.alloc (.cells #[.int .i64 8, .int .i64 txn, .int .i64 prev, .int .i64 page, .int .i64 slot, .bool bU, .slice bDa bDb.length bDc, .bool aU, .slice aDa aDb.length aDc, .int .i64 uN, .int .i64 nT, .slice tXa tXn tXc, .slice dYa dYn dYc, .slice iMa iMb.length iMc] 35)) (w1.drew.alloc (.cells #[.int .u8 8] 5))) from HK1.out.drew.alloc _)
 have HO2 := (show Hid (Own 0 5 .u8 (w1.drew.alloc (.cells #[.int .u8 8] 5)) (.slice (some ⟨w1.heap.size, 0, none⟩) 1 1) [8]) from (show Blk (w1.drew.alloc (.cells #[.int .u8 8] 5)) w1.heap.size 5 (vals .u8 [8]) from Blk.new w1.drew #[.int .u8 8] 5).own (by unfold maxLen; simp))
 have HF2 := (show Hid (∀ b, (Value.slice (some ⟨w1.heap.size, 0, none⟩) 1 1).ownBlock = some b → (w.alloc (.cells #[.int .i64 8, .int .i64 txn, .int .i64 prev, .int .i64 page, .int .i64 slot, .bool bU, .slice bDa bDb.length bDc, .bool aU, .slice aDa aDb.length aDc, .int .i64 uN, .int .i64 nT, .slice tXa tXn tXc, .slice dYa dYn dYc, .slice iMa iMb.length iMc] 35)).heap.size ≤ b) from fun b hb => by have hb : w1.heap.size = b := Option.some.inj hb; omega)
 have b2 := b0.same HK2.out
 have hl2 : ([8] : List Int).length ≤ 1 := by simp
 have hS : ((fun wx : World => wx.cell? ⟨w.heap.size, 0, none⟩ = some (.int .i64 8) ∧ wx.cell? ⟨w.heap.size, 1, none⟩ = some (.int .i64 txn) ∧ wx.cell? ⟨w.heap.size, 2, none⟩ = some (.int .i64 prev))) w1.drew := by exact ⟨b1.cell 0, b1.cell 1, b1.cell 2⟩
 refine wp_region_V ((fun wx : World => wx.cell? ⟨w.heap.size, 0, none⟩ = some (.int .i64 8) ∧ wx.cell? ⟨w.heap.size, 1, none⟩ = some (.int .i64 txn) ∧ wx.cell? ⟨w.heap.size, 2, none⟩ = some (.int .i64 prev))) 99 11 rfl (by kernel_rfl) ?_
 refine tk 0 11 hS ?_
 refine tk 1 12 hS ?_
 refine tk 2 13 hS ?_
 refine tk 4 15 hS ?_
 refine tk 5 16 hS ?_
 refine tk 7 18 hS ?_
 refine tk 8 19 hS ?_
 refine wpAnyV_one (i := 3) (by kernel_rfl) rfl (fun K hK => ?_)
 go_simp
 have hS : ((fun wx : World => wx.cell? ⟨w.heap.size, 0, none⟩ = some (.int .i64 8) ∧ wx.cell? ⟨w.heap.size, 1, none⟩ = some (.int .i64 txn) ∧ wx.cell? ⟨w.heap.size, 2, none⟩ = some (.int .i64 prev))) (w1.drew.alloc (.cells #[.int .u8 8] 5)) := by exact ⟨b2.cell 0, b2.cell 1, b2.cell 2⟩
 refine hK.out _ _ (fun _ => hS) ?_
 clear hK K
 try simp only [Act.put, sA, s0, sS]
 refine wpAnyV_one (i := 6) (by kernel_rfl) rfl (fun K hK => ?_)
 go_simp
 refine (l4Put_own _ ([8]) (txn) 4 _ (by unfold IsI; omega) (by unfold IsI; omega) (by omega) HO2.out).mono ?_
 rintro e wq1 ⟨aq1, nq1, cq1, rfl, hown, hg⟩
 have HOq1 := (show Hid (Own 0 5 .u8 wq1 (.slice aq1 nq1 cq1) (([8]) ++ numB (txn) 4)) from hown)
 have HKq1 := hid (hg.same HK2.out HF2.out)
 have HFq1 := hid (hg.fresh HK2.out HF2.out)
 have bq1 := b0.same HKq1.out
 have hlq1 : (([8]) ++ numB (txn) 4).length ≤ 9 := by rw [List.length_append]; have := numB_length (txn) 4; omega
 clear hown hg
 have hS : ((fun wx : World => wx.cell? ⟨w.heap.size, 0, none⟩ = some (.int .i64 8) ∧ wx.cell? ⟨w.heap.size, 1, none⟩ = some (.int .i64 txn) ∧ wx.cell? ⟨w.heap.size, 2, none⟩ = some (.int .i64 prev))) wq1 := by exact ⟨bq1.cell 0, bq1.cell 1, bq1.cell 2⟩
 refine hK.out _ _ (fun _ => hS) ?_
 clear hK K
 try simp only [Act.put, sA, s0, sS]
 refine wpAnyV_one (i := 9) (by kernel_rfl) rfl (fun K hK => ?_)
 go_simp
 refine (l4Put_own _ (([8]) ++ numB (txn) 4) (prev) 8 _ (by unfold IsI; omega) (by unfold IsI; omega) (by omega) HOq1.out).mono ?_
 rintro e wq2 ⟨aq2, nq2, cq2, rfl, hown, hg⟩
 have HOq2 := (show Hid (Own 0 5 .u8 wq2 (.slice aq2 nq2 cq2) ((([8]) ++ numB (txn) 4) ++ numB (prev) 8)) from hown)
 have HKq2 := hid (hg.same HKq1.out HFq1.out)
 have HFq2 := hid (hg.fresh HKq1.out HFq1.out)
 have bq2 := b0.same HKq2.out
 have hlq2 : ((([8]) ++ numB (txn) 4) ++ numB (prev) 8).length ≤ 17 := by rw [List.length_append]; have := numB_length (prev) 8; omega
 clear hown hg
 have hS : ((fun wx : World => wx.cell? ⟨w.heap.size, 0, none⟩ = some (.int .i64 8) ∧ wx.cell? ⟨w.heap.size, 1, none⟩ = some (.int .i64 txn) ∧ wx.cell? ⟨w.heap.size, 2, none⟩ = some (.int .i64 prev))) wq2 := by exact ⟨bq2.cell 0, bq2.cell 1, bq2.cell 2⟩
 refine hK.out _ _ (fun _ => hS) ?_
 clear hK K
 try simp only [Act.put, sA, s0, sS]
 refine tk 10 3 hS ?_
 refine wpAnyV_done (by kernel_rfl) ?_
 have dq2_0 := bq2.c0
 go_wp2_with fail
 have hS : ((fun wx : World => wx.cell? ⟨w.heap.size, 3, none⟩ = some (.int .i64 page) ∧ wx.cell? ⟨w.heap.size, 13, none⟩ = some (.slice iMa iMb.length iMc))) wq2.drew := by exact ⟨bq2.cell 3, bq2.cell 13⟩
 refine wp_region_V ((fun wx : World => wx.cell? ⟨w.heap.size, 3, none⟩ = some (.int .i64 page) ∧ wx.cell? ⟨w.heap.size, 13, none⟩ = some (.slice iMa iMb.length iMc))) 99 8 rfl (by kernel_rfl) ?_
 refine tk 0 119 hS ?_
 refine tk 1 120 hS ?_
 refine tk 2 121 hS ?_
 refine tk 4 123 hS ?_
 refine tk 5 124 hS ?_
 refine wpAnyV_one (i := 3) (by kernel_rfl) rfl (fun K hK => ?_)
 go_simp
 refine (l4Put_own _ ((([8]) ++ numB (txn) 4) ++ numB (prev) 8) (page) 2 _ (by unfold IsI; omega) (by unfold IsI; omega) (by omega) (HOq2.out.same (Kept.refl _ _).drew)).mono ?_
 rintro e wq3 ⟨aq3, nq3, cq3, rfl, hown, hg⟩
 have HOq3 := (show Hid (Own 0 5 .u8 wq3 (.slice aq3 nq3 cq3) (((([8]) ++ numB (txn) 4) ++ numB (prev) 8) ++ numB (page) 2)) from hown)
 have HKq3 := hid (hg.same HKq2.out.drew HFq2.out)
 have HFq3 := hid (hg.fresh HKq2.out.drew HFq2.out)
 have bq3 := b0.same HKq3.out
 have hlq3 : (((([8]) ++ numB (txn) 4) ++ numB (prev) 8) ++ numB (page) 2).length ≤ 25 := by rw [List.length_append]; have := numB_length (page) 2; omega
 clear hown hg
 have hS : ((fun wx : World => wx.cell? ⟨w.heap.size, 3, none⟩ = some (.int .i64 page) ∧ wx.cell? ⟨w.heap.size, 13, none⟩ = some (.slice iMa iMb.length iMc))) wq3 := by exact ⟨bq3.cell 3, bq3.cell 13⟩
 refine hK.out _ _ (fun _ => hS) ?_
 clear hK K
 try simp only [Act.put, sA, s0, sS]
 refine wpAnyV_one (i := 6) (by kernel_rfl) rfl (fun K hK => ?_)
 refine step_app (by rfl) (.tmp 122) (.tmp 124) (by rfl) (.slice aq3 nq3 cq3) (.slice iMa iMb.length iMc) (((([8]) ++ numB (txn) 4) ++ numB (prev) 8) ++ numB (page) 2) iMb (by rfl) (by rfl) HOq3.out ((HRI.out.same ((Kept.refl _ _).alloc _)).same HKq3.out) (by omega) ?_
 intro aq4 nq4 cq4 wq4 hown hg
 have HOq4 := (show Hid (Own 0 5 .u8 wq4 (.slice aq4 nq4 cq4) ((((([8]) ++ numB (txn) 4) ++ numB (prev) 8) ++ numB (page) 2) ++ iMb)) from hown)
 have HKq4 := hid (hg.same HKq3.out HFq3.out)
 have HFq4 := hid (hg.fresh HKq3.out HFq3.out)
 have bq4 := b0.same HKq4.out
 have hlq4 : ((((([8]) ++ numB (txn) 4) ++ numB (prev) 8) ++ numB (page) 2) ++ iMb).length ≤ 4121 := by rw [List.length_append]; skip; omega
 clear hown hg
 have hS : ((fun wx : World => wx.cell? ⟨w.heap.size, 3, none⟩ = some (.int .i64 page) ∧ wx.cell? ⟨w.heap.size, 13, none⟩ = some (.slice iMa iMb.length iMc))) wq4 := by exact ⟨bq4.cell 3, bq4.cell 13⟩
 refine hK.out _ _ (fun _ => hS) ?_
 clear hK K
 try simp only [Act.put, sA, s0, sS]
 refine tk 7 3 hS ?_
 refine wpAnyV_done (by kernel_rfl) ?_
 go_wp2
 go_ret
 exact ⟨_, _, _, rfl, by simpa [headR] using HOq4.out, fun b hb => by have := HFq4.out b hb; simp at this; omega, ((Kept.refl _ _).alloc _).trans HKq4.out⟩
end Go.Proofs.YtdgmecmkkddpeaaGreat
