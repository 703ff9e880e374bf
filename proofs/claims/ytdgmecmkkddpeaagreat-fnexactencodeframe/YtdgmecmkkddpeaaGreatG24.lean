import Derived.Test.YtdgmecmkkddpeaaGreatG19
import Derived.Test.YtdgmecmkkddpeaaGreatG22
import Derived.Test.YtdgmecmkkddpeaaGreatG23
import Derived.Test.YtdgmecmkkddpeaaGreatG07
namespace Go.Proofs.YtdgmecmkkddpeaaGreat
set_option maxRecDepth 100000
set_option maxHeartbeats 4000000
set_option linter.unusedVariables false
set_option linter.unusedSimpArgs false
open Go.RowKit
theorem encS_7 (x : StLogRecord) (w : World) (hB : x.isB) (hn : x.szs ≤ 1073741824) (hv : StLogRecord.rd w x) (hk : x.kind = 7) (hz : recFd x.dat = 0) :
    Calls Tryz.prog 21 #[x.val] w fun e w' => ∃ aa nn cc, e = .returned (.slice aa nn cc) ∧ Own 0 5 .u8 w' (.slice aa nn cc) (recBd x.dat) ∧ (∀ b, (Value.slice aa nn cc).ownBlock = some b → w.heap.size ≤ b) ∧ Same w w' := by
  have hF := fun wx (h : Same w wx) => specRec_any x wx hB hn (StLogRecord.rd.same hv h)
  rw [hz] at hF
  obtain ⟨kind, txn, prev, page, slot, ⟨bU, ⟨bDe, bDa, bDc, bDb⟩⟩, ⟨aU, ⟨aDe, aDa, aDc, aDb⟩⟩, uN, nT, ⟨tXe, tXa, tXn, tXc, tXb⟩, ⟨dYe, dYa, dYn, dYc, dYb⟩, ⟨iMe, iMa, iMc, iMb⟩⟩ := x
  obtain ⟨hvb, hva, hvt, hvd, hvi⟩ := hv
  have HRB := (show Hid (Rd .u8 w (.slice bDa bDb.length bDc) bDb) from hvb)
  have HRA := (show Hid (Rd .u8 w (.slice aDa aDb.length aDc) aDb) from hva)
  have HRI := (show Hid (Rd .u8 w (.slice iMa iMb.length iMc) iMb) from hvi)
  dsimp only at hk
  subst hk
  have hg := (show recF 7 txn prev page slot bU bDb aU aDb uN nT tXb dYb iMb = 0 from hz)
  obtain ⟨ht0, hp0, hh1, hh2, hh3⟩ := good7 hg
  have ht1 : 0 ≤ txn ∧ txn ≤ 1 := by omega
  have hp1b : 0 ≤ prev ∧ prev ≤ 1 := by omega
  clear ht0 hp0
  have HTX := (show Hid (0 < tXn → ∃ b off, tXa = some ⟨b, off, none⟩ ∧ tXn ≤ tXc ∧ ∀ i, i < tXn * 4 → w.cell? ⟨b, off + i, none⟩ = some (.int .i64 (tXb.getD i 0))) from fun h0 => hvt.2.2.resolve_left (fun h => by dsimp only at h; omega))
  have HDY := (show Hid (0 < dYn → ∃ b off, dYa = some ⟨b, off, none⟩ ∧ dYn ≤ dYc ∧ ∀ i, i < dYn * 2 → w.cell? ⟨b, off + i, none⟩ = some (.int .i64 (dYb.getD i 0))) from fun h0 => hvd.2.2.resolve_left (fun h => by dsimp only at h; omega))
  have e1 : tXb.length / 4 = tXn := by have := hvt.2.1; dsimp only at this; omega
  have e2 : dYb.length / 2 = dYn := by have := hvd.2.1; dsimp only at this; omega
  rw [e1] at hh2
  rw [e2] at hh3
  obtain ⟨hn8, htg⟩ := tXgood hh2
  obtain ⟨hn16, hdg⟩ := dYgood hh3
  have HTG := (show Hid (∀ i, i < tXn → _) from htg)
  have HDG := (show Hid (∀ i, i < dYn → _) from hdg)
  have HTN := (show Hid (tXb.length / 4 = tXn) from e1)
  have HDN := (show Hid (dYb.length / 2 = dYn) from e2)
  clear e1 e2 htg hdg hh2 hh3
  simp only [StLogRecord.szs, StPageRecord.szs] at hn
  clear hz hB hvb hva hvt hvd hvi hg
  dsimp only [StLogRecord.val, StPageRecord.val, BS.v, FR.v, recBd, StLogRecord.dat, StPageRecord.dat, recBy] at hF ⊢
  have b0 := Blk.newL w [.int .i64 7, .int .i64 txn, .int .i64 prev, .int .i64 page, .int .i64 slot, .bool bU, .slice bDa bDb.length bDc, .bool aU, .slice aDa aDb.length aDc, .int .i64 uN, .int .i64 nT, .slice tXa tXn tXc, .slice dYa dYn dYc, .slice iMa iMb.length iMc] 35
  have hF := hF _ ((Kept.refl _ _).alloc (.cells #[.int .i64 7, .int .i64 txn, .int .i64 prev, .int .i64 page, .int .i64 slot, .bool bU, .slice bDa bDb.length bDc, .bool aU, .slice aDa aDb.length aDc, .int .i64 uN, .int .i64 nT, .slice tXa tXn tXc, .slice dYa dYn dYc, .slice iMa iMb.length iMc] 35))
  have hwz := (show w.heap.size + 1 = (w.alloc (.cells #[.int .i64 7, .int .i64 txn, .int .i64 prev, .int .i64 page, .int .i64 slot, .bool bU, .slice bDa bDb.length bDc, .bool aU, .slice aDa aDb.length aDc, .int .i64 uN, .int .i64 nT, .slice tXa tXn tXc, .slice dYa dYn dYc, .slice iMa iMb.length iMc] 35)).heap.size from by simp)
  go_enter Tryz.func21, Tryz.ntmps21
  go_wp2_with (go_at_call 17; refine hF.mono ?_; rintro e w1 ⟨rfl, hk1⟩; have HK1 := (show Hid (Same (w.alloc (.cells #[.int .i64 7, .int .i64 txn, .int .i64 prev, .int .i64 page, .int .i64 slot, .bool bU, .slice bDa bDb.length bDc, .bool aU, .slice aDa aDb.length aDc, .int .i64 uN, .int .i64 nT, .slice tXa tXn tXc, .slice dYa dYn dYc, .slice iMa iMb.length iMc] 35)) w1) from hk1); have b1 := b0.same HK1.out; clear hk1)
  have hzz := HK1.out.size
  have HK2 := (show Hid (Same (w.alloc (.cells #[.int .i64 7, .int .i64 txn, .int .i64 prev, .int .i64 page, .int .i64 slot, .bool bU, .slice bDa bDb.length bDc, .bool aU, .slice aDa aDb.length aDc, .int .i64 uN, .int .i64 nT, .slice tXa tXn tXc, .slice dYa dYn dYc, .slice iMa iMb.length iMc] 35)) (w1.drew.alloc (.cells #[.int .u8 7] 5))) from HK1.out.drew.alloc _)
  have HO2 := (show Hid (Own 0 5 .u8 (w1.drew.alloc (.cells #[.int .u8 7] 5)) (.slice (some ⟨w1.heap.size, 0, none⟩) 1 1) [7]) from (show Blk (w1.drew.alloc (.cells #[.int .u8 7] 5)) w1.heap.size 5 (vals .u8 [7]) from Blk.new w1.drew #[.int .u8 7] 5).own (by unfold maxLen; simp))
  have HF2 := (show Hid (∀ b, (Value.slice (some ⟨w1.heap.size, 0, none⟩) 1 1).ownBlock = some b → (w.alloc (.cells #[.int .i64 7, .int .i64 txn, .int .i64 prev, .int .i64 page, .int .i64 slot, .bool bU, .slice bDa bDb.length bDc, .bool aU, .slice aDa aDb.length aDc, .int .i64 uN, .int .i64 nT, .slice tXa tXn tXc, .slice dYa dYn dYc, .slice iMa iMb.length iMc] 35)).heap.size ≤ b) from fun b hb => by have hb : w1.heap.size = b := Option.some.inj hb; omega)
  have b2 := b0.same HK2.out
  have hl2 : ([7] : List Int).length ≤ 1 := by simp
  let Y3 : World → Prop := fun wx : World => wx.cell? ⟨w.heap.size, 0, none⟩ = some (.int .i64 7) ∧ wx.cell? ⟨w.heap.size, 1, none⟩ = some (.int .i64 txn) ∧ wx.cell? ⟨w.heap.size, 2, none⟩ = some (.int .i64 prev)
  have hS : Y3 w1.drew := by exact ⟨b1.cell 0, b1.cell 1, b1.cell 2⟩
  refine wp_region_V Y3 99 11 rfl (by kernel_rfl) ?_
  refine tk 0 11 hS ?_
  refine tk 1 12 hS ?_
  refine tk 2 13 hS ?_
  refine tk 4 15 hS ?_
  refine tk 5 16 hS ?_
  refine tk 7 18 hS ?_
  refine tk 8 19 hS ?_
  refine wpAnyV_one (i := 3) (by kernel_rfl) rfl (fun K hK => ?_)
  go_simp
  have hS : Y3 (w1.drew.alloc (.cells #[.int .u8 7] 5)) := by exact ⟨b2.cell 0, b2.cell 1, b2.cell 2⟩
  refine hK.out _ _ (fun _ => hS) ?_
  clear hK K
  try simp only [Act.put, sA, s0, sS]
  refine wpAnyV_one (i := 6) (by kernel_rfl) rfl (fun K hK => ?_)
  go_simp
  refine (l4Put_own _ ([7]) (txn) 4 _ (by unfold IsI; omega) (by unfold IsI; omega) (by omega) HO2.out).mono ?_
  rintro e wq1 ⟨aq1, nq1, cq1, rfl, hown, hg⟩
  have HOq1 := (show Hid (Own 0 5 .u8 wq1 (.slice aq1 nq1 cq1) (([7]) ++ numB (txn) 4)) from hown)
  have HKq1 := hid (hg.same HK2.out HF2.out)
  have HFq1 := hid (hg.fresh HK2.out HF2.out)
  have bq1 := b0.same HKq1.out
  have hlq1 : (([7]) ++ numB (txn) 4).length ≤ 9 := by rw [List.length_append]; have := numB_length (txn) 4; omega
  clear hown hg
  have hS : Y3 wq1 := by exact ⟨bq1.cell 0, bq1.cell 1, bq1.cell 2⟩
  refine hK.out _ _ (fun _ => hS) ?_
  clear hK K
  try simp only [Act.put, sA, s0, sS]
  refine wpAnyV_one (i := 9) (by kernel_rfl) rfl (fun K hK => ?_)
  go_simp
  refine (l4Put_own _ (([7]) ++ numB (txn) 4) (prev) 8 _ (by unfold IsI; omega) (by unfold IsI; omega) (by omega) HOq1.out).mono ?_
  rintro e wq2 ⟨aq2, nq2, cq2, rfl, hown, hg⟩
  have HOq2 := (show Hid (Own 0 5 .u8 wq2 (.slice aq2 nq2 cq2) ((([7]) ++ numB (txn) 4) ++ numB (prev) 8)) from hown)
  have HKq2 := hid (hg.same HKq1.out HFq1.out)
  have HFq2 := hid (hg.fresh HKq1.out HFq1.out)
  have bq2 := b0.same HKq2.out
  have hlq2 : ((([7]) ++ numB (txn) 4) ++ numB (prev) 8).length ≤ 17 := by rw [List.length_append]; have := numB_length (prev) 8; omega
  clear hown hg
  have hS : Y3 wq2 := by exact ⟨bq2.cell 0, bq2.cell 1, bq2.cell 2⟩
  refine hK.out _ _ (fun _ => hS) ?_
  clear hK K
  try simp only [Act.put, sA, s0, sS]
  refine tk 10 3 hS ?_
  refine wpAnyV_done (by kernel_rfl) ?_
  have dq2_0 := bq2.c0
  go_wp2_with fail
  let Y4 : World → Prop := fun wx : World => wx.cell? ⟨w.heap.size, 10, none⟩ = some (.int .i64 nT) ∧ wx.cell? ⟨w.heap.size, 11, none⟩ = some (.slice tXa tXn tXc)
  have hS : Y4 wq2.drew := by exact ⟨bq2.cell 10, bq2.cell 11⟩
  refine wp_region_V Y4 99 9 rfl (by kernel_rfl) ?_
  refine tk 0 57 hS ?_
  refine tk 1 58 hS ?_
  refine tk 2 59 hS ?_
  refine tk 4 61 hS ?_
  refine tk 5 62 hS ?_
  refine tk 6 63 hS ?_
  refine wpAnyV_one (i := 3) (by kernel_rfl) rfl (fun K hK => ?_)
  go_simp
  refine (l4Put_own _ ((([7]) ++ numB (txn) 4) ++ numB (prev) 8) (nT) 4 _ (by unfold IsI; omega) (by unfold IsI; omega) (by omega) (HOq2.out.same (Kept.refl _ _).drew)).mono ?_
  rintro e wq3 ⟨aq3, nq3, cq3, rfl, hown, hg⟩
  have HOq3 := (show Hid (Own 0 5 .u8 wq3 (.slice aq3 nq3 cq3) (((([7]) ++ numB (txn) 4) ++ numB (prev) 8) ++ numB (nT) 4)) from hown)
  have HKq3 := hid (hg.same HKq2.out.drew HFq2.out)
  have HFq3 := hid (hg.fresh HKq2.out.drew HFq2.out)
  have bq3 := b0.same HKq3.out
  have hlq3 : (((([7]) ++ numB (txn) 4) ++ numB (prev) 8) ++ numB (nT) 4).length ≤ 25 := by rw [List.length_append]; have := numB_length (nT) 4; omega
  clear hown hg
  have hS : Y4 wq3 := by exact ⟨bq3.cell 10, bq3.cell 11⟩
  refine hK.out _ _ (fun _ => hS) ?_
  clear hK K
  try simp only [Act.put, sA, s0, sS]
  refine wpAnyV_one (i := 7) (by kernel_rfl) rfl (fun K hK => ?_)
  go_simp
  refine (l4Put_own _ (((([7]) ++ numB (txn) 4) ++ numB (prev) 8) ++ numB (nT) 4) (tXn) 1 _ (by unfold IsI; omega) (by unfold IsI; omega) (by omega) HOq3.out).mono ?_
  rintro e wq4 ⟨aq4, nq4, cq4, rfl, hown, hg⟩
  have HOq4 := (show Hid (Own 0 5 .u8 wq4 (.slice aq4 nq4 cq4) ((((([7]) ++ numB (txn) 4) ++ numB (prev) 8) ++ numB (nT) 4) ++ numB (tXn) 1)) from hown)
  have HKq4 := hid (hg.same HKq3.out HFq3.out)
  have HFq4 := hid (hg.fresh HKq3.out HFq3.out)
  have bq4 := b0.same HKq4.out
  have hlq4 : ((((([7]) ++ numB (txn) 4) ++ numB (prev) 8) ++ numB (nT) 4) ++ numB (tXn) 1).length ≤ 33 := by rw [List.length_append]; have := numB_length (tXn) 1; omega
  clear hown hg
  have hS : Y4 wq4 := by exact ⟨bq4.cell 10, bq4.cell 11⟩
  refine hK.out _ _ (fun _ => hS) ?_
  clear hK K
  try simp only [Act.put, sA, s0, sS]
  refine tk 8 3 hS ?_
  refine wpAnyV_done (by kernel_rfl) ?_
  go_wp2_with fail
  go_loopw [3, 4, 5] (fun v i _ wr => ∃ (k : Nat) (a : Option Addr) (n c : Nat), k ≤ tXn ∧ i = .int .i64 k ∧ v = .slice a n c ∧ Hid (Own 0 5 .u8 wr (.slice a n c) (((((([7]) ++ numB (txn) 4) ++ numB (prev) 8) ++ numB (nT) 4) ++ numB (tXn) 1) ++ txsB tXb k)) ∧ Hid (∀ b, (Value.slice a n c).ownBlock = some b → (w.alloc (.cells #[.int .i64 7, .int .i64 txn, .int .i64 prev, .int .i64 page, .int .i64 slot, .bool bU, .slice bDa bDb.length bDc, .bool aU, .slice aDa aDb.length aDc, .int .i64 uN, .int .i64 nT, .slice tXa tXn tXc, .slice dYa dYn dYc, .slice iMa iMb.length iMc] 35)).heap.size ≤ b) ∧ Hid (Same (w.alloc (.cells #[.int .i64 7, .int .i64 txn, .int .i64 prev, .int .i64 page, .int .i64 slot, .bool bU, .slice bDa bDb.length bDc, .bool aU, .slice aDa aDb.length aDc, .int .i64 uN, .int .i64 nT, .slice tXa tXn tXc, .slice dYa dYn dYc, .slice iMa iMb.length iMc] 35)) wr)) (fun _ i _ _ => tXn - (intOf i).toNat)
  case atStart => exact ⟨0, _, _, _, Nat.zero_le _, rfl, rfl, by rw [txsB_zero, List.append_nil]; exact HOq4, HFq4, HKq4⟩
  case round =>
    obtain ⟨k, ar, nr, cr, hk, rfl, rfl, HOr, HFr, HKr⟩ := hrel
    have br := b0.same HKr.out
    have dr := br.c11
    by_cases hlt : k < tXn
    · obtain ⟨tB, tO, hta, htle, htc⟩ := HTX.out (by omega)
      subst hta
      have q0 : wr.cell? ⟨tB, tO + k * 4, none⟩ = some (.int .i64 (tXb.getD (k * 4) 0)) := by have h := (((Kept.refl _ _).alloc _).trans HKr.out).cellOf (htc (k * 4) (by omega)) id; simpa only [Nat.add_assoc] using h
      have q1 : wr.cell? ⟨tB, tO + k * 4 + 1, none⟩ = some (.int .i64 (tXb.getD (k * 4 + 1) 0)) := by have h := (((Kept.refl _ _).alloc _).trans HKr.out).cellOf (htc (k * 4 + 1) (by omega)) id; simpa only [Nat.add_assoc] using h
      have q2 : wr.cell? ⟨tB, tO + k * 4 + 2, none⟩ = some (.int .i64 (tXb.getD (k * 4 + 2) 0)) := by have h := (((Kept.refl _ _).alloc _).trans HKr.out).cellOf (htc (k * 4 + 2) (by omega)) id; simpa only [Nat.add_assoc] using h
      have q3 : wr.cell? ⟨tB, tO + k * 4 + 3, none⟩ = some (.int .i64 (tXb.getD (k * 4 + 3) 0)) := by have h := (((Kept.refl _ _).alloc _).trans HKr.out).cellOf (htc (k * 4 + 3) (by omega)) id; simpa only [Nat.add_assoc] using h
      obtain ⟨hg0, hg1, hg2, hg3⟩ := HTG.out k hlt
      have HTB := (show Hid (txB tXb k = ((numB (tXb.getD (k * 4) 0) 4 ++ numB (tXb.getD (k * 4 + 1) 0) 1) ++ numB (tXb.getD (k * 4 + 2) 0) 8) ++ numB (tXb.getD (k * 4 + 3) 0) 8) from rfl)
      clear htc
      generalize tXb.getD (k * 4) 0 = t0 at *
      generalize tXb.getD (k * 4 + 1) 0 = t1 at *
      generalize tXb.getD (k * 4 + 2) 0 = t2 at *
      generalize tXb.getD (k * 4 + 3) 0 = t3 at *
      have hlr : (((((([7]) ++ numB (txn) 4) ++ numB (prev) 8) ++ numB (nT) 4) ++ numB (tXn) 1) ++ txsB tXb k).length ≤ 289 := by rw [List.length_append]; have := txsB_length tXb k; omega
      have be := br.alloc (.cells #[.int .i64 t0, .int .i64 t1, .int .i64 t2, .int .i64 t3] 67)
      have bt := Blk.new wr #[.int .i64 t0, .int .i64 t1, .int .i64 t2, .int .i64 t3] 67
      have bt : Blk (wr.alloc (.cells #[.int .i64 t0, .int .i64 t1, .int .i64 t2, .int .i64 t3] 67)) wr.heap.size 67 [.int .i64 t0, .int .i64 t1, .int .i64 t2, .int .i64 t3] := bt
      have HKe := hid (HKr.out.alloc (.cells #[.int .i64 t0, .int .i64 t1, .int .i64 t2, .int .i64 t3] 67))
      have hze := (show wr.heap.size + 1 = (wr.alloc (.cells #[.int .i64 t0, .int .i64 t1, .int .i64 t2, .int .i64 t3] 67)).heap.size from by simp)
      have hbr := br.lt
      have HNr := (show Hid (¬ (Value.slice ar nr cr).ownBlock = some wr.heap.size) from fun e => by have := (HOr.out.lt _ e).2; omega)
      go_wp2_with fail
      let Y1 : World → Prop := fun wx : World => wx.cell? ⟨wr.heap.size, 0, none⟩ = some (.int .i64 t0) ∧ wx.cell? ⟨wr.heap.size, 1, none⟩ = some (.int .i64 t1) ∧ wx.cell? ⟨wr.heap.size, 2, none⟩ = some (.int .i64 t2) ∧ wx.cell? ⟨wr.heap.size, 3, none⟩ = some (.int .i64 t3)
      have hS : Y1 (wr.alloc (.cells #[.int .i64 t0, .int .i64 t1, .int .i64 t2, .int .i64 t3] 67)).drew := by exact ⟨bt.cell 0, bt.cell 1, bt.cell 2, bt.cell 3⟩
      refine wp_region_V Y1 99 14 rfl (by kernel_rfl) ?_
      refine tk 0 77 hS ?_
      refine tk 1 78 hS ?_
      refine tk 2 79 hS ?_
      refine tk 4 81 hS ?_
      refine tk 5 82 hS ?_
      refine tk 7 84 hS ?_
      refine tk 8 85 hS ?_
      refine tk 10 87 hS ?_
      refine tk 11 88 hS ?_
      refine wpAnyV_one (i := 3) (by kernel_rfl) rfl (fun K hK => ?_)
      go_simp
      refine (l4Put_own _ (((((([7]) ++ numB (txn) 4) ++ numB (prev) 8) ++ numB (nT) 4) ++ numB (tXn) 1) ++ txsB tXb k) (t0) 4 _ (by unfold IsI; omega) (by unfold IsI; omega) (by omega) (HOr.out.same (((Kept.refl _ _).alloc _).drew))).mono ?_
      rintro e wq51 ⟨aq51, nq51, cq51, rfl, hown, hg⟩
      have bt0 := (bt.drew).kept hg.kept HNr.out
      have HNt0 := (show Hid (¬ (Value.slice aq51 nq51 cq51).ownBlock = some wr.heap.size) from fun e => (hg.own _ e).elim HNr.out (fun h => by have h := Nat.lt_of_lt_of_le (bt.drew).lt h; omega))
      have HOq51 := (show Hid (Own 0 5 .u8 wq51 (.slice aq51 nq51 cq51) ((((((([7]) ++ numB (txn) 4) ++ numB (prev) 8) ++ numB (nT) 4) ++ numB (tXn) 1) ++ txsB tXb k) ++ numB (t0) 4)) from hown)
      have HKq51 := hid (hg.same HKe.out.drew HFr.out)
      have HFq51 := hid (hg.fresh HKe.out.drew HFr.out)
      have bq51 := b0.same HKq51.out
      have hlq51 : ((((((([7]) ++ numB (txn) 4) ++ numB (prev) 8) ++ numB (nT) 4) ++ numB (tXn) 1) ++ txsB tXb k) ++ numB (t0) 4).length ≤ 297 := by rw [List.length_append]; have := numB_length (t0) 4; omega
      clear hown hg
      have hS : Y1 wq51 := by exact ⟨bt0.cell 0, bt0.cell 1, bt0.cell 2, bt0.cell 3⟩
      refine hK.out _ _ (fun _ => hS) ?_
      clear hK K
      try simp only [Act.put, sA, s0, sS]
      refine wpAnyV_one (i := 6) (by kernel_rfl) rfl (fun K hK => ?_)
      go_simp
      refine (l4Put_own _ ((((((([7]) ++ numB (txn) 4) ++ numB (prev) 8) ++ numB (nT) 4) ++ numB (tXn) 1) ++ txsB tXb k) ++ numB (t0) 4) (t1) 1 _ (by unfold IsI; omega) (by unfold IsI; omega) (by omega) HOq51.out).mono ?_
      rintro e wq52 ⟨aq52, nq52, cq52, rfl, hown, hg⟩
      have bt1 := (bt0).kept hg.kept HNt0.out
      have HNt1 := (show Hid (¬ (Value.slice aq52 nq52 cq52).ownBlock = some wr.heap.size) from fun e => (hg.own _ e).elim HNt0.out (fun h => by have h := Nat.lt_of_lt_of_le (bt0).lt h; omega))
      have HOq52 := (show Hid (Own 0 5 .u8 wq52 (.slice aq52 nq52 cq52) (((((((([7]) ++ numB (txn) 4) ++ numB (prev) 8) ++ numB (nT) 4) ++ numB (tXn) 1) ++ txsB tXb k) ++ numB (t0) 4) ++ numB (t1) 1)) from hown)
      have HKq52 := hid (hg.same HKq51.out HFq51.out)
      have HFq52 := hid (hg.fresh HKq51.out HFq51.out)
      have bq52 := b0.same HKq52.out
      have hlq52 : (((((((([7]) ++ numB (txn) 4) ++ numB (prev) 8) ++ numB (nT) 4) ++ numB (tXn) 1) ++ txsB tXb k) ++ numB (t0) 4) ++ numB (t1) 1).length ≤ 305 := by rw [List.length_append]; have := numB_length (t1) 1; omega
      clear hown hg
      have hS : Y1 wq52 := by exact ⟨bt1.cell 0, bt1.cell 1, bt1.cell 2, bt1.cell 3⟩
      refine hK.out _ _ (fun _ => hS) ?_
      clear hK K
      try simp only [Act.put, sA, s0, sS]
      refine wpAnyV_one (i := 9) (by kernel_rfl) rfl (fun K hK => ?_)
      go_simp
      refine (l4Put_own _ (((((((([7]) ++ numB (txn) 4) ++ numB (prev) 8) ++ numB (nT) 4) ++ numB (tXn) 1) ++ txsB tXb k) ++ numB (t0) 4) ++ numB (t1) 1) (t2) 8 _ (by unfold IsI; omega) (by unfold IsI; omega) (by omega) HOq52.out).mono ?_
      rintro e wq53 ⟨aq53, nq53, cq53, rfl, hown, hg⟩
      have bt2 := (bt1).kept hg.kept HNt1.out
      have HNt2 := (show Hid (¬ (Value.slice aq53 nq53 cq53).ownBlock = some wr.heap.size) from fun e => (hg.own _ e).elim HNt1.out (fun h => by have h := Nat.lt_of_lt_of_le (bt1).lt h; omega))
      have HOq53 := (show Hid (Own 0 5 .u8 wq53 (.slice aq53 nq53 cq53) ((((((((([7]) ++ numB (txn) 4) ++ numB (prev) 8) ++ numB (nT) 4) ++ numB (tXn) 1) ++ txsB tXb k) ++ numB (t0) 4) ++ numB (t1) 1) ++ numB (t2) 8)) from hown)
      have HKq53 := hid (hg.same HKq52.out HFq52.out)
      have HFq53 := hid (hg.fresh HKq52.out HFq52.out)
      have bq53 := b0.same HKq53.out
      have hlq53 : ((((((((([7]) ++ numB (txn) 4) ++ numB (prev) 8) ++ numB (nT) 4) ++ numB (tXn) 1) ++ txsB tXb k) ++ numB (t0) 4) ++ numB (t1) 1) ++ numB (t2) 8).length ≤ 313 := by rw [List.length_append]; have := numB_length (t2) 8; omega
      clear hown hg
      have hS : Y1 wq53 := by exact ⟨bt2.cell 0, bt2.cell 1, bt2.cell 2, bt2.cell 3⟩
      refine hK.out _ _ (fun _ => hS) ?_
      clear hK K
      try simp only [Act.put, sA, s0, sS]
      refine wpAnyV_one (i := 12) (by kernel_rfl) rfl (fun K hK => ?_)
      go_simp
      refine (l4Put_own _ ((((((((([7]) ++ numB (txn) 4) ++ numB (prev) 8) ++ numB (nT) 4) ++ numB (tXn) 1) ++ txsB tXb k) ++ numB (t0) 4) ++ numB (t1) 1) ++ numB (t2) 8) (t3) 8 _ (by unfold IsI; omega) (by unfold IsI; omega) (by omega) HOq53.out).mono ?_
      rintro e wq54 ⟨aq54, nq54, cq54, rfl, hown, hg⟩
      have bt3 := (bt2).kept hg.kept HNt2.out
      have HNt3 := (show Hid (¬ (Value.slice aq54 nq54 cq54).ownBlock = some wr.heap.size) from fun e => (hg.own _ e).elim HNt2.out (fun h => by have h := Nat.lt_of_lt_of_le (bt2).lt h; omega))
      have HOq54 := (show Hid (Own 0 5 .u8 wq54 (.slice aq54 nq54 cq54) (((((((((([7]) ++ numB (txn) 4) ++ numB (prev) 8) ++ numB (nT) 4) ++ numB (tXn) 1) ++ txsB tXb k) ++ numB (t0) 4) ++ numB (t1) 1) ++ numB (t2) 8) ++ numB (t3) 8)) from hown)
      have HKq54 := hid (hg.same HKq53.out HFq53.out)
      have HFq54 := hid (hg.fresh HKq53.out HFq53.out)
      have bq54 := b0.same HKq54.out
      have hlq54 : (((((((((([7]) ++ numB (txn) 4) ++ numB (prev) 8) ++ numB (nT) 4) ++ numB (tXn) 1) ++ txsB tXb k) ++ numB (t0) 4) ++ numB (t1) 1) ++ numB (t2) 8) ++ numB (t3) 8).length ≤ 321 := by rw [List.length_append]; have := numB_length (t3) 8; omega
      clear hown hg
      have hS : Y1 wq54 := by exact ⟨bt3.cell 0, bt3.cell 1, bt3.cell 2, bt3.cell 3⟩
      refine hK.out _ _ (fun _ => hS) ?_
      clear hK K
      try simp only [Act.put, sA, s0, sS]
      refine tk 13 3 hS ?_
      refine wpAnyV_done (by kernel_rfl) ?_
      go_wp2
      go_roundw
      case rel => exact ⟨k + 1, _, _, _, by omega, by go_num, rfl, by rw [txsB_succ, HTB.out]; simpa [Hid] using HOq54.out, HFq54, HKq54⟩
      case measure => simp [intOf]; omega
    · obtain hkt : k = tXn := by omega
      rw [hkt] at HOr
      have hlr : ((((((([7]) ++ numB (txn) 4) ++ numB (prev) 8) ++ numB (nT) 4) ++ numB (tXn) 1) ++ txsB tXb tXn)).length ≤ 289 := by rw [List.length_append]; have := txsB_length tXb tXn; omega
      have dr2 := br.c12
      go_wp2_with fail
      refine (l4Put_own _ ((((((([7]) ++ numB (txn) 4) ++ numB (prev) 8) ++ numB (nT) 4) ++ numB (tXn) 1) ++ txsB tXb tXn)) (dYn) 1 _ (by unfold IsI; omega) (by unfold IsI; omega) (by omega) HOr.out).mono ?_
      rintro e wq81 ⟨aq81, nq81, cq81, rfl, hown, hg⟩
      have HOq81 := (show Hid (Own 0 5 .u8 wq81 (.slice aq81 nq81 cq81) (((((((([7]) ++ numB (txn) 4) ++ numB (prev) 8) ++ numB (nT) 4) ++ numB (tXn) 1) ++ txsB tXb tXn)) ++ numB (dYn) 1)) from hown)
      have HKq81 := hid (hg.same HKr.out HFr.out)
      have HFq81 := hid (hg.fresh HKr.out HFr.out)
      have bq81 := b0.same HKq81.out
      have hlq81 : (((((((([7]) ++ numB (txn) 4) ++ numB (prev) 8) ++ numB (nT) 4) ++ numB (tXn) 1) ++ txsB tXb tXn)) ++ numB (dYn) 1).length ≤ 297 := by rw [List.length_append]; have := numB_length (dYn) 1; omega
      clear hown hg
      go_wp2
      go_loopw [3, 6] (fun v i wr => ∃ (k : Nat) (a : Option Addr) (n c : Nat), k ≤ dYn ∧ i = .int .i64 k ∧ v = .slice a n c ∧ Hid (Own 0 5 .u8 wr (.slice a n c) ((((((((([7]) ++ numB (txn) 4) ++ numB (prev) 8) ++ numB (nT) 4) ++ numB (tXn) 1) ++ txsB tXb tXn)) ++ numB (dYn) 1) ++ dysB dYb k)) ∧ Hid (∀ b, (Value.slice a n c).ownBlock = some b → (w.alloc (.cells #[.int .i64 7, .int .i64 txn, .int .i64 prev, .int .i64 page, .int .i64 slot, .bool bU, .slice bDa bDb.length bDc, .bool aU, .slice aDa aDb.length aDc, .int .i64 uN, .int .i64 nT, .slice tXa tXn tXc, .slice dYa dYn dYc, .slice iMa iMb.length iMc] 35)).heap.size ≤ b) ∧ Hid (Same (w.alloc (.cells #[.int .i64 7, .int .i64 txn, .int .i64 prev, .int .i64 page, .int .i64 slot, .bool bU, .slice bDa bDb.length bDc, .bool aU, .slice aDa aDb.length aDc, .int .i64 uN, .int .i64 nT, .slice tXa tXn tXc, .slice dYa dYn dYc, .slice iMa iMb.length iMc] 35)) wr)) (fun _ i _ => dYn - (intOf i).toNat)
      case atStart => exact ⟨0, _, _, _, Nat.zero_le _, rfl, rfl, by rw [dysB_zero, List.append_nil]; exact HOq81, HFq81, HKq81⟩
      case round =>
        obtain ⟨ws, hws⟩ : ∃ ws, ws = wr := ⟨_, rfl⟩
        subst hws
        obtain ⟨k2, az, nz, cz, hk2, rfl, rfl, HOs, HFs, HKs⟩ := hrel
        have bs := b0.same HKs.out
        have ds := bs.c12
        by_cases hlt2 : k2 < dYn
        · obtain ⟨yB, yo, hya, hyle, hyc⟩ := HDY.out (by omega)
          subst hya
          obtain ⟨hg0, hg1⟩ := HDG.out k2 hlt2
          have HDB := (show Hid (dyB dYb k2 = numB (dYb.getD (k2 * 2) 0) 2 ++ numB (dYb.getD (k2 * 2 + 1) 0) 8) from rfl)
          have HQ := (show Hid (∀ wx, Same (w.alloc (.cells #[.int .i64 7, .int .i64 txn, .int .i64 prev, .int .i64 page, .int .i64 slot, .bool bU, .slice bDa bDb.length bDc, .bool aU, .slice aDa aDb.length aDc, .int .i64 uN, .int .i64 nT, .slice tXa tXn tXc, .slice (some ⟨yB, yo, none⟩) dYn dYc, .slice iMa iMb.length iMc] 35)) wx → wx.cell? ⟨yB, yo + k2 * 2, none⟩ = some (.int .i64 (dYb.getD (k2 * 2) 0)) ∧ wx.cell? ⟨yB, yo + k2 * 2 + 1, none⟩ = some (.int .i64 (dYb.getD (k2 * 2 + 1) 0))) from fun wx h => ⟨(((Kept.refl _ _).alloc _).trans h).cellOf (hyc (k2 * 2) (by omega)) id, by have h := (((Kept.refl _ _).alloc _).trans h).cellOf (hyc (k2 * 2 + 1) (by omega)) id; simpa only [Nat.add_assoc] using h⟩)
          clear hyc
          generalize dYb.getD (k2 * 2) 0 = y0 at *
          generalize dYb.getD (k2 * 2 + 1) 0 = y1 at *
          have hls : ((((((((([7]) ++ numB (txn) 4) ++ numB (prev) 8) ++ numB (nT) 4) ++ numB (tXn) 1) ++ txsB tXb tXn)) ++ numB (dYn) 1) ++ dysB dYb k2).length ≤ 553 := by rw [List.length_append]; have := dysB_length dYb k2; omega
          go_wp2_with fail
          let Y2 : World → Prop := fun wx : World => wx.cell? ⟨w.heap.size, 12, none⟩ = some (.slice (some ⟨yB, yo, none⟩) dYn dYc) ∧ wx.cell? ⟨yB, yo + k2 * 2, none⟩ = some (.int .i64 y0) ∧ wx.cell? ⟨yB, yo + k2 * 2 + 1, none⟩ = some (.int .i64 y1)
          have hS : Y2 ws.drew := by exact ⟨bs.cell 12, HQ.out _ HKs.out.drew⟩
          refine wp_region_V Y2 99 16 rfl (by kernel_rfl) ?_
          refine tk 0 102 hS ?_
          refine tk 1 103 hS ?_
          refine tk 2 104 hS ?_
          refine tk 3 105 hS ?_
          refine tk 4 106 hS ?_
          refine tk 5 107 hS ?_
          refine tk 6 108 hS ?_
          refine tk 8 110 hS ?_
          refine tk 9 111 hS ?_
          refine tk 10 112 hS ?_
          refine tk 11 113 hS ?_
          refine tk 12 114 hS ?_
          refine tk 13 115 hS ?_
          refine wpAnyV_one (i := 7) (by kernel_rfl) rfl (fun K hK => ?_)
          go_simp
          refine (l4Put_own _ ((((((((([7]) ++ numB (txn) 4) ++ numB (prev) 8) ++ numB (nT) 4) ++ numB (tXn) 1) ++ txsB tXb tXn)) ++ numB (dYn) 1) ++ dysB dYb k2) (y0) 2 _ (by unfold IsI; omega) (by unfold IsI; omega) (by omega) (HOs.out.same (Kept.refl _ _).drew)).mono ?_
          rintro e wq91 ⟨aq91, nq91, cq91, rfl, hown, hg⟩
          have HOq91 := (show Hid (Own 0 5 .u8 wq91 (.slice aq91 nq91 cq91) (((((((((([7]) ++ numB (txn) 4) ++ numB (prev) 8) ++ numB (nT) 4) ++ numB (tXn) 1) ++ txsB tXb tXn)) ++ numB (dYn) 1) ++ dysB dYb k2) ++ numB (y0) 2)) from hown)
          have HKq91 := hid (hg.same HKs.out.drew HFs.out)
          have HFq91 := hid (hg.fresh HKs.out.drew HFs.out)
          have bq91 := b0.same HKq91.out
          have hlq91 : (((((((((([7]) ++ numB (txn) 4) ++ numB (prev) 8) ++ numB (nT) 4) ++ numB (tXn) 1) ++ txsB tXb tXn)) ++ numB (dYn) 1) ++ dysB dYb k2) ++ numB (y0) 2).length ≤ 561 := by rw [List.length_append]; have := numB_length (y0) 2; omega
          clear hown hg
          have hS : Y2 wq91 := by exact ⟨(b0.same HKq91.out).cell 12, HQ.out _ HKq91.out⟩
          refine hK.out _ _ (fun _ => hS) ?_
          clear hK K
          try simp only [Act.put, sA, s0, sS]
          refine wpAnyV_one (i := 14) (by kernel_rfl) rfl (fun K hK => ?_)
          go_simp
          refine (l4Put_own _ (((((((((([7]) ++ numB (txn) 4) ++ numB (prev) 8) ++ numB (nT) 4) ++ numB (tXn) 1) ++ txsB tXb tXn)) ++ numB (dYn) 1) ++ dysB dYb k2) ++ numB (y0) 2) (y1) 8 _ (by unfold IsI; omega) (by unfold IsI; omega) (by omega) HOq91.out).mono ?_
          rintro e wq92 ⟨aq92, nq92, cq92, rfl, hown, hg⟩
          have HOq92 := (show Hid (Own 0 5 .u8 wq92 (.slice aq92 nq92 cq92) ((((((((((([7]) ++ numB (txn) 4) ++ numB (prev) 8) ++ numB (nT) 4) ++ numB (tXn) 1) ++ txsB tXb tXn)) ++ numB (dYn) 1) ++ dysB dYb k2) ++ numB (y0) 2) ++ numB (y1) 8)) from hown)
          have HKq92 := hid (hg.same HKq91.out HFq91.out)
          have HFq92 := hid (hg.fresh HKq91.out HFq91.out)
          have bq92 := b0.same HKq92.out
          have hlq92 : ((((((((((([7]) ++ numB (txn) 4) ++ numB (prev) 8) ++ numB (nT) 4) ++ numB (tXn) 1) ++ txsB tXb tXn)) ++ numB (dYn) 1) ++ dysB dYb k2) ++ numB (y0) 2) ++ numB (y1) 8).length ≤ 569 := by rw [List.length_append]; have := numB_length (y1) 8; omega
          clear hown hg
          have hS : Y2 wq92 := by exact ⟨(b0.same HKq92.out).cell 12, HQ.out _ HKq92.out⟩
          refine hK.out _ _ (fun _ => hS) ?_
          clear hK K
          try simp only [Act.put, sA, s0, sS]
          refine tk 15 3 hS ?_
          refine wpAnyV_done (by kernel_rfl) ?_
          go_wp2
          go_roundw
          case rel => exact ⟨k2 + 1, _, _, _, by omega, by go_num, rfl, by rw [dysB_succ, HDB.out]; simpa [Hid] using HOq92.out, HFq92, HKq92⟩
          case measure => simp [intOf]; omega
        · obtain hkd : k2 = dYn := by omega
          rw [hkd] at HOs
          go_wp2
          go_ret
          exact ⟨_, _, _, rfl, by have h := HOs.out; have e1 : ((tXb.length : Int) / 4) = (tXn : Int) := (by have := HTN.out; omega); have e2 : ((dYb.length : Int) / 2) = (dYn : Int) := (by have := HDN.out; omega); rw [HTN.out, HDN.out]; simpa [headR, e1, e2] using h, fun b hb => by have := HFs.out b hb; simp at this; omega, ((Kept.refl _ _).alloc _).trans HKs.out⟩
theorem Own.sized {base : Nat} {e : TypeId} {k : IntKind} {w : World} {aa : Option Addr} {nn cc : Nat} {bs : List Int} (h : Own base e k w (.slice aa nn cc) bs) : nn = bs.length := by
  rcases h.form with ⟨hh, rfl⟩ | ⟨g, cap, hh, _⟩ <;> cases hh <;> rfl
theorem encFd_good {d : Int × Int × Int × Int × Int × (Bool × List Int) × (Bool × List Int) × Int × Int × List Int × List Int × List Int} (h : recFd d = 0) : encFd d = recBd d := by unfold encFd; rw [if_neg (by simpa using h)]
theorem encFd_bad {d : Int × Int × Int × Int × Int × (Bool × List Int) × (Bool × List Int) × Int × Int × List Int × List Int × List Int} (h : recFd d ≠ 0) : encFd d = [] := by unfold encFd; rw [if_pos h]
theorem specEnc_any (x : StLogRecord) (w : World) (hB : x.isB) (hn : x.szs ≤ 1073741824) (hv : StLogRecord.rd w x) : Calls Tryz.prog 21 #[x.val] w fun e w' => ∃ a c, e = .returned (.slice a (encFd x.dat).length c) ∧ (∀ b, (Value.slice a (encFd x.dat).length c).ownBlock = some b → w.heap.size ≤ b) ∧ Own 0 5 .u8 w' (.slice a (encFd x.dat).length c) (encFd x.dat) ∧ Same w w' := by
  by_cases hz : recFd x.dat = 0
  · have hg := kind_good (show recF x.kind _ _ _ _ _ _ _ _ _ _ _ _ _ = 0 from hz)
    rw [encFd_good hz]
    have key : Calls Tryz.prog 21 #[x.val] w fun e w' => ∃ aa nn cc, e = .returned (.slice aa nn cc) ∧ Own 0 5 .u8 w' (.slice aa nn cc) (recBd x.dat) ∧ (∀ b, (Value.slice aa nn cc).ownBlock = some b → w.heap.size ≤ b) ∧ Same w w' := by
      rcases (show x.kind = 1 ∨ x.kind = 2 ∨ x.kind = 3 ∨ x.kind = 4 ∨ x.kind = 5 ∨ x.kind = 6 ∨ x.kind = 7 ∨ x.kind = 8 by omega) with h | h | h | h | h | h | h | h
      · exact encS_1 x w hB hn hv h hz
      · exact encS_2 x w hB hn hv h hz
      · exact encS_3 x w hB hn hv h hz
      · exact encS_4 x w hB hn hv h hz
      · exact encS_5 x w hB hn hv h hz
      · exact encS_6 x w hB hn hv h hz
      · exact encS_7 x w hB hn hv h hz
      · exact encS_8 x w hB hn hv h hz
    refine key.mono ?_
    rintro e w' ⟨aa, nn, cc, rfl, ho, hf, hk⟩
    obtain rfl := ho.sized
    exact ⟨aa, cc, rfl, hf, ho, hk⟩
  · rw [encFd_bad hz]
    have HF := (show Hid (∀ wx, Same w wx → _) from fun wx (h : Same w wx) => specRec_any x wx hB hn (StLogRecord.rd.same hv h))
    obtain ⟨r, hr⟩ : ∃ r, recFd x.dat = r := ⟨_, rfl⟩
    rw [hr] at HF hz
    clear hr hB hn hv
    obtain ⟨kind, txn, prev, page, slot, ⟨bU, ⟨bDe, bDa, bDc, bDb⟩⟩, ⟨aU, ⟨aDe, aDa, aDc, aDb⟩⟩, uN, nT, ⟨tXe, tXa, tXn, tXc, tXb⟩, ⟨dYe, dYa, dYn, dYc, dYb⟩, ⟨iMe, iMa, iMc, iMb⟩⟩ := x
    have HF1 := HF.out _ ((Kept.refl _ _).alloc (.cells #[.int .i64 kind, .int .i64 txn, .int .i64 prev, .int .i64 page, .int .i64 slot, .bool bU, .slice bDa bDb.length bDc, .bool aU, .slice aDa aDb.length aDc, .int .i64 uN, .int .i64 nT, .slice tXa tXn tXc, .slice dYa dYn dYc, .slice iMa iMb.length iMc] 35))
    dsimp only [StLogRecord.val, StPageRecord.val, BS.v, FR.v] at HF1 ⊢
    have HK0 := hid (sameA w [.int .i64 kind, .int .i64 txn, .int .i64 prev, .int .i64 page, .int .i64 slot, .bool bU, .slice bDa bDb.length bDc, .bool aU, .slice aDa aDb.length aDc, .int .i64 uN, .int .i64 nT, .slice tXa tXn tXc, .slice dYa dYn dYc, .slice iMa iMb.length iMc] 35)
    clear HF
    go_enter Tryz.func21, Tryz.ntmps21
    go_wp2_with fail
    refine HF1.mono ?_
    rintro e w1 ⟨rfl, hk1⟩
    have HK1 := hid (HK0.out.trans hk1)
    clear hk1 HF1
    go_wp2
    go_ret
    exact ⟨_, _, rfl, fun b hb => by have := HK1.out.size; have hb : w1.heap.size = b := by simpa [Value.ownBlock] using hb
                                     omega, Own.empty _ _, HK1.out.alloc _⟩
theorem implEnc_any (x : StLogRecord) (w : World) (hB : x.isB) (hn : x.szs ≤ 1073741824) (hv : StLogRecord.rd w x) : Calls Tryz.prog 28 #[x.val] w fun e w' => ∃ a c, e = .returned (.slice a (encFd x.dat).length c) ∧ (∀ b, (Value.slice a (encFd x.dat).length c).ownBlock = some b → w.heap.size ≤ b) ∧ Own 0 5 .u8 w' (.slice a (encFd x.dat).length c) (encFd x.dat) ∧ Same w w' := by
  by_cases hz : recFd x.dat = 0
  · have hg := kind_good (show recF x.kind _ _ _ _ _ _ _ _ _ _ _ _ _ = 0 from hz)
    rw [encFd_good hz]
    have key : Calls Tryz.prog 28 #[x.val] w fun e w' => ∃ aa nn cc, e = .returned (.slice aa nn cc) ∧ Own 0 5 .u8 w' (.slice aa nn cc) (recBd x.dat) ∧ (∀ b, (Value.slice aa nn cc).ownBlock = some b → w.heap.size ≤ b) ∧ Same w w' := by
      rcases (show x.kind = 1 ∨ x.kind = 2 ∨ x.kind = 3 ∨ x.kind = 4 ∨ x.kind = 5 ∨ x.kind = 6 ∨ x.kind = 7 ∨ x.kind = 8 by omega) with h | h | h | h | h | h | h | h
      · exact encI_1 x w hB hn hv h hz
      · exact encI_2 x w hB hn hv h hz
      · exact encI_3 x w hB hn hv h hz
      · exact encI_4 x w hB hn hv h hz
      · exact encI_5 x w hB hn hv h hz
      · exact encI_6 x w hB hn hv h hz
      · exact encI_7 x w hB hn hv h hz
      · exact encI_8 x w hB hn hv h hz
    refine key.mono ?_
    rintro e w' ⟨aa, nn, cc, rfl, ho, hf, hk⟩
    obtain rfl := ho.sized
    exact ⟨aa, cc, rfl, hf, ho, hk⟩
  · rw [encFd_bad hz]
    have HF := (show Hid (∀ wx, Same w wx → _) from fun wx (h : Same w wx) => implRec_any x wx hB hn (StLogRecord.rd.same hv h))
    obtain ⟨r, hr⟩ : ∃ r, recFd x.dat = r := ⟨_, rfl⟩
    rw [hr] at HF hz
    clear hr hB hn hv
    obtain ⟨kind, txn, prev, page, slot, ⟨bU, ⟨bDe, bDa, bDc, bDb⟩⟩, ⟨aU, ⟨aDe, aDa, aDc, aDb⟩⟩, uN, nT, ⟨tXe, tXa, tXn, tXc, tXb⟩, ⟨dYe, dYa, dYn, dYc, dYb⟩, ⟨iMe, iMa, iMc, iMb⟩⟩ := x
    have HF1 := HF.out _ ((Kept.refl _ _).alloc (.cells #[.int .i64 kind, .int .i64 txn, .int .i64 prev, .int .i64 page, .int .i64 slot, .bool bU, .slice bDa bDb.length bDc, .bool aU, .slice aDa aDb.length aDc, .int .i64 uN, .int .i64 nT, .slice tXa tXn tXc, .slice dYa dYn dYc, .slice iMa iMb.length iMc] 35))
    dsimp only [StLogRecord.val, StPageRecord.val, BS.v, FR.v] at HF1 ⊢
    have HK0 := hid (sameA w [.int .i64 kind, .int .i64 txn, .int .i64 prev, .int .i64 page, .int .i64 slot, .bool bU, .slice bDa bDb.length bDc, .bool aU, .slice aDa aDb.length aDc, .int .i64 uN, .int .i64 nT, .slice tXa tXn tXc, .slice dYa dYn dYc, .slice iMa iMb.length iMc] 35)
    clear HF
    go_enter Tryz.func28, Tryz.ntmps28
    go_wp2_with fail
    refine HF1.mono ?_
    rintro e w1 ⟨rfl, hk1⟩
    have HK1 := hid (HK0.out.trans hk1)
    clear hk1 HF1
    go_wp2
    go_ret
    exact ⟨none, 0, rfl, fun b hb => (by simp [Value.ownBlock] at hb), Own.nil _ _ _ _, HK1.out⟩
theorem headR_pos (kind txn prev : Int) : 1 ≤ (headR kind txn prev).length := by
  simp only [headR, List.length_append, List.length_singleton]
  omega
theorem recBy_length {kind txn prev page slot un nt : Int} {bu au : Bool} {bb ab tx dy im : List Int} (h : recF kind txn prev page slot bu bb au ab un nt tx dy im = 0) : 1 ≤ (recBy kind txn prev page slot bu bb au ab un nt tx dy im).length ∧ (recBy kind txn prev page slot bu bb au ab un nt tx dy im).length ≤ 5000 := by
  have hh := headR_length kind txn prev
  have hp := headR_pos kind txn prev
  have n1 := numB_length page 2
  have n2 := numB_length slot 2
  have n3 := numB_length un 8
  have n4 := numB_length nt 4
  have n5 := numB_length (tx.length / 4 : Nat) 1
  have n6 := numB_length (dy.length / 2 : Nat) 1
  have p1 := partB_length bu bb
  have p2 := partB_length au ab
  have t1 := txsB_length tx (tx.length / 4)
  have t2 := dysB_length dy (dy.length / 2)
  unfold recBy
  by_cases h1 : kind = 1
  · subst h1
    obtain ⟨_, _, g1, g2⟩ := good1 h
    rw [if_pos rfl]
    simp only [List.length_append]
    omega
  rw [if_neg h1]
  by_cases h2 : kind = 2
  · subst h2
    obtain ⟨_, _, g1, _⟩ := good2 h
    rw [if_pos rfl]
    simp only [List.length_append]
    omega
  rw [if_neg h2]
  by_cases h7 : kind = 7
  · subst h7
    obtain ⟨_, _, _, g1, g2⟩ := good7 h
    have g1 := (tXgood g1).1
    have g2 := (dYgood g2).1
    rw [if_pos rfl]
    simp only [List.length_append]
    omega
  rw [if_neg h7]
  by_cases h8 : kind = 8
  · subst h8
    obtain ⟨_, _, _, g1⟩ := good8 h
    rw [if_pos rfl]
    simp only [List.length_append]
    omega
  rw [if_neg h8]
  omega
theorem recBd_length {d : Int × Int × Int × Int × Int × (Bool × List Int) × (Bool × List Int) × Int × Int × List Int × List Int × List Int} (h : recFd d = 0) : 1 ≤ (recBd d).length ∧ (recBd d).length ≤ 5000 := recBy_length h
def fsFd (d : Int × Int × Int × Int × Int × (Bool × List Int) × (Bool × List Int) × Int × Int × List Int × List Int × List Int) : Int := if recFd d ≠ 0 then 0 else 20 + ((recBd d).length : Int)
theorem fsFd_good {d : Int × Int × Int × Int × Int × (Bool × List Int) × (Bool × List Int) × Int × Int × List Int × List Int × List Int} (h : recFd d = 0) : fsFd d = 20 + ((recBd d).length : Int) := by unfold fsFd; rw [if_neg (by simpa using h)]
theorem fsFd_bad {d : Int × Int × Int × Int × Int × (Bool × List Int) × (Bool × List Int) × Int × Int × List Int × List Int × List Int} (h : recFd d ≠ 0) : fsFd d = 0 := by unfold fsFd; rw [if_pos h]
theorem specFs_any (x : StLogRecord) (w : World) (hB : x.isB) (hn : x.szs ≤ 1073741824) (hv : StLogRecord.rd w x) : Calls Tryz.prog 22 #[x.val] w fun e w' => e = .returned (.int .i64 (fsFd x.dat)) ∧ Same w w' := by
  have HF := (show Hid (∀ wx, Same w wx → Calls Tryz.prog 17 #[x.val] wx fun e w' => e = .returned (.int .i64 (recFd x.dat)) ∧ Same wx w') from fun wx (h : Same w wx) => specRec_any x wx hB hn (StLogRecord.rd.same hv h))
  have HE := hid (fun wx (h : Same w wx) => specEnc_any x wx hB hn (StLogRecord.rd.same hv h))
  by_cases hz : recFd x.dat = 0
  · have hl := recBd_length hz
    rw [fsFd_good hz]
    rw [hz] at HF
    rw [encFd_good hz] at HE
    generalize recBd x.dat = R at *
    clear hz hB hn hv
    obtain ⟨kind, txn, prev, page, slot, ⟨bU, ⟨bDe, bDa, bDc, bDb⟩⟩, ⟨aU, ⟨aDe, aDa, aDc, aDb⟩⟩, uN, nT, ⟨tXe, tXa, tXn, tXc, tXb⟩, ⟨dYe, dYa, dYn, dYc, dYb⟩, ⟨iMe, iMa, iMc, iMb⟩⟩ := x
    dsimp only [StLogRecord.val, StPageRecord.val, BS.v, FR.v] at HF HE ⊢
    have b0 := Blk.newL w [.int .i64 kind, .int .i64 txn, .int .i64 prev, .int .i64 page, .int .i64 slot, .bool bU, .slice bDa bDb.length bDc, .bool aU, .slice aDa aDb.length aDc, .int .i64 uN, .int .i64 nT, .slice tXa tXn tXc, .slice dYa dYn dYc, .slice iMa iMb.length iMc] 35
    have HK0 := hid (sameA w [.int .i64 kind, .int .i64 txn, .int .i64 prev, .int .i64 page, .int .i64 slot, .bool bU, .slice bDa bDb.length bDc, .bool aU, .slice aDa aDb.length aDc, .int .i64 uN, .int .i64 nT, .slice tXa tXn tXc, .slice dYa dYn dYc, .slice iMa iMb.length iMc] 35)
    go_enter Tryz.func22, Tryz.ntmps22
    go_wp2_with fail
    refine (HF.out _ HK0.out).mono ?_
    rintro e w1 ⟨rfl, hk1⟩
    have HK1 := hid (HK0.out.trans hk1)
    have b1 := b0.same hk1
    clear hk1
    obtain ⟨db1_0, db1_1, db1_2, db1_3, db1_4, db1_5, db1_6, db1_7, db1_8, db1_9, db1_10, db1_11, db1_12, db1_13⟩ := b1.all14
    go_wp2_with fail
    refine (HE.out _ HK1.out).mono ?_
    rintro e w2 ⟨a2, c2, rfl, hf2, ho2, hk2⟩
    have HK2 := hid (HK1.out.trans hk2)
    clear hk2 hf2 ho2
    go_wp2
    go_ret
    exact ⟨rfl, HK2.out⟩
  · rw [fsFd_bad hz]
    generalize recFd x.dat = r at *
    clear hB hn hv HE
    obtain ⟨kind, txn, prev, page, slot, ⟨bU, ⟨bDe, bDa, bDc, bDb⟩⟩, ⟨aU, ⟨aDe, aDa, aDc, aDb⟩⟩, uN, nT, ⟨tXe, tXa, tXn, tXc, tXb⟩, ⟨dYe, dYa, dYn, dYc, dYb⟩, ⟨iMe, iMa, iMc, iMb⟩⟩ := x
    dsimp only [StLogRecord.val, StPageRecord.val, BS.v, FR.v] at HF ⊢
    have HK0 := hid (sameA w [.int .i64 kind, .int .i64 txn, .int .i64 prev, .int .i64 page, .int .i64 slot, .bool bU, .slice bDa bDb.length bDc, .bool aU, .slice aDa aDb.length aDc, .int .i64 uN, .int .i64 nT, .slice tXa tXn tXc, .slice dYa dYn dYc, .slice iMa iMb.length iMc] 35)
    go_enter Tryz.func22, Tryz.ntmps22
    go_wp2_with fail
    refine (HF.out _ HK0.out).mono ?_
    rintro e w1 ⟨rfl, hk1⟩
    have HK1 := hid (HK0.out.trans hk1)
    clear hk1
    go_wp2
    go_ret
    exact ⟨rfl, HK1.out⟩
theorem IsB.app {a b : List Int} (ha : IsB a) (hb : IsB b) : IsB (a ++ b) := fun x h => (List.mem_append.1 h).elim (ha x) (hb x)
theorem partB_isB {u : Bool} {d : List Int} (h : IsB d) : IsB (partB u d) := by
  unfold partB
  split
  · exact fun x hx => (List.mem_cons.1 hx).elim (fun e => by omega) ((numB_isB _ _).app h x)
  · exact fun x hx => by have := List.mem_singleton.1 hx; omega
theorem flat_isB (f : Nat → List Int) (h : ∀ i, IsB (f i)) (n : Nat) : IsB ((List.range n).flatMap f) := fun x hx => by
  obtain ⟨i, _, hi⟩ := List.mem_flatMap.1 hx
  exact h i x hi
theorem headR_isB {k t p : Int} (h : 1 ≤ k ∧ k ≤ 8) : IsB (headR k t p) := IsB.app (IsB.app (fun x hx => by have := List.mem_singleton.1 hx; omega) (numB_isB _ _)) (numB_isB _ _)
theorem recBy_isB {kind txn prev page slot un nt : Int} {bu au : Bool} {bb ab tx dy im : List Int} (hk : 1 ≤ kind ∧ kind ≤ 8) (hb : IsB bb) (ha : IsB ab) (hi : IsB im) : IsB (recBy kind txn prev page slot bu bb au ab un nt tx dy im) := by
  have hh := headR_isB (t := txn) (p := prev) hk
  unfold recBy
  split
  · exact (((hh.app (numB_isB _ _)).app (numB_isB _ _)).app (partB_isB hb)).app (partB_isB ha)
  split
  · exact (((hh.app (numB_isB _ _)).app (numB_isB _ _)).app (partB_isB ha)).app (numB_isB _ _)
  split
  · exact ((((hh.app (numB_isB _ _)).app (numB_isB _ _)).app (flat_isB _ (fun i => (((numB_isB _ _).app (numB_isB _ _)).app (numB_isB _ _)).app (numB_isB _ _)) _)).app (numB_isB _ _)).app (flat_isB _ (fun i => (numB_isB _ _).app (numB_isB _ _)) _)
  split
  · exact (hh.app (numB_isB _ _)).app hi
  · exact hh
theorem recBd_isB {x : StLogRecord} (hB : x.isB) (hz : recFd x.dat = 0) : IsB (recBd x.dat) := recBy_isB (kind_good (show recF x.kind _ _ _ _ _ _ _ _ _ _ _ _ _ = 0 from hz)) hB.1 hB.2.1 hB.2.2
theorem numB_lows {x : Int} {n : Nat} (hn : 1 ≤ n ∧ n ≤ 8) (h0 : 0 ≤ x) (h1 : x < 256 ^ n) : numB x n = lows x n := by
  unfold numB
  rw [if_neg]
  · rfl
  · rintro (h | h | h | h)
    · omega
    · omega
    · omega
    · exact h (Int.ediv_eq_zero_of_lt h0 (by simpa using h1))
def sumB (lsn ep : Int) (R : List Int) : List Int := (numB lsn 8 ++ numB ep 4) ++ R
def frB (lsn ep : Int) (R : List Int) : List Int := (numB (20 + (R.length : Int)) 4 ++ numB (crcOn 0 (sumB lsn ep R)) 4) ++ sumB lsn ep R
def frFd (lsn ep : Int) (d : Int × Int × Int × Int × Int × (Bool × List Int) × (Bool × List Int) × Int × Int × List Int × List Int × List Int) : List Int := if recFd d = 0 ∧ (1 ≤ lsn ∧ lsn ≤ 1099511627776) ∧ (1 ≤ ep ∧ ep ≤ 4294967295) then frB lsn ep (recBd d) else []
theorem sumB_isB {lsn ep : Int} {R : List Int} (h : IsB R) : IsB (sumB lsn ep R) := ((numB_isB _ _).app (numB_isB _ _)).app h
theorem sumB_length (lsn ep : Int) (R : List Int) : (sumB lsn ep R).length ≤ 16 + R.length := by
  have := numB_length lsn 8
  have := numB_length ep 4
  simp only [sumB, List.length_append]
  omega
theorem frB_length (lsn ep : Int) (R : List Int) : (frB lsn ep R).length ≤ 32 + R.length := by
  have := numB_length (20 + (R.length : Int)) 4
  have := numB_length (crcOn 0 (sumB lsn ep R)) 4
  have := sumB_length lsn ep R
  simp only [frB, List.length_append]
  omega
theorem frFd_yes {lsn ep : Int} {d : Int × Int × Int × Int × Int × (Bool × List Int) × (Bool × List Int) × Int × Int × List Int × List Int × List Int} (h : recFd d = 0 ∧ (1 ≤ lsn ∧ lsn ≤ 1099511627776) ∧ (1 ≤ ep ∧ ep ≤ 4294967295)) : frFd lsn ep d = frB lsn ep (recBd d) := if_pos h
theorem frFd_no {lsn ep : Int} {d : Int × Int × Int × Int × Int × (Bool × List Int) × (Bool × List Int) × Int × Int × List Int × List Int × List Int} (h : ¬ (recFd d = 0 ∧ (1 ≤ lsn ∧ lsn ≤ 1099511627776) ∧ (1 ≤ ep ∧ ep ≤ 4294967295))) : frFd lsn ep d = [] := if_neg h
theorem frFd_length (lsn ep : Int) (d : Int × Int × Int × Int × Int × (Bool × List Int) × (Bool × List Int) × Int × Int × List Int × List Int × List Int) : (frFd lsn ep d).length ≤ 6000 := by
  by_cases h : recFd d = 0 ∧ (1 ≤ lsn ∧ lsn ≤ 1099511627776) ∧ (1 ≤ ep ∧ ep ≤ 4294967295)
  · rw [frFd_yes h]
    have := frB_length lsn ep (recBd d)
    have := (recBd_length h.1).2
    omega
  · rw [frFd_no h]; simp
theorem vals_app (k : IntKind) (a b : List Int) : vals k (a ++ b) = vals k a ++ vals k b := by simp [vals]
theorem layV (k : IntKind) (P C rest C' : List Int) (o : Nat) (ho : o = P.length) (h : C.length = C'.length) : lay (vals k (P ++ (C ++ rest))) o (vals k C') = vals k (P ++ (C' ++ rest)) := by
  subst ho
  unfold lay
  rw [vals_app, vals_app, vals_app, vals_app]
  have e1 : (vals k P).length = P.length := vals_length _ _
  have e2 : (vals k C).length = (vals k C').length := by rw [vals_length, vals_length, h]
  rw [← e1, List.take_left', List.drop_append, e1]
  · congr 1
    congr 1
    rw [List.drop_of_length_le (by rw [e1]; omega), List.nil_append]
    rw [show P.length + (vals k C').length - P.length = (vals k C).length by omega, List.drop_left']
    rfl
  · rfl
end Go.Proofs.YtdgmecmkkddpeaaGreat
