import Derived.Test.YtcldagphkpkdpaaG33
import Derived.Laws.ResultCell
namespace Go.Proofs.Ytcldagphkpkdpaa
set_option maxRecDepth 100000
set_option maxHeartbeats 16000000
set_option linter.unusedVariables false
set_option linter.unusedSimpArgs false
open Go.RowKit Go
theorem specUndo_nil (x : StLogRecord) (w : World) (hB : x.isB) (hn : x.szs ≤ 1073741824) (hv : StLogRecord.rd w x) : Calls Try.prog 70 #[x.val] w fun e w' => ∃ y : StLogRecord, e = .returned y.val ∧ y.dat = undoFd x.dat ∧ (∀ b, FootL y.rows b → w.heap.size ≤ b) ∧ OwnL w' y.rows ∧ Same w w' ∧ y.txns.a = none ∧ y.dirty.a = none ∧ y.image.a = none := by
 have HF := (show Hid (∀ wx, Same w wx → Calls Try.prog 66 #[x.val] wx fun e w' => e = .returned (.int .i64 (recFd x.dat)) ∧ Same wx w') from fun wx (h : Same w wx) => specRec_any x wx hB hn (StLogRecord.rd.same hv h))
 have hbl : x.before.data.bs.length ≤ 1099511627776 := by have h0 := hn; simp only [StLogRecord.szs, StPageRecord.szs] at h0; omega
 have hrb : Rd .u8 w x.before.data.v x.before.data.bs := hv.1
 clear hB hn hv
 by_cases hy : x.dat.1 = 1 ∧ recFd x.dat = 0
 ·obtain ⟨hk1, hz⟩ := hy
  rw [hz] at HF
  rw [undoFd_yes ⟨hk1, hz⟩]
  clear hz
  obtain ⟨kind, txn, prev, page, slot, ⟨bU, ⟨bDe, bDa, bDc, bDb⟩⟩, ⟨aU, ⟨aDe, aDa, aDc, aDb⟩⟩, uN, nT, ⟨tXe, tXa, tXn, tXc, tXb⟩, ⟨dYe, dYa, dYn, dYc, dYb⟩, ⟨iMe, iMa, iMc, iMb⟩⟩ := x
  replace hk1 : kind = 1 := hk1
  subst hk1
  dsimp only [StLogRecord.val, StPageRecord.val, BS.v, FR.v, StLogRecord.dat, StPageRecord.dat] at HF hrb ⊢
  have HRB := hid hrb
  clear hrb
  dsimp only at hbl
  obtain ⟨HK0, HA0, HB0⟩ := new2 w [.int .i64 1, .int .i64 txn, .int .i64 prev, .int .i64 page, .int .i64 slot, .bool bU, .slice bDa bDb.length bDc, .bool aU, .slice aDa aDb.length aDc, .int .i64 uN, .int .i64 nT, .slice tXa tXn tXc, .slice dYa dYn dYc, .slice iMa iMb.length iMc] 48 [.int .i64 0, .int .i64 0, .int .i64 0, .int .i64 0, .int .i64 0, .bool false, .slice none 0 0, .bool false, .slice none 0 0, .int .i64 0, .int .i64 0, .slice none 0 0, .slice none 0 0, .slice none 0 0] 48
  have A0 := HA0.out
  have B0 := HB0.out
  clear HA0 HB0
  go_enter Try.func70, Try.ntmps70
  go_wp2_with fail
  refine (HF.out _ HK0.out).mono ?_
  rintro e w1 ⟨rfl, hk1⟩
  have HK1 := hid (HK0.out.trans hk1)
  have A1 := A0.same hk1
  have B1 := B0.same hk1
  have hz1 := hk1.size
  simp only [World.size_alloc] at hz1
  clear hk1 HF
  obtain ⟨d1_0, d1_1, d1_2, d1_3, d1_4, d1_5, d1_6, d1_7, d1_8, d1_9, d1_10, d1_11, d1_12, d1_13⟩ := A1.all14
  go_wp2_with fail
  let Y1 : World → Prop := fun wx : World => wx.cell? ⟨w.heap.size, 1, none⟩ = some (.int .i64 txn) ∧ wx.cell? ⟨w.heap.size, 2, none⟩ = some (.int .i64 prev) ∧ wx.cell? ⟨w.heap.size, 3, none⟩ = some (.int .i64 page) ∧ wx.cell? ⟨w.heap.size, 4, none⟩ = some (.int .i64 slot) ∧ wx.cell? ⟨w.heap.size, 5, none⟩ = some (.bool bU) ∧ wx.cell? ⟨w.heap.size, 6, none⟩ = some (.slice bDa bDb.length bDc)
  have hS : Y1 w1.drew := by exact ⟨A1.cell 1, A1.cell 2, A1.cell 3, A1.cell 4, A1.cell 5, A1.cell 6⟩
  refine wp_region_V Y1 12 13 rfl (by kernel_rfl) ?_
  refine tk 0 12 hS ?_
  refine tk 1 13 hS ?_
  refine tk 2 14 hS ?_
  refine tk 3 15 hS ?_
  refine tk 4 16 hS ?_
  refine tk 5 17 hS ?_
  refine tk 6 18 hS ?_
  refine tk 7 19 hS ?_
  refine tk 9 21 hS ?_
  refine tk 10 22 hS ?_
  refine wpAnyV_one (i := 8) (by kernel_rfl) rfl (fun K hK => ?_)
  go_simp
  refine (l4CopySlot_any bU _ bDb _ hbl (HRB.out.same (HK1.out.drew))).mono ?_
  rintro e w2 ⟨a2, n2, c2, rfl, hown, hf, hk2⟩
  obtain rfl := hown.sized'
  have HO2 := (show Hid (Own 0 5 .u8 w2 (.slice a2 bDb.length c2) bDb) from hown)
  have HF2 := (show Hid (∀ b, (Value.slice a2 bDb.length c2).ownBlock = some b → w.heap.size + 2 ≤ b) from fun b hb => by have := hf b hb; simp only [World.size_drew] at this; omega)
  have HK2 := hid (HK1.out.drew.trans hk2)
  have A2 := A1.drew.same hk2
  have B2 := B1.drew.same hk2
  obtain ⟨db0, db1, db2, db3, db4, db5, db6, db7, db8, db9, db10, db11, db12, db13⟩ := B2.all14
  have fb0 := B2.frozen 0
  have fb1 := B2.frozen 1
  have fb2 := B2.frozen 2
  have fb3 := B2.frozen 3
  have fb4 := B2.frozen 4
  have fb5 := B2.frozen 5
  have fb6 := B2.frozen 6
  have fb7 := B2.frozen 7
  have fb8 := B2.frozen 8
  have fb9 := B2.frozen 9
  have fb10 := B2.frozen 10
  have fb11 := B2.frozen 11
  have fb12 := B2.frozen 12
  have fb13 := B2.frozen 13
  clear hown hf hk2
  have hS : Y1 w2 := by exact ⟨A2.cell 1, A2.cell 2, A2.cell 3, A2.cell 4, A2.cell 5, A2.cell 6⟩
  refine hK.out _ _ (fun _ => hS) ?_
  clear hK K
  try simp only [Act.put, sA, s0, sS]
  refine tk 11 23 hS ?_
  refine wpAnyV_one (i := 12) (by kernel_rfl) rfl (fun K hK => ?_)
  go_simp
  refine hK.out _ _ (fun h => absurd rfl h) ?_
  clear hK K
  refine wpAnyV_done (by kernel_rfl) ?_
  try simp only [Act.put, sA, s0, sS]
  go_wp2
  refine bodyPost_ret (v := .agg #[.int .i64 2, .int .i64 txn, .int .i64 0, .int .i64 page, .int .i64 slot, .bool false, .slice none 0 0, .bool bU, .slice a2 bDb.length c2, .int .i64 prev, .int .i64 0, .slice none 0 0, .slice none 0 0, .slice none 0 0]) (by simp [results, Try.results70, go_sem, db0, db1, db2, db3, db4, db5, db6, db7, db8, db9, db10, db11, db12, db13]) rfl ⟨⟨2, txn, 0, page, slot, ⟨false, ⟨0, none, 0, []⟩⟩, ⟨bU, ⟨5, a2, c2, bDb⟩⟩, prev, 0, ⟨0, none, 0, 0, []⟩, ⟨0, none, 0, 0, []⟩, ⟨0, none, 0, []⟩⟩, rfl, (by first | rfl | simp), ?_, ?_, ?_, rfl, rfl, rfl⟩
  ·intro b hb
   rcases recRows_foot hb with h | h | h
   ·simp [Value.ownBlock] at h
   ·have := HF2.out b h; omega
   ·simp [Value.ownBlock] at h
  ·exact recRows_own (Own.nil 0 0 .u8 _) (HO2.out.kept (((((((((((((((Kept.refl (fun b => b = w.heap.size + 1) _).setCell (p := ⟨w.heap.size + 1, 0, none⟩) (.inr rfl) _).setCell (p := ⟨w.heap.size + 1, 1, none⟩) (.inr rfl) _).setCell (p := ⟨w.heap.size + 1, 2, none⟩) (.inr rfl) _).setCell (p := ⟨w.heap.size + 1, 3, none⟩) (.inr rfl) _).setCell (p := ⟨w.heap.size + 1, 4, none⟩) (.inr rfl) _).setCell (p := ⟨w.heap.size + 1, 5, none⟩) (.inr rfl) _).setCell (p := ⟨w.heap.size + 1, 6, none⟩) (.inr rfl) _).setCell (p := ⟨w.heap.size + 1, 7, none⟩) (.inr rfl) _).setCell (p := ⟨w.heap.size + 1, 8, none⟩) (.inr rfl) _).setCell (p := ⟨w.heap.size + 1, 9, none⟩) (.inr rfl) _).setCell (p := ⟨w.heap.size + 1, 10, none⟩) (.inr rfl) _).setCell (p := ⟨w.heap.size + 1, 11, none⟩) (.inr rfl) _).setCell (p := ⟨w.heap.size + 1, 12, none⟩) (.inr rfl) _).setCell (p := ⟨w.heap.size + 1, 13, none⟩) (.inr rfl) _) (fun b hb e => by have := HF2.out b hb; omega)) (Own.nil 0 0 .u8 _) (fun b h => by simp [Value.ownBlock] at h) (fun b h => by simp [Value.ownBlock] at h) (fun b h h2 => by simp [Value.ownBlock] at h2)
  ·exact ((((((((((((((HK2.out).setCell (p := ⟨w.heap.size + 1, 0, none⟩) (.inl (Nat.le_add_right _ _)) _).setCell (p := ⟨w.heap.size + 1, 1, none⟩) (.inl (Nat.le_add_right _ _)) _).setCell (p := ⟨w.heap.size + 1, 2, none⟩) (.inl (Nat.le_add_right _ _)) _).setCell (p := ⟨w.heap.size + 1, 3, none⟩) (.inl (Nat.le_add_right _ _)) _).setCell (p := ⟨w.heap.size + 1, 4, none⟩) (.inl (Nat.le_add_right _ _)) _).setCell (p := ⟨w.heap.size + 1, 5, none⟩) (.inl (Nat.le_add_right _ _)) _).setCell (p := ⟨w.heap.size + 1, 6, none⟩) (.inl (Nat.le_add_right _ _)) _).setCell (p := ⟨w.heap.size + 1, 7, none⟩) (.inl (Nat.le_add_right _ _)) _).setCell (p := ⟨w.heap.size + 1, 8, none⟩) (.inl (Nat.le_add_right _ _)) _).setCell (p := ⟨w.heap.size + 1, 9, none⟩) (.inl (Nat.le_add_right _ _)) _).setCell (p := ⟨w.heap.size + 1, 10, none⟩) (.inl (Nat.le_add_right _ _)) _).setCell (p := ⟨w.heap.size + 1, 11, none⟩) (.inl (Nat.le_add_right _ _)) _).setCell (p := ⟨w.heap.size + 1, 12, none⟩) (.inl (Nat.le_add_right _ _)) _).setCell (p := ⟨w.heap.size + 1, 13, none⟩) (.inl (Nat.le_add_right _ _)) _
 ·rw [undoFd_no hy]
  have hor : recFd x.dat ≠ 0 ∨ (recFd x.dat = 0 ∧ x.kind ≠ 1) := by by_cases h : recFd x.dat = 0; exact .inr ⟨h, fun e => hy ⟨e, h⟩⟩; exact .inl h
  clear hy hbl hrb
  generalize recFd x.dat = r at *
  obtain ⟨kind, txn, prev, page, slot, ⟨bU, ⟨bDe, bDa, bDc, bDb⟩⟩, ⟨aU, ⟨aDe, aDa, aDc, aDb⟩⟩, uN, nT, ⟨tXe, tXa, tXn, tXc, tXb⟩, ⟨dYe, dYa, dYn, dYc, dYb⟩, ⟨iMe, iMa, iMc, iMb⟩⟩ := x
  dsimp only [StLogRecord.val, StPageRecord.val, BS.v, FR.v] at HF hor ⊢
  obtain ⟨HK0, HA0, HB0⟩ := new2 w [.int .i64 kind, .int .i64 txn, .int .i64 prev, .int .i64 page, .int .i64 slot, .bool bU, .slice bDa bDb.length bDc, .bool aU, .slice aDa aDb.length aDc, .int .i64 uN, .int .i64 nT, .slice tXa tXn tXc, .slice dYa dYn dYc, .slice iMa iMb.length iMc] 48 [.int .i64 0, .int .i64 0, .int .i64 0, .int .i64 0, .int .i64 0, .bool false, .slice none 0 0, .bool false, .slice none 0 0, .int .i64 0, .int .i64 0, .slice none 0 0, .slice none 0 0, .slice none 0 0] 48
  have A0 := HA0.out
  have B0 := HB0.out
  clear HA0 HB0
  rcases hor with hr | ⟨rfl, hkk⟩
  ·go_enter Try.func70, Try.ntmps70
   go_wp2_with fail
   refine (HF.out _ HK0.out).mono ?_
   rintro e w1 ⟨rfl, hk1⟩
   have HK1 := hid (HK0.out.trans hk1)
   have B1 := B0.same hk1
   clear hk1 HF
   obtain ⟨db0, db1, db2, db3, db4, db5, db6, db7, db8, db9, db10, db11, db12, db13⟩ := B1.all14
   have fb0 := B1.frozen 0
   have fb1 := B1.frozen 1
   have fb2 := B1.frozen 2
   have fb3 := B1.frozen 3
   have fb4 := B1.frozen 4
   have fb5 := B1.frozen 5
   have fb6 := B1.frozen 6
   have fb7 := B1.frozen 7
   have fb8 := B1.frozen 8
   have fb9 := B1.frozen 9
   have fb10 := B1.frozen 10
   have fb11 := B1.frozen 11
   have fb12 := B1.frozen 12
   have fb13 := B1.frozen 13
   go_wp2
   refine bodyPost_ret (v := .agg #[.int .i64 0, .int .i64 0, .int .i64 0, .int .i64 0, .int .i64 0, .bool false, .slice none 0 0, .bool false, .slice none 0 0, .int .i64 0, .int .i64 0, .slice none 0 0, .slice none 0 0, .slice none 0 0]) (by simp [results, Try.results70, go_sem, db0, db1, db2, db3, db4, db5, db6, db7, db8, db9, db10, db11, db12, db13]) rfl ⟨⟨0, 0, 0, 0, 0, ⟨false, ⟨0, none, 0, []⟩⟩, ⟨false, ⟨0, none, 0, []⟩⟩, 0, 0, ⟨0, none, 0, 0, []⟩, ⟨0, none, 0, 0, []⟩, ⟨0, none, 0, []⟩⟩, rfl, rfl, fun b hb => absurd hb (zeroLR_foot b), zeroLR_own _, ?_, rfl, rfl, rfl⟩
   exact ((((((((((((((HK1.out).setCell (p := ⟨w.heap.size + 1, 0, none⟩) (.inl (Nat.le_add_right _ _)) _).setCell (p := ⟨w.heap.size + 1, 1, none⟩) (.inl (Nat.le_add_right _ _)) _).setCell (p := ⟨w.heap.size + 1, 2, none⟩) (.inl (Nat.le_add_right _ _)) _).setCell (p := ⟨w.heap.size + 1, 3, none⟩) (.inl (Nat.le_add_right _ _)) _).setCell (p := ⟨w.heap.size + 1, 4, none⟩) (.inl (Nat.le_add_right _ _)) _).setCell (p := ⟨w.heap.size + 1, 5, none⟩) (.inl (Nat.le_add_right _ _)) _).setCell (p := ⟨w.heap.size + 1, 6, none⟩) (.inl (Nat.le_add_right _ _)) _).setCell (p := ⟨w.heap.size + 1, 7, none⟩) (.inl (Nat.le_add_right _ _)) _).setCell (p := ⟨w.heap.size + 1, 8, none⟩) (.inl (Nat.le_add_right _ _)) _).setCell (p := ⟨w.heap.size + 1, 9, none⟩) (.inl (Nat.le_add_right _ _)) _).setCell (p := ⟨w.heap.size + 1, 10, none⟩) (.inl (Nat.le_add_right _ _)) _).setCell (p := ⟨w.heap.size + 1, 11, none⟩) (.inl (Nat.le_add_right _ _)) _).setCell (p := ⟨w.heap.size + 1, 12, none⟩) (.inl (Nat.le_add_right _ _)) _).setCell (p := ⟨w.heap.size + 1, 13, none⟩) (.inl (Nat.le_add_right _ _)) _
  ·go_enter Try.func70, Try.ntmps70
   go_wp2_with fail
   refine (HF.out _ HK0.out).mono ?_
   rintro e w1 ⟨rfl, hk1⟩
   have HK1 := hid (HK0.out.trans hk1)
   have A1 := A0.same hk1
   have B1 := B0.same hk1
   have da0 := A1.c0
   clear hk1 HF
   obtain ⟨db0, db1, db2, db3, db4, db5, db6, db7, db8, db9, db10, db11, db12, db13⟩ := B1.all14
   have fb0 := B1.frozen 0
   have fb1 := B1.frozen 1
   have fb2 := B1.frozen 2
   have fb3 := B1.frozen 3
   have fb4 := B1.frozen 4
   have fb5 := B1.frozen 5
   have fb6 := B1.frozen 6
   have fb7 := B1.frozen 7
   have fb8 := B1.frozen 8
   have fb9 := B1.frozen 9
   have fb10 := B1.frozen 10
   have fb11 := B1.frozen 11
   have fb12 := B1.frozen 12
   have fb13 := B1.frozen 13
   go_wp2
   refine bodyPost_ret (v := .agg #[.int .i64 0, .int .i64 0, .int .i64 0, .int .i64 0, .int .i64 0, .bool false, .slice none 0 0, .bool false, .slice none 0 0, .int .i64 0, .int .i64 0, .slice none 0 0, .slice none 0 0, .slice none 0 0]) (by simp [results, Try.results70, go_sem, db0, db1, db2, db3, db4, db5, db6, db7, db8, db9, db10, db11, db12, db13]) rfl ⟨⟨0, 0, 0, 0, 0, ⟨false, ⟨0, none, 0, []⟩⟩, ⟨false, ⟨0, none, 0, []⟩⟩, 0, 0, ⟨0, none, 0, 0, []⟩, ⟨0, none, 0, 0, []⟩, ⟨0, none, 0, []⟩⟩, rfl, rfl, fun b hb => absurd hb (zeroLR_foot b), zeroLR_own _, ?_, rfl, rfl, rfl⟩
   exact ((((((((((((((HK1.out).setCell (p := ⟨w.heap.size + 1, 0, none⟩) (.inl (Nat.le_add_right _ _)) _).setCell (p := ⟨w.heap.size + 1, 1, none⟩) (.inl (Nat.le_add_right _ _)) _).setCell (p := ⟨w.heap.size + 1, 2, none⟩) (.inl (Nat.le_add_right _ _)) _).setCell (p := ⟨w.heap.size + 1, 3, none⟩) (.inl (Nat.le_add_right _ _)) _).setCell (p := ⟨w.heap.size + 1, 4, none⟩) (.inl (Nat.le_add_right _ _)) _).setCell (p := ⟨w.heap.size + 1, 5, none⟩) (.inl (Nat.le_add_right _ _)) _).setCell (p := ⟨w.heap.size + 1, 6, none⟩) (.inl (Nat.le_add_right _ _)) _).setCell (p := ⟨w.heap.size + 1, 7, none⟩) (.inl (Nat.le_add_right _ _)) _).setCell (p := ⟨w.heap.size + 1, 8, none⟩) (.inl (Nat.le_add_right _ _)) _).setCell (p := ⟨w.heap.size + 1, 9, none⟩) (.inl (Nat.le_add_right _ _)) _).setCell (p := ⟨w.heap.size + 1, 10, none⟩) (.inl (Nat.le_add_right _ _)) _).setCell (p := ⟨w.heap.size + 1, 11, none⟩) (.inl (Nat.le_add_right _ _)) _).setCell (p := ⟨w.heap.size + 1, 12, none⟩) (.inl (Nat.le_add_right _ _)) _).setCell (p := ⟨w.heap.size + 1, 13, none⟩) (.inl (Nat.le_add_right _ _)) _
theorem frFd_isB {x : StLogRecord} (hB : x.isB) (lsn ep : Int) : IsB (frFd lsn ep x.dat) := by
 by_cases h : recFd x.dat = 0 ∧ (1 ≤ lsn ∧ lsn ≤ 1099511627776) ∧ (1 ≤ ep ∧ ep ≤ 4294967295)
 ·rw [frFd_yes h]
  exact ((numB_isB _ _).app (numB_isB _ _)).app (sumB_isB (recBd_isB hB h.1))
 ·rw [frFd_no h]
  exact isB_nil
theorem appC : AppC appOK := by
 intro x r w hB hz hv hr hrv
 refine (specApp_any x r w hB (by omega) hv ⟨hr.1.1, hr.1.2.1, hr.1.2.2.1⟩ (by have := hr.2; omega) hrv).mono ?_
 rintro e w' ⟨y, rfl, hd, hf, ho, hk⟩
 obtain ⟨c, l, ⟨s, ep, st, fl, ⟨te, ta, tc, tb⟩⟩⟩ := y
 have hz' : x.tail.bs.length ≤ 600 := by simp only [StLog.szs] at hz; omega
 by_cases h : appOK x.dat r.dat
 ·rw [appD_yes h] at hd
  simp only [StAppendResult.dat, StLog.dat, Prod.mk.injEq] at hd
  obtain ⟨h1, h2, h3, h4, h5, h6, h7⟩ := hd
  refine ⟨_, rfl, ⟨fun _ => h, fun _ => h1⟩, ?_, ?_, hf, ho, hk⟩
  ·show IsB tb
   rw [h7]
   exact IsB.app hB (frFd_isB (x := r) ⟨hr.1.1, hr.1.2.1, hr.1.2.2.1⟩ _ _)
  ·show (tb.length : Int) ≤ 9000
   have := frFd_length x.stop x.epoch r.dat
   rw [h7, List.length_append]
   omega
 ·rw [appD_no h] at hd
  simp only [StAppendResult.dat, StLog.dat, Prod.mk.injEq] at hd
  obtain ⟨h1, h2, h3, h4, h5, h6, h7⟩ := hd
  refine ⟨_, rfl, ⟨fun h0 => ?_, fun h0 => absurd h0 h⟩, ?_, ?_, hf, ho, hk⟩
  ·have h0 : c = 0 := h0
   omega
  ·show IsB tb
   rw [h7]
   exact isB_nil
  ·show (tb.length : Int) ≤ 9000
   rw [h7]
   simp
theorem fluC : FluC := by
 intro x w hB hz hv
 refine (specFlushed_any x w hB (by omega) hv).mono ?_
 rintro e w' ⟨y, rfl, hd, hf, ho, hk⟩
 obtain ⟨s, ep, st, fl, ⟨te, ta, tc, tb⟩⟩ := y
 refine ⟨_, rfl, ?_, ?_, hf, ho, hk⟩
 ·show IsB tb
  have h2 : tb = (flushed x.dat).2.2.2.2 := by rw [← hd]; rfl
  rw [h2]
  unfold flushed
  split
  ·exact isB_drop hB _
  ·exact isB_nil
 ·show (tb.length : Int) ≤ 600
  have h2 : tb = (flushed x.dat).2.2.2.2 := by rw [← hd]; rfl
  rw [h2]
  unfold flushed
  split
  ·simp only [List.length_drop]
   have := Int.emod_lt_of_pos x.dat.2.2.1 (show (0 : Int) < 512 by decide)
   have := Int.emod_nonneg x.dat.2.2.1 (show (512 : Int) ≠ 0 by decide)
   omega
  ·simp
theorem undC : UndC := by
 intro x w hx hv
 refine (specUndo_nil x w ⟨hx.1.1, hx.1.2.1, hx.1.2.2.1⟩ (by have := hx.2; omega) hv).mono ?_
 rintro e w' ⟨y, rfl, hd, hf, ho, hk, hn1, hn2, hn3⟩
 refine ⟨y, rfl, ?_, hf, ho, hk⟩
 have hs := hx.2
 simp only [StLogRecord.szs, StPageRecord.szs] at hs
 obtain ⟨_, _, ⟨_, ht, _⟩, ⟨_, hy, _⟩, _⟩ := StLogRecord.own_rd ho
 obtain ⟨kind, txn, prev, page, slot, ⟨bU, ⟨bE, bA, bC, bB⟩⟩, ⟨aU, ⟨aE, aA, aC, aB⟩⟩, uN, nT, ⟨tE, tA, tN, tC, tB⟩, ⟨dE, dA, dN, dC, dB⟩, ⟨iE, iA, iC, iB⟩⟩ := y
 dsimp only at ht hy
 have key : (IsB bB ∧ IsB aB ∧ IsB iB) ∧ bB.length + aB.length + iB.length ≤ 5000 ∧ tB = [] ∧ dB = [] := by
  by_cases h : x.dat.1 = 1 ∧ recFd x.dat = 0
  ·rw [undoFd_yes h] at hd
   simp only [StLogRecord.dat, StPageRecord.dat, Prod.mk.injEq] at hd
   obtain ⟨_, _, _, _, _, ⟨_, h1⟩, ⟨_, h2⟩, _, _, h3, h4, h5⟩ := hd
   rw [h1, h2, h3, h4, h5]
   exact ⟨⟨isB_nil, hx.1.1, isB_nil⟩, by simp only [List.length_nil]; omega, rfl, rfl⟩
  ·rw [undoFd_no h] at hd
   simp only [StLogRecord.dat, StPageRecord.dat, Prod.mk.injEq] at hd
   obtain ⟨_, _, _, _, _, ⟨_, h1⟩, ⟨_, h2⟩, _, _, h3, h4, h5⟩ := hd
   rw [h1, h2, h3, h4, h5]
   exact ⟨⟨isB_nil, isB_nil, isB_nil⟩, by simp, rfl, rfl⟩
 obtain ⟨k1, k2, rfl, rfl⟩ := key
 simp only [List.length_nil] at ht hy
 refine ⟨⟨k1.1, k1.2.1, k1.2.2, .inr hn1, .inr hn2, .inr hn3⟩, ?_⟩
 simp only [StLogRecord.szs, StPageRecord.szs]
 omega
theorem blk_full {w : World} {g n m : Nat} {e : TypeId} {xs : List Value} (h : w.ownsRow 0 e m (.slice (some ⟨g, 0, none⟩) n n) n xs) : Blk w g e xs := by
 rcases h with ⟨h1, ⟨h2, _⟩ | ⟨g', cap, cur, hv, _, hh, _, _, hs, ht⟩⟩
 ·cases h2
 ·injection hv with e1 e2 e3
  injection e1 with e1
  injection e1 with e1 _ _
  subst e1 e3
  rw [List.take_of_length_le (by rw [Array.length_toList, hs]; exact Nat.le_refl _)] at ht
  unfold Blk
  rw [hh, ← ht, Array.toArray_toList]
theorem made_ints (n : Nat) : (madeCells (Value.int .i64 0).cells (n * 1)).toList = vals .i64 (List.replicate n 0) := by
 apply List.ext_getElem?
 intro j
 by_cases hj : j < n
 ·have e : j % 1 = 0 := Nat.mod_one j
  simp [madeCells, vals, hj, Value.cells, e]
 ·rw [List.getElem?_eq_none (by simp [madeCells]; omega), List.getElem?_eq_none (by simp [vals]; omega)]
theorem infoI9 : (Try.prog.info? 2).map (fun i => (i.zero, i.size, i.bytes)) = some (some (.int .i64 0), 1, 8) := by kernel_rfl
theorem bgn_rec : recFd (smR 6 0 0 0 0).dat = 0 := by kernel_rfl
theorem bgn_len : (recBd (smR 6 0 0 0 0).dat).length = 13 := by kernel_rfl
def HtR (w0 w w' : World) (e : Ending) (B : Nat) (v : Value) (cs : List Int) (k : Nat) (size : Int) : Prop :=
 ∃ (fa : Option Addr) (fn fc : Nat) (qs : List StLogFrame) (en ck : Int) (k' : Nat), e = .returned (.tuple #[.agg #[.slice fa fn fc, .int .i64 en], .int .i64 ck]) ∧ OwnFr w' (.slice fa fn fc) qs ∧ 1 ≤ qs.length ∧ qs.length ≤ 110 ∧ (∀ p ∈ qs, RcB p.record) ∧ (∀ b, footFr (.slice fa fn fc) qs b → w.heap.size ≤ b ∧ ¬ b = B) ∧ SrcR w0 w' B v cs k' size ∧ k' ≤ k + 30000 ∧ Kept (fun b => b = B) w w'
theorem endHt {fn : Func} {p u : Tmp} {ty : TypeId} {tmps : Array Value} {P : Program} {w : World} {Z : Nat} {cs : List Value} {d : TypeDesc} (h : fn.results = #[.cell p ty, .tmp u]) (hp : tmps.getD p undef = .pointer (some ⟨Z, 0, none⟩)) (hc : w.rangeAt Z 0 cs)
  (hu : P.underlying ty = some d) (hd : d.isRow = true) (hi : (P.info? ty).map (·.size) = some cs.length) : (results fn tmps).run P w = .ok (.tuple #[.agg cs.toArray, tmps.getD u undef]) w := by
 rw [results_cell_tmp h, hp]
 simp [Result.andThen, asAddr, run_loadVar_mid w Z 0 ty cs d hc hu hd hi]
theorem hist_k {w0 w : World} {B : Nat} {v : Value} {cs : List Int} {k : Nat} {size : Int} (h : SrcR w0 w B v cs k size) (hk : k ≤ 1000000) :
  Calls Try.prog 12 #[.pointer (some ⟨B, 0, none⟩)] w fun e w' => HtR w0 w w' e B v cs k size := by
 obtain ⟨N, hN⟩ : ∃ N, w.heap.size = N := ⟨_, rfl⟩
 have hBN : B < N := by have := h.lt; omega
 have h0N : w0.heap.size ≤ N := by have := h.kept.size; omega
 have b0 := Blk.new w #[.slice none 0 0, .int .i64 0] 36
 have hk0 : Same w (w.alloc (.cells #[.slice none 0 0, .int .i64 0] 36)) := (Kept.refl _ _).alloc _
 have hz1' : (w.alloc (.cells #[.slice none 0 0, .int .i64 0] 36)).heap.size = N + 1 := by simp [← hN]
 have HZ1 := hid hz1'
 clear hz1'
 rw [hN] at b0
 obtain ⟨i0, hi, hz0, hz1, hz2⟩ := info_parts Try.infoByte'
 obtain ⟨j0, hj, hj0, hj1, hj2⟩ := info_parts infoI9
 have HS := hid (h.same hk0)
 have HN := hid hN
 clear h
 go_enter Try.func12, Try.ntmps12
 go_upto_region 1 with fail
 try rw [hN]
 clear hN
 generalize w.alloc (.cells #[.slice none 0 0, .int .i64 0] 36) = w1 at b0 hk0 HS HZ1 ⊢
 have HR := hid b0
 have HK0 := hid hk0
 have HK := (show Hid (Kept (fun b => b = B) w1 w1) from Kept.refl _ _)
 clear b0 hk0
 go_wp2_with fail
 refine (next_k 3 HS.out (by omega) (by constructor <;> decide)).mono ?_
 rintro e w2 ⟨z1, rfl, hd, hs', hk'⟩
 obtain ⟨h11, h12⟩ := hd.2 (by decide)
 have HS2 := hid hs'
 have HK2 := hid (HK.out.trans hk')
 clear hd hs' hk' HS HK
 obtain ⟨ep, hep⟩ : ∃ z, 1 + z1 = z := ⟨_, rfl⟩
 have q1 : IntKind.i64.wrap (1 + z1) = ep := by rw [IntKind.wrap_i64]; omega
 go_wp2_with fail
 refine (next_k 900 HS2.out (by omega) (by constructor <;> decide)).mono ?_
 rintro e w3 ⟨z2, rfl, hd, hs', hk'⟩
 obtain ⟨h21, h22⟩ := hd.2 (by decide)
 have HS3 := hid hs'
 have HK3 := hid (HK2.out.trans hk')
 clear hd hs' hk' HS2 HK2
 obtain ⟨en, hen⟩ : ∃ z, 512 + z2 = z := ⟨_, rfl⟩
 have q2 : IntKind.i64.wrap (512 + z2) = en := by rw [IntKind.wrap_i64]; omega
 have hep1 : 1 ≤ ep ∧ ep ≤ 3 := by omega
 have hen1 : 512 ≤ en ∧ en ≤ 1500 := by omega
 clear hep hen
 go_upto_region 2 with fail
 clear h11 h12 h21 h22 q1 q2
 obtain ⟨H, hH⟩ : ∃ H, w3.heap.size = H := ⟨_, rfl⟩
 have hNH : N < H := by have := HK3.out.size; have := HZ1.out; omega
 have hb4 := Blk.newL w3 [.int .i64 200, .int .i64 ep, .int .i64 en, .int .i64 0, .slice none 0 0, .slice none 0 0, .slice none 0 0, .slice none 0 0, .slice none 0 0] 77
 have hk4 : Same w3 (w3.alloc (.cells #[.int .i64 200, .int .i64 ep, .int .i64 en, .int .i64 0, .slice none 0 0, .slice none 0 0, .slice none 0 0, .slice none 0 0, .slice none 0 0] 77)) := (Kept.refl _ _).alloc _
 have hz4 : (w3.alloc (.cells #[.int .i64 200, .int .i64 ep, .int .i64 en, .int .i64 0, .slice none 0 0, .slice none 0 0, .slice none 0 0, .slice none 0 0, .slice none 0 0] 77)).heap.size = H + 1 := by simp [← hH]
 rw [hH] at hb4 ⊢
 generalize w3.alloc (.cells #[.int .i64 200, .int .i64 ep, .int .i64 en, .int .i64 0, .slice none 0 0, .slice none 0 0, .slice none 0 0, .slice none 0 0, .slice none 0 0] 77) = w4 at hb4 hk4 hz4 ⊢
 have HW4 := (show Hid (w3.heap.size = H ∧ w4.heap.size = H + 1) from ⟨hH, hz4⟩)
 clear hH hz4
 have c2 : w4.cell? ⟨H, 2, none⟩ = some (.int .i64 en) := hb4.cell 2
 have c3 : w4.cell? ⟨H, 3, none⟩ = some (.int .i64 0) := hb4.cell 3
 have f3 := hb4.frozen 3
 have HB5 := (show Hid (Blk (w4.setCell ⟨H, 3, none⟩ (.int .i64 en)) H 77 [.int .i64 200, .int .i64 ep, .int .i64 en, .int .i64 en, .slice none 0 0, .slice none 0 0, .slice none 0 0, .slice none 0 0, .slice none 0 0]) from hb4.stored 3 (.int .i64 en))
 have hk5 : Same w3 (w4.setCell ⟨H, 3, none⟩ (.int .i64 en)) := hk4.next (Kept.setCell (R := fun b => b = H) (Kept.refl _ _) (.inr (by rfl)) _) (fun i hi e => by have e' : i = H := e; have := HW4.out.1; omega)
 have HZ5 := (show Hid ((w4.setCell ⟨H, 3, none⟩ (.int .i64 en)).heap.size = H + 1) from by have h := HW4.out.2; unfold Hid; simpa using h)
 have HK5 := hid hk5
 clear hb4 hk4 hk5
 go_upto_region 3 with fail
 generalize World.setCell w4 ⟨H, 3, none⟩ (.int .i64 en) = w5 at HB5 HK5 HZ5 ⊢
 clear c2 c3 f3
 have c2 : w5.cell? ⟨H, 2, none⟩ = some (.int .i64 en) := HB5.out.cell 2
 obtain ⟨tl, htl⟩ : ∃ m : Nat, en % 512 = m := ⟨(en % 512).toNat, by omega⟩
 have htl1 : tl ≤ 511 := by omega
 have hen0 : 0 ≤ en := by omega
 obtain ⟨gT, hgT⟩ : ∃ g, w5.heap.size = g := ⟨_, rfl⟩
 have hTH : H < gT := by have := HZ5.out; omega
 go_upto_region 4 with (at_make; go_loud (refine wpList_make_full _ rfl (.tmp 23) (.tmp 23) 22 rfl 0 5 i0 (.int .u8 0) 1 Try.underlying22 hi hz0 hz1 .i64 .i64 _ _ tl rfl rfl (by first | rfl | assumption | omega) (by first | rfl | assumption | omega) (by rw [hz2]; omega) (by unfold maxLen; omega) (Nat.zero_le _) ?_); intro w6 hown hgrow; rw [hgT] at hown; have hkg := (Kept.of_grown (R := fun _ => False) hgrow (fun k e => (by cases e))); have HO := (show Hid (Own 0 5 .u8 w6 (.slice (some ⟨gT, 0, none⟩) tl tl) (List.replicate tl 0)) from own_made hown); have HKg := hid hkg; have hBn := HB5.out.same hkg; have HBn := hid hBn; have cN := (show w6.cell? ⟨H, 4, none⟩ = some (.slice none 0 0) from hBn.cell 4); have fN := hBn.frozen 4; clear hown hgrow hkg hBn)
 have HKT := HKg
 clear HKg HB5 c2 cN fN
 have HB6 := (show Hid (Blk (w6.setCell ⟨H, 4, none⟩ (.slice (some ⟨gT, 0, none⟩) tl tl)) H 77 [.int .i64 200, .int .i64 ep, .int .i64 en, .int .i64 en, .slice (some ⟨gT, 0, none⟩) tl tl, .slice none 0 0, .slice none 0 0, .slice none 0 0, .slice none 0 0]) from HBn.out.stored 4 _)
 have hk6 : Kept (fun b => b = H) w6 (w6.setCell ⟨H, 4, none⟩ (.slice (some ⟨gT, 0, none⟩) tl tl)) := Kept.setCell (R := fun b => b = H) (Kept.refl _ _) (.inr (by rfl)) _
 have HT6 := hid (HO.out.kept hk6 (fun b hb e => by have e1 : gT = b := (by simpa [Value.ownBlock] using hb); have e2 : b = H := e; omega))
 have HK6 := (show Hid (Same w3 (w6.setCell ⟨H, 4, none⟩ (.slice (some ⟨gT, 0, none⟩) tl tl))) from (HK5.out.trans HKT.out).next hk6 (fun i hi e => by have e' : i = H := e; have := HW4.out.1; omega))
 have HG6 := (show Hid (gT < (w6.setCell ⟨H, 4, none⟩ (.slice (some ⟨gT, 0, none⟩) tl tl)).heap.size) from (HT6.out.lt gT rfl).2)
 clear HO HBn hk6 HKT hgT HZ5 HK5
 generalize World.setCell w6 ⟨H, 4, none⟩ _ = w7 at HB6 HT6 HK6 HG6 ⊢
 obtain ⟨g1, hg⟩ : ∃ g, w7.heap.size = g := ⟨_, rfl⟩
 have hl0 : gT < g1 := by have := HG6.out; omega
 go_upto_region 5 with (at_make; go_loud (refine wpList_make_full _ rfl _ _ 75 rfl 0 2 j0 (.int .i64 0) 1 Try.underlying75 hj hj0 hj1 .i64 .i64 _ _ 6 rfl rfl (by rfl) (by rfl) (by rw [hj2]; decide) (by unfold maxLen; decide) (Nat.zero_le _) ?_); intro wm0 hown hgrow; rw [hg] at hown; have hkg := (Kept.of_grown (R := fun _ => False) hgrow (fun k e => (by cases e))); have hbg := blk_full hown; rw [made_ints 6] at hbg; have HNW := hid hbg; have HKg := hid hkg; have hBn := HB6.out.same hkg; have HBn := hid hBn; have cN := (show wm0.cell? ⟨H, 6, none⟩ = some (.slice none 0 0) from hBn.cell 6); have fN := hBn.frozen 6; clear hown hgrow hkg hBn hbg)
 have HKT := HKg
 clear HKg cN fN
 have hk0 : Kept (fun b => b = H) wm0 (wm0.setCell ⟨H, 6, none⟩ (.slice (some ⟨g1, 0, none⟩) 6 6)) := Kept.setCell (R := fun b => b = H) (Kept.refl _ _) (.inr (by rfl)) _
 have HB0n := (show Hid (Blk (wm0.setCell ⟨H, 6, none⟩ (.slice (some ⟨g1, 0, none⟩) 6 6)) H 77 [.int .i64 200, .int .i64 ep, .int .i64 en, .int .i64 en, .slice (some ⟨gT, 0, none⟩) tl tl, .slice none 0 0, .slice (some ⟨g1, 0, none⟩) 6 6, .slice none 0 0, .slice none 0 0]) from HBn.out.stored 6 _)
 have HT0n := hid ((HT6.out.same HKT.out).kept hk0 (fun b hb e => by have e1 : gT = b := (by simpa [Value.ownBlock] using hb); have e2 : b = H := e; omega))
 have HK0n := (show Hid (Same w3 (wm0.setCell ⟨H, 6, none⟩ (.slice (some ⟨g1, 0, none⟩) 6 6))) from (HK6.out.trans HKT.out).next hk0 (fun i hi e => by have e' : i = H := e; have := HW4.out.1; omega))
 have HX0 := hid (HNW.out.kept hk0 (fun e => by omega))
 have HG0n := (show Hid (g1 < (wm0.setCell ⟨H, 6, none⟩ (.slice (some ⟨g1, 0, none⟩) 6 6)).heap.size) from HX0.out.lt)
 clear HNW HBn hk0 HKT hg HB6 HT6 HK6 HG6 
 generalize World.setCell wm0 ⟨H, 6, none⟩ _ = wn0 at HB0n HT0n HK0n HG0n HX0 ⊢
 obtain ⟨g2, hg⟩ : ∃ g, wn0.heap.size = g := ⟨_, rfl⟩
 have hl1 : g1 < g2 := by have := HG0n.out; omega
 go_upto_region 6 with (at_make; go_loud (refine wpList_make_full _ rfl _ _ 75 rfl 0 2 j0 (.int .i64 0) 1 Try.underlying75 hj hj0 hj1 .i64 .i64 _ _ 6 rfl rfl (by rfl) (by rfl) (by rw [hj2]; decide) (by unfold maxLen; decide) (Nat.zero_le _) ?_); intro wm1 hown hgrow; rw [hg] at hown; have hkg := (Kept.of_grown (R := fun _ => False) hgrow (fun k e => (by cases e))); have hbg := blk_full hown; rw [made_ints 6] at hbg; have HNW := hid hbg; have HKg := hid hkg; have hBn := HB0n.out.same hkg; have HBn := hid hBn; have cN := (show wm1.cell? ⟨H, 7, none⟩ = some (.slice none 0 0) from hBn.cell 7); have fN := hBn.frozen 7; clear hown hgrow hkg hBn hbg)
 have HKT := HKg
 clear HKg cN fN
 have hk1 : Kept (fun b => b = H) wm1 (wm1.setCell ⟨H, 7, none⟩ (.slice (some ⟨g2, 0, none⟩) 6 6)) := Kept.setCell (R := fun b => b = H) (Kept.refl _ _) (.inr (by rfl)) _
 have HB1n := (show Hid (Blk (wm1.setCell ⟨H, 7, none⟩ (.slice (some ⟨g2, 0, none⟩) 6 6)) H 77 [.int .i64 200, .int .i64 ep, .int .i64 en, .int .i64 en, .slice (some ⟨gT, 0, none⟩) tl tl, .slice none 0 0, .slice (some ⟨g1, 0, none⟩) 6 6, .slice (some ⟨g2, 0, none⟩) 6 6, .slice none 0 0]) from HBn.out.stored 7 _)
 have HT1n := hid ((HT0n.out.same HKT.out).kept hk1 (fun b hb e => by have e1 : gT = b := (by simpa [Value.ownBlock] using hb); have e2 : b = H := e; omega))
 have HK1n := (show Hid (Same w3 (wm1.setCell ⟨H, 7, none⟩ (.slice (some ⟨g2, 0, none⟩) 6 6))) from (HK0n.out.trans HKT.out).next hk1 (fun i hi e => by have e' : i = H := e; have := HW4.out.1; omega))
 have HX1 := hid (HNW.out.kept hk1 (fun e => by omega))
 have HY0_1 := hid ((HX0.out.same HKT.out).kept hk1 (fun e => by omega))
 have HG1n := (show Hid (g2 < (wm1.setCell ⟨H, 7, none⟩ (.slice (some ⟨g2, 0, none⟩) 6 6)).heap.size) from HX1.out.lt)
 clear HNW HBn hk1 HKT hg HB0n HT0n HK0n HG0n HX0
 generalize World.setCell wm1 ⟨H, 7, none⟩ _ = wn1 at HB1n HT1n HK1n HG1n HY0_1 HX1 ⊢
 obtain ⟨g3, hg⟩ : ∃ g, wn1.heap.size = g := ⟨_, rfl⟩
 have hl2 : g2 < g3 := by have := HG1n.out; omega
 go_upto_region 7 with (at_make; go_loud (refine wpList_make_full _ rfl _ _ 75 rfl 0 2 j0 (.int .i64 0) 1 Try.underlying75 hj hj0 hj1 .i64 .i64 _ _ 6 rfl rfl (by rfl) (by rfl) (by rw [hj2]; decide) (by unfold maxLen; decide) (Nat.zero_le _) ?_); intro wm2 hown hgrow; rw [hg] at hown; have hkg := (Kept.of_grown (R := fun _ => False) hgrow (fun k e => (by cases e))); have hbg := blk_full hown; rw [made_ints 6] at hbg; have HNW := hid hbg; have HKg := hid hkg; have hBn := HB1n.out.same hkg; have HBn := hid hBn; have cN := (show wm2.cell? ⟨H, 8, none⟩ = some (.slice none 0 0) from hBn.cell 8); have fN := hBn.frozen 8; clear hown hgrow hkg hBn hbg)
 have HKT := HKg
 clear HKg cN fN
 have hk2 : Kept (fun b => b = H) wm2 (wm2.setCell ⟨H, 8, none⟩ (.slice (some ⟨g3, 0, none⟩) 6 6)) := Kept.setCell (R := fun b => b = H) (Kept.refl _ _) (.inr (by rfl)) _
 have HB2n := (show Hid (Blk (wm2.setCell ⟨H, 8, none⟩ (.slice (some ⟨g3, 0, none⟩) 6 6)) H 77 [.int .i64 200, .int .i64 ep, .int .i64 en, .int .i64 en, .slice (some ⟨gT, 0, none⟩) tl tl, .slice none 0 0, .slice (some ⟨g1, 0, none⟩) 6 6, .slice (some ⟨g2, 0, none⟩) 6 6, .slice (some ⟨g3, 0, none⟩) 6 6]) from HBn.out.stored 8 _)
 have HT2n := hid ((HT1n.out.same HKT.out).kept hk2 (fun b hb e => by have e1 : gT = b := (by simpa [Value.ownBlock] using hb); have e2 : b = H := e; omega))
 have HK2n := (show Hid (Same w3 (wm2.setCell ⟨H, 8, none⟩ (.slice (some ⟨g3, 0, none⟩) 6 6))) from (HK1n.out.trans HKT.out).next hk2 (fun i hi e => by have e' : i = H := e; have := HW4.out.1; omega))
 have HX2 := hid (HNW.out.kept hk2 (fun e => by omega))
 have HY0_2 := hid ((HY0_1.out.same HKT.out).kept hk2 (fun e => by omega))
 have HY1_2 := hid ((HX1.out.same HKT.out).kept hk2 (fun e => by omega))
 have HG2n := (show Hid (g3 < (wm2.setCell ⟨H, 8, none⟩ (.slice (some ⟨g3, 0, none⟩) 6 6)).heap.size) from HX2.out.lt)
 clear HNW HBn hk2 HKT hg HB1n HT1n HK1n HG1n HY0_1 HX1
 generalize World.setCell wm2 ⟨H, 8, none⟩ _ = wn2 at HB2n HT2n HK2n HG2n HY0_2 HY1_2 HX2 ⊢
 obtain ⟨ts, hts⟩ : ∃ t, List.replicate tl (0 : Int) = t := ⟨_, rfl⟩
 have hts1 : ts.length = tl := by rw [← hts, List.length_replicate]
 have hts2 : IsB ts := by rw [← hts]; exact fun y hy => by rw [List.eq_of_mem_replicate hy]; omega
 rw [hts] at HT2n
 have hTo : Own 0 5 .u8 wn2 (.slice (some ⟨gT, 0, none⟩) ts.length tl) ts := by rw [hts1]; exact HT2n.out
 have HI := (show Hid (HsS w0 w1 (N + 1) B H v cs (k + 2) size ⟨200, ep, en, en, ⟨5, some ⟨gT, 0, none⟩, tl, ts⟩⟩ none 0 0 [] g1 g2 g3 (List.replicate 6 0) (List.replicate 6 0) (List.replicate 6 0) wn2) from by
  refine ⟨⟨?_, OwnL.one hTo, hts2, by show (ts.length : Int) ≤ 600; omega, OwnFr.nil _, fun p hp => by simp at hp, ⟨HY0_2.out, rfl⟩, ⟨HY1_2.out, rfl⟩, ⟨HX2.out, rfl⟩, fun b hb => ?_, fun b hb => ?_, ?_⟩, HS3.out.same HK2n.out, ?_, ?_⟩
  ·show Blk wn2 H 77 [.int .i64 200, .int .i64 ep, .int .i64 en, .int .i64 en, .slice (some ⟨gT, 0, none⟩) ts.length tl, .slice none 0 0, .slice (some ⟨g1, 0, none⟩) 6 6, .slice (some ⟨g2, 0, none⟩) 6 6, .slice (some ⟨g3, 0, none⟩) 6 6]
   rw [hts1]
   exact HB2n.out
  ·rcases hb with hb | hb
   ·simp [Value.ownBlock] at hb
   ·obtain ⟨r, hr, _⟩ := hb
    simp [frRows] at hr
  ·have e1 : gT = b := (by have := (footL_ints _ _ _ _ _).1 hb; simpa [Value.ownBlock, BS.v] using this)
   refine ⟨by omega, by omega, by omega, by omega, by omega, by omega, fun hb => ?_⟩
   rcases hb with hb | hb
   ·simp [Value.ownBlock] at hb
   ·obtain ⟨r, hr, _⟩ := hb
    simp [frRows] at hr
  ·exact ⟨⟨by omega, by omega, by omega, by omega⟩, ⟨by omega, by omega, by omega, by omega⟩, ⟨by omega, by omega, by omega⟩, by omega, by omega, by omega⟩
  ·exact (HK3.out.next HK2n.out (fun _ _ e => e.elim)).mono (fun _ _ e => .inr e)
  ·exact ⟨by omega, by have := HZ1.out; omega, by omega⟩)
 have HOK := (show Hid (appOK (StLog.dat ⟨200, ep, en, en, ⟨5, some ⟨gT, 0, none⟩, tl, ts⟩⟩) (smR 6 0 0 0 0).dat) from by
  refine ⟨?_, bgn_rec, ?_⟩
  ·show logFault 200 ep en en ts.length = 0
   unfold logFault
   rw [if_neg (by omega), if_neg (by omega), if_neg (by omega), if_neg (by omega)]
  ·rw [fsFd_good bgn_rec, bgn_len]
   show en + (20 + (13 : Nat)) ≤ 1099511627776
   omega)
 clear HB2n HT2n HK2n HG2n HY0_2 HY1_2 HX2 hTo hts hts2 HK3 HS3 HW4 htl htl1
 have r2 := HI.out.hs.box.cell 2
 dsimp only [List.getElem?_cons_succ, List.getElem?_cons_zero] at r2
 go_wp2_with fail
 refine (HI.out.small appC fluC (by simp) _ _ _ _ _).mono ?_
 rintro e wa ⟨rfl, ha⟩
 obtain ⟨xa, faa, fna, fca, qa, hSa, hl1, hl2, hOk⟩ := HI.out.add ha
 have hqa : qa.length = 1 := hOk HOK.out
 have HSa := hid hSa
 clear ha hSa hl1 hl2 hOk HI HOK r2
 go_wp2_with fail
 refine (HSa.out.small appC fluC (by omega) _ _ _ _ _).mono ?_
 rintro e wb ⟨rfl, ha⟩
 obtain ⟨xb, fab, fnb, fcb, qb, hSb, hl1, hl2, _⟩ := HSa.out.add ha
 have hqb1 : 1 ≤ qb.length := by omega
 have hqb2 : qb.length ≤ 2 := by omega
 have HSb := hid hSb
 clear ha hSb hl1 hl2 HSa hqa
 have hsz := HSb.out.src.src.little
 obtain ⟨_, _, s2⟩ := HSb.out.src.src.blk.all3
 have q3 : IntKind.i64.wrap (2 * size) = 2 * size := by rw [IntKind.wrap_i64]; omega
 have q4 : IntKind.i64.wrap (10 + 2 * size) = 10 + 2 * size := by rw [IntKind.wrap_i64]; omega
 go_wp2_with fail
 refine (next_k (10 + 2 * size) HSb.out.src (by omega) (by constructor <;> omega)).mono ?_
 rintro e wc ⟨z, rfl, hd, hs', hk'⟩
 obtain ⟨hz1', hz2'⟩ := hd.2 (by omega)
 have HSc := hid (HSb.out.draw hs' hk')
 clear hd hs' hk' HSb s2 q3 q4
 obtain ⟨NN, hNN⟩ : ∃ m : Nat, 2 + z = (m : Int) := ⟨(2 + z).toNat, by omega⟩
 have hN36 : NN ≤ 36 := by omega
 have q5 : IntKind.i64.wrap (2 + z) = (NN : Int) := by rw [IntKind.wrap_i64]; omega
 have HE0 := (show Hid (HsE w0 w1 (N + 1) B H v cs (k + 3) size 2 g1 g2 g3 wc) from ⟨_, _, _, _, _, _, _, _, _, HSc.out, hqb1, hqb2, by omega⟩)
 clear HSc hNN hz1' hz2' hsz
 go_wp2_with fail
 go_loopw [5, 6] (fun c i wr => ∃ (j : Nat) (ck : Int), j ≤ NN ∧ c = .int .i64 ck ∧ i = .int .i64 (j : Int) ∧ Hid (HsE w0 w1 (N + 1) B H v cs (k + 3 + 521 * (NN - j)) size (2 + 3 * (NN - j)) g1 g2 g3 wr)) (fun _ i _ => (intOf i).toNat)
 case atStart => exact ⟨NN, en, Nat.le_refl _, rfl, rfl, by rw [Nat.sub_self]; exact HE0⟩
 case round =>
 obtain ⟨j, ck, hjN, rfl, rfl, HE⟩ := hrel
 clear HE0
 obtain ⟨x1, fa1, fn1, fc1, qs1, l1, l2, l3, k1, hS1, hq1, hq2, hk1⟩ := HE.out
 have HS1 := hid hS1
 clear HE hS1
 cases j with
 | succ j =>
  as_aux_lemma =>
  go_wp2_with fail
  refine (step_k appC fluC undC HS1.out.here hq1 (by omega) (by omega)).mono ?_
  rintro e w2' ⟨rfl, hE⟩
  obtain ⟨x2, fa2, fn2, fc2, qs2, m1, m2, m3, k2, hS2, hq3, hq4, hk2⟩ := HsE.back HS1.out hE
  have HS2' := hid hS2
  clear hE hS2 HS1
  go_wp2_with fail
  refine (chance_k 9 HS2'.out.src (by omega) (by constructor <;> decide)).mono ?_
  rintro e w3' ⟨b, rfl, hs', hk'⟩
  have HS3' := hid (HS2'.out.draw hs' hk')
  clear hs' hk' HS2'
  cases b
  ·go_wp2_with fail
   go_roundw
   case rel => exact ⟨j, ck, by omega, rfl, by go_num, ⟨_, _, _, _, _, _, _, _, _, HS3'.out, by omega, by omega, by omega⟩⟩
   case measure => simp [intOf]
  ·go_wp2_with fail
   refine (ck_k appC fluC HS3'.out.here (by omega) (by omega) (by omega) ck).mono ?_
   rintro e w4' ⟨cz, rfl, hE⟩
   have HE4 := (show Hid (HsE w0 w1 (N + 1) B H v cs (k + 3 + 521 * (NN - j)) size (2 + 3 * (NN - j)) g1 g2 g3 w4') from (HsE.back HS3'.out hE).le (by omega) (by omega))
   clear hE HS3'
   go_wp2_with fail
   go_roundw
   case rel => exact ⟨j, cz, by omega, rfl, by go_num, HE4⟩
   case measure => simp [intOf]
 | zero =>
  as_aux_lemma =>
  have r5 := HS1.out.hs.box.cell 5
  have r2 := HS1.out.hs.box.cell 2
  dsimp only [List.getElem?_cons_succ, List.getElem?_cons_zero] at r5 r2
  have hRb := HR.out.kept HS1.out.kept (fun e => by rcases e with e | e <;> omega)
  have c0 : wr.cell? ⟨N, 0, none⟩ = some (.slice none 0 0) := hRb.cell 0
  have c1 : wr.cell? ⟨N, 1, none⟩ = some (.int .i64 0) := hRb.cell 1
  have ff := hRb.frozen
  have hb9 : Blk ((wr.setCell ⟨N, 0, none⟩ (.slice fa1 fn1 fc1)).setCell ⟨N, 1, none⟩ (.int .i64 x1.stop)) N 36 [.slice fa1 fn1 fc1, .int .i64 x1.stop] := (hRb.stored 0 _).stored 1 _
  have hk9 : Kept (fun b => b = N) wr ((wr.setCell ⟨N, 0, none⟩ (.slice fa1 fn1 fc1)).setCell ⟨N, 1, none⟩ (.int .i64 x1.stop)) := by
   iterate 2 refine Kept.setCell ?_ (.inr (by rfl)) _
   exact Kept.refl _ _
  have HB9 := hid hb9
  have HK9 := hid hk9
  clear hb9 hk9 hRb
  go_wp2_with fail
  generalize World.setCell _ ⟨N, 1, none⟩ _ = w9 at HB9 HK9 ⊢
  clear c0 c1 ff
  refine bodyPost_ret (v := .tuple #[.agg #[.slice fa1 fn1 fc1, .int .i64 x1.stop], .int .i64 ck]) (endHt Try.results12 rfl HB9.out.rangeAll Try.underlying36 rfl (by kernel_rfl)) rfl ?_
  have hNw := HN.out
  have hfN : ∀ b, footFr (.slice fa1 fn1 fc1) qs1 b → N + 1 ≤ b ∧ ¬ b = B := fun b hb => ⟨(HS1.out.hs.f b hb).1, (HS1.out.hs.f b hb).2.1⟩
  refine ⟨fa1, fn1, fc1, qs1, x1.stop, ck, k1, rfl, HS1.out.hs.own.kept HK9.out (fun b hb e => by have := (hfN b hb).1; have e' : b = N := e; omega), hq1, by omega, HS1.out.hs.each, fun b hb => ⟨by have := (hfN b hb).1; omega, (hfN b hb).2⟩, HS1.out.src.on HK9.out (fun e => by omega) (fun i hi e => by have e' : i = N := e; omega), by omega, ?_⟩
  refine ((HK0.out.mono (R' := fun b => b = B) (fun _ _ e => e.elim)).next HS1.out.kept (fun i hi e => ?_)).next HK9.out (fun i hi e => by have e' : i = N := e; omega)
  rcases e with e | e
  ·omega
  ·exact e
end Go.Proofs.Ytcldagphkpkdpaa
