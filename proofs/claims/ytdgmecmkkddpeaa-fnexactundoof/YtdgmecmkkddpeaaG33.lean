import Derived.Test.YtdgmecmkkddpeaaG32
import Derived.Test.YtdgmecmkkddpeaaPlainRec
import Derived.Test.YtdgmecmkkddpeaaG18
import Derived.Test.YtdgmecmkkddpeaaG20
namespace Go.Proofs.Ytdgmecmkkddpeaa
set_option maxRecDepth 100000
set_option maxHeartbeats 16000000
set_option linter.unusedVariables false
set_option linter.unusedSimpArgs false
open Go.RowKit
theorem implUndo_any (x : StLogRecord) (w : World) (hB : x.isB) (hn : x.szs ≤ 1073741824) (hv : StLogRecord.rd w x) : Calls Try.prog 21 #[x.val] w fun e w' => ∃ y : StLogRecord, e = .returned y.val ∧ y.dat = undoFd x.dat ∧ (∀ b, FootL y.rows b → w.heap.size ≤ b) ∧ OwnL w' y.rows ∧ Same w w' := by
 have HF := (show Hid (∀ wx, Same w wx → Calls Try.prog 10 #[x.val] wx fun e w' => e = .returned (.int .i64 (recFd x.dat)) ∧ Same wx w') from fun wx (h : Same w wx) => implRec_any x wx hB hn (StLogRecord.rd.same hv h))
 have hbl : x.before.data.bs.length ≤ 1099511627776 := by have h0 := hn; simp only [StLogRecord.szs, StPageRecord.szs] at h0; omega
 have hrb : Rd .u8 w x.before.data.v x.before.data.bs := hv.1
 clear hB hn hv
 by_cases hy : x.dat.1 = 1 ∧ recFd x.dat = 0
 ·obtain ⟨hk1, hz⟩ := hy
  rw [hz] at HF
  rw [undoFd_yes ⟨hk1, hz⟩]
  clear hz
  obtain ⟨kind, txn, prev, page, slot, ⟨bU, ⟨bDe, bDa, bDc, bDb⟩⟩, ⟨aU, ⟨aDe, aDa, aDc, aDb⟩⟩, uN, nT, ⟨tXe, tXa, tXn, tXc, tXb⟩, ⟨dYe, dYa, dYn, dYc, dYb⟩, ⟨iMe, iMa, iMc, iMb⟩⟩ := x
  replace hk1 : kind = 1 := hk1
  subst hk1
  dsimp only [StLogRecord.val, StPageRecord.val, BS.v, FR.v, StLogRecord.dat, StPageRecord.dat] at HF hrb ⊢
  have HRB := hid hrb
  clear hrb
  dsimp only at hbl
  obtain ⟨HK0, HA0, HB0⟩ := new2 w [.int .i64 1, .int .i64 txn, .int .i64 prev, .int .i64 page, .int .i64 slot, .bool bU, .slice bDa bDb.length bDc, .bool aU, .slice aDa aDb.length aDc, .int .i64 uN, .int .i64 nT, .slice tXa tXn tXc, .slice dYa dYn dYc, .slice iMa iMb.length iMc] 35 [.int .i64 0, .int .i64 0, .int .i64 0, .int .i64 0, .int .i64 0, .bool false, .slice none 0 0, .bool false, .slice none 0 0, .int .i64 0, .int .i64 0, .slice none 0 0, .slice none 0 0, .slice none 0 0] 35
  have A0 := HA0.out
  have B0 := HB0.out
  clear HA0 HB0
  go_enter Try.func21, Try.ntmps21
  go_wp2_with fail
  refine (HF.out _ HK0.out).mono ?_
  rintro e w1 ⟨rfl, hk1⟩
  have HK1 := hid (HK0.out.trans hk1)
  have A1 := A0.same hk1
  have B1 := B0.same hk1
  have hz1 := hk1.size
  simp only [World.size_alloc] at hz1
  clear hk1 HF
  obtain ⟨d1_0, d1_1, d1_2, d1_3, d1_4, d1_5, d1_6, d1_7, d1_8, d1_9, d1_10, d1_11, d1_12, d1_13⟩ := A1.all14
  go_wp2_with fail
  refine (plainRecord_2 txn 0 page slot false none 0 0 bU bDa bDb.length bDc prev 0 none 0 0 none 0 0 none 0 0 _).mono ?_
  rintro e w2 ⟨rfl, hk2⟩
  have HK2 := hid (HK1.out.trans hk2)
  have B2 := B1.same hk2
  have hz2 := hk2.size
  clear hk2
  go_wp2_with fail
  refine (ownRec_any 2 txn 0 page slot false none 0 [] bU bDa bDc bDb prev 0 none 0 [] _ (by simp) hbl (by simp) ((Own.nil 0 0 .u8 _).rd) (HRB.out.same HK2.out) ((Own.nil 0 0 .u8 _).rd)).mono ?_
  rintro e w3 ⟨a1, a2, a5, c1, c2, c5, rfl, ho1, ho2, ho5, hf1, ⟨hf2, hf5⟩, ⟨hd1, hd2, hd3⟩, hk3⟩
  have HO1 := hid ho1
  have HO2 := hid ho2
  have HO5 := hid ho5
  have HX := hid (And.intro hf1 (And.intro hf2 hf5))
  have HD := hid (And.intro hd1 (And.intro hd2 hd3))
  have HK3 := hid (HK2.out.trans hk3)
  have B3 := B2.same hk3
  obtain ⟨db0, db1, db2, db3, db4, db5, db6, db7, db8, db9, db10, db11, db12, db13⟩ := B3.all14
  have fb0 := B3.frozen 0
  have fb1 := B3.frozen 1
  have fb2 := B3.frozen 2
  have fb3 := B3.frozen 3
  have fb4 := B3.frozen 4
  have fb5 := B3.frozen 5
  have fb6 := B3.frozen 6
  have fb7 := B3.frozen 7
  have fb8 := B3.frozen 8
  have fb9 := B3.frozen 9
  have fb10 := B3.frozen 10
  have fb11 := B3.frozen 11
  have fb12 := B3.frozen 12
  have fb13 := B3.frozen 13
  clear ho1 ho2 ho5 hf1 hf2 hf5 hd1 hd2 hd3 hk3
  go_wp2
  refine bodyPost_ret (v := .agg #[.int .i64 2, .int .i64 txn, .int .i64 0, .int .i64 page, .int .i64 slot, .bool false, .slice a1 0 c1, .bool bU, .slice a2 bDb.length c2, .int .i64 prev, .int .i64 0, .slice none 0 0, .slice none 0 0, .slice a5 0 c5]) (by simp [results, Try.results21, go_sem, db0, db1, db2, db3, db4, db5, db6, db7, db8, db9, db10, db11, db12, db13]) rfl ⟨⟨2, txn, 0, page, slot, ⟨false, ⟨5, a1, c1, []⟩⟩, ⟨bU, ⟨5, a2, c2, bDb⟩⟩, prev, 0, ⟨0, none, 0, 0, []⟩, ⟨0, none, 0, 0, []⟩, ⟨5, a5, c5, []⟩⟩, rfl, rfl, ?_, ?_, ?_⟩
  ·intro b hb
   obtain ⟨h1, h2, h3⟩ := HX.out
   rcases recRows_foot hb with h | h | h
   ·have := h1 b h; omega
   ·have := h2 b h; omega
   ·have := h3 b h; omega
  ·obtain ⟨h1, h2, h3⟩ := HX.out
   obtain ⟨g1, g2, g3⟩ := HD.out
   exact recRows_own (HO1.out.kept (((((((((((((((Kept.refl (fun b => b = w.heap.size + 1) _).setCell (p := ⟨w.heap.size + 1, 0, none⟩) (.inr rfl) _).setCell (p := ⟨w.heap.size + 1, 1, none⟩) (.inr rfl) _).setCell (p := ⟨w.heap.size + 1, 2, none⟩) (.inr rfl) _).setCell (p := ⟨w.heap.size + 1, 3, none⟩) (.inr rfl) _).setCell (p := ⟨w.heap.size + 1, 4, none⟩) (.inr rfl) _).setCell (p := ⟨w.heap.size + 1, 5, none⟩) (.inr rfl) _).setCell (p := ⟨w.heap.size + 1, 6, none⟩) (.inr rfl) _).setCell (p := ⟨w.heap.size + 1, 7, none⟩) (.inr rfl) _).setCell (p := ⟨w.heap.size + 1, 8, none⟩) (.inr rfl) _).setCell (p := ⟨w.heap.size + 1, 9, none⟩) (.inr rfl) _).setCell (p := ⟨w.heap.size + 1, 10, none⟩) (.inr rfl) _).setCell (p := ⟨w.heap.size + 1, 11, none⟩) (.inr rfl) _).setCell (p := ⟨w.heap.size + 1, 12, none⟩) (.inr rfl) _).setCell (p := ⟨w.heap.size + 1, 13, none⟩) (.inr rfl) _) (fun b hb e => by have := h1 b hb; omega)) (HO2.out.kept (((((((((((((((Kept.refl (fun b => b = w.heap.size + 1) _).setCell (p := ⟨w.heap.size + 1, 0, none⟩) (.inr rfl) _).setCell (p := ⟨w.heap.size + 1, 1, none⟩) (.inr rfl) _).setCell (p := ⟨w.heap.size + 1, 2, none⟩) (.inr rfl) _).setCell (p := ⟨w.heap.size + 1, 3, none⟩) (.inr rfl) _).setCell (p := ⟨w.heap.size + 1, 4, none⟩) (.inr rfl) _).setCell (p := ⟨w.heap.size + 1, 5, none⟩) (.inr rfl) _).setCell (p := ⟨w.heap.size + 1, 6, none⟩) (.inr rfl) _).setCell (p := ⟨w.heap.size + 1, 7, none⟩) (.inr rfl) _).setCell (p := ⟨w.heap.size + 1, 8, none⟩) (.inr rfl) _).setCell (p := ⟨w.heap.size + 1, 9, none⟩) (.inr rfl) _).setCell (p := ⟨w.heap.size + 1, 10, none⟩) (.inr rfl) _).setCell (p := ⟨w.heap.size + 1, 11, none⟩) (.inr rfl) _).setCell (p := ⟨w.heap.size + 1, 12, none⟩) (.inr rfl) _).setCell (p := ⟨w.heap.size + 1, 13, none⟩) (.inr rfl) _) (fun b hb e => by have := h2 b hb; omega)) (HO5.out.kept (((((((((((((((Kept.refl (fun b => b = w.heap.size + 1) _).setCell (p := ⟨w.heap.size + 1, 0, none⟩) (.inr rfl) _).setCell (p := ⟨w.heap.size + 1, 1, none⟩) (.inr rfl) _).setCell (p := ⟨w.heap.size + 1, 2, none⟩) (.inr rfl) _).setCell (p := ⟨w.heap.size + 1, 3, none⟩) (.inr rfl) _).setCell (p := ⟨w.heap.size + 1, 4, none⟩) (.inr rfl) _).setCell (p := ⟨w.heap.size + 1, 5, none⟩) (.inr rfl) _).setCell (p := ⟨w.heap.size + 1, 6, none⟩) (.inr rfl) _).setCell (p := ⟨w.heap.size + 1, 7, none⟩) (.inr rfl) _).setCell (p := ⟨w.heap.size + 1, 8, none⟩) (.inr rfl) _).setCell (p := ⟨w.heap.size + 1, 9, none⟩) (.inr rfl) _).setCell (p := ⟨w.heap.size + 1, 10, none⟩) (.inr rfl) _).setCell (p := ⟨w.heap.size + 1, 11, none⟩) (.inr rfl) _).setCell (p := ⟨w.heap.size + 1, 12, none⟩) (.inr rfl) _).setCell (p := ⟨w.heap.size + 1, 13, none⟩) (.inr rfl) _) (fun b hb e => by have := h3 b hb; omega)) g1 g2 g3
  ·exact ((((((((((((((HK3.out).setCell (p := ⟨w.heap.size + 1, 0, none⟩) (.inl (Nat.le_add_right _ _)) _).setCell (p := ⟨w.heap.size + 1, 1, none⟩) (.inl (Nat.le_add_right _ _)) _).setCell (p := ⟨w.heap.size + 1, 2, none⟩) (.inl (Nat.le_add_right _ _)) _).setCell (p := ⟨w.heap.size + 1, 3, none⟩) (.inl (Nat.le_add_right _ _)) _).setCell (p := ⟨w.heap.size + 1, 4, none⟩) (.inl (Nat.le_add_right _ _)) _).setCell (p := ⟨w.heap.size + 1, 5, none⟩) (.inl (Nat.le_add_right _ _)) _).setCell (p := ⟨w.heap.size + 1, 6, none⟩) (.inl (Nat.le_add_right _ _)) _).setCell (p := ⟨w.heap.size + 1, 7, none⟩) (.inl (Nat.le_add_right _ _)) _).setCell (p := ⟨w.heap.size + 1, 8, none⟩) (.inl (Nat.le_add_right _ _)) _).setCell (p := ⟨w.heap.size + 1, 9, none⟩) (.inl (Nat.le_add_right _ _)) _).setCell (p := ⟨w.heap.size + 1, 10, none⟩) (.inl (Nat.le_add_right _ _)) _).setCell (p := ⟨w.heap.size + 1, 11, none⟩) (.inl (Nat.le_add_right _ _)) _).setCell (p := ⟨w.heap.size + 1, 12, none⟩) (.inl (Nat.le_add_right _ _)) _).setCell (p := ⟨w.heap.size + 1, 13, none⟩) (.inl (Nat.le_add_right _ _)) _
 ·rw [undoFd_no hy]
  have hor : recFd x.dat ≠ 0 ∨ (recFd x.dat = 0 ∧ x.kind ≠ 1) := by by_cases h : recFd x.dat = 0; exact .inr ⟨h, fun e => hy ⟨e, h⟩⟩; exact .inl h
  clear hy hbl hrb
  generalize recFd x.dat = r at *
  obtain ⟨kind, txn, prev, page, slot, ⟨bU, ⟨bDe, bDa, bDc, bDb⟩⟩, ⟨aU, ⟨aDe, aDa, aDc, aDb⟩⟩, uN, nT, ⟨tXe, tXa, tXn, tXc, tXb⟩, ⟨dYe, dYa, dYn, dYc, dYb⟩, ⟨iMe, iMa, iMc, iMb⟩⟩ := x
  dsimp only [StLogRecord.val, StPageRecord.val, BS.v, FR.v] at HF hor ⊢
  obtain ⟨HK0, HA0, HB0⟩ := new2 w [.int .i64 kind, .int .i64 txn, .int .i64 prev, .int .i64 page, .int .i64 slot, .bool bU, .slice bDa bDb.length bDc, .bool aU, .slice aDa aDb.length aDc, .int .i64 uN, .int .i64 nT, .slice tXa tXn tXc, .slice dYa dYn dYc, .slice iMa iMb.length iMc] 35 [.int .i64 0, .int .i64 0, .int .i64 0, .int .i64 0, .int .i64 0, .bool false, .slice none 0 0, .bool false, .slice none 0 0, .int .i64 0, .int .i64 0, .slice none 0 0, .slice none 0 0, .slice none 0 0] 35
  have A0 := HA0.out
  have B0 := HB0.out
  clear HA0 HB0
  rcases (show kind ≠ 1 ∨ (kind = 1 ∧ r ≠ 0) by by_cases hk : kind = 1; exact .inr ⟨hk, hor.resolve_right (fun h => h.2 hk)⟩; exact .inl hk) with hkk | ⟨rfl, hr⟩
  ·clear hor
   go_enter Try.func21, Try.ntmps21
   have HK1 := HK0
   obtain ⟨db0, db1, db2, db3, db4, db5, db6, db7, db8, db9, db10, db11, db12, db13⟩ := B0.all14
   have fb0 := B0.frozen 0
   have fb1 := B0.frozen 1
   have fb2 := B0.frozen 2
   have fb3 := B0.frozen 3
   have fb4 := B0.frozen 4
   have fb5 := B0.frozen 5
   have fb6 := B0.frozen 6
   have fb7 := B0.frozen 7
   have fb8 := B0.frozen 8
   have fb9 := B0.frozen 9
   have fb10 := B0.frozen 10
   have fb11 := B0.frozen 11
   have fb12 := B0.frozen 12
   have fb13 := B0.frozen 13
   go_wp2
   refine bodyPost_ret (v := .agg #[.int .i64 0, .int .i64 0, .int .i64 0, .int .i64 0, .int .i64 0, .bool false, .slice none 0 0, .bool false, .slice none 0 0, .int .i64 0, .int .i64 0, .slice none 0 0, .slice none 0 0, .slice none 0 0]) (by simp [results, Try.results21, go_sem]) rfl ⟨⟨0, 0, 0, 0, 0, ⟨false, ⟨0, none, 0, []⟩⟩, ⟨false, ⟨0, none, 0, []⟩⟩, 0, 0, ⟨0, none, 0, 0, []⟩, ⟨0, none, 0, 0, []⟩, ⟨0, none, 0, []⟩⟩, rfl, rfl, fun b hb => absurd hb (zeroLR_foot b), zeroLR_own _, ?_⟩
   first | exact HK0.out | exact ((((((((((((((HK0.out).setCell (p := ⟨w.heap.size + 1, 0, none⟩) (.inl (Nat.le_add_right _ _)) _).setCell (p := ⟨w.heap.size + 1, 1, none⟩) (.inl (Nat.le_add_right _ _)) _).setCell (p := ⟨w.heap.size + 1, 2, none⟩) (.inl (Nat.le_add_right _ _)) _).setCell (p := ⟨w.heap.size + 1, 3, none⟩) (.inl (Nat.le_add_right _ _)) _).setCell (p := ⟨w.heap.size + 1, 4, none⟩) (.inl (Nat.le_add_right _ _)) _).setCell (p := ⟨w.heap.size + 1, 5, none⟩) (.inl (Nat.le_add_right _ _)) _).setCell (p := ⟨w.heap.size + 1, 6, none⟩) (.inl (Nat.le_add_right _ _)) _).setCell (p := ⟨w.heap.size + 1, 7, none⟩) (.inl (Nat.le_add_right _ _)) _).setCell (p := ⟨w.heap.size + 1, 8, none⟩) (.inl (Nat.le_add_right _ _)) _).setCell (p := ⟨w.heap.size + 1, 9, none⟩) (.inl (Nat.le_add_right _ _)) _).setCell (p := ⟨w.heap.size + 1, 10, none⟩) (.inl (Nat.le_add_right _ _)) _).setCell (p := ⟨w.heap.size + 1, 11, none⟩) (.inl (Nat.le_add_right _ _)) _).setCell (p := ⟨w.heap.size + 1, 12, none⟩) (.inl (Nat.le_add_right _ _)) _).setCell (p := ⟨w.heap.size + 1, 13, none⟩) (.inl (Nat.le_add_right _ _)) _
  ·clear hor
   go_enter Try.func21, Try.ntmps21
   go_wp2_with fail
   refine (HF.out _ HK0.out).mono ?_
   rintro e w1 ⟨rfl, hk1⟩
   have HK1 := hid (HK0.out.trans hk1)
   have A1 := A0.same hk1
   have B1 := B0.same hk1
   clear hk1 HF
   obtain ⟨db0, db1, db2, db3, db4, db5, db6, db7, db8, db9, db10, db11, db12, db13⟩ := B1.all14
   have fb0 := B1.frozen 0
   have fb1 := B1.frozen 1
   have fb2 := B1.frozen 2
   have fb3 := B1.frozen 3
   have fb4 := B1.frozen 4
   have fb5 := B1.frozen 5
   have fb6 := B1.frozen 6
   have fb7 := B1.frozen 7
   have fb8 := B1.frozen 8
   have fb9 := B1.frozen 9
   have fb10 := B1.frozen 10
   have fb11 := B1.frozen 11
   have fb12 := B1.frozen 12
   have fb13 := B1.frozen 13
   go_wp2
   refine bodyPost_ret (v := .agg #[.int .i64 0, .int .i64 0, .int .i64 0, .int .i64 0, .int .i64 0, .bool false, .slice none 0 0, .bool false, .slice none 0 0, .int .i64 0, .int .i64 0, .slice none 0 0, .slice none 0 0, .slice none 0 0]) (by simp [results, Try.results21, go_sem, db0, db1, db2, db3, db4, db5, db6, db7, db8, db9, db10, db11, db12, db13]) rfl ⟨⟨0, 0, 0, 0, 0, ⟨false, ⟨0, none, 0, []⟩⟩, ⟨false, ⟨0, none, 0, []⟩⟩, 0, 0, ⟨0, none, 0, 0, []⟩, ⟨0, none, 0, 0, []⟩, ⟨0, none, 0, []⟩⟩, rfl, rfl, fun b hb => absurd hb (zeroLR_foot b), zeroLR_own _, ?_⟩
   exact ((((((((((((((HK1.out).setCell (p := ⟨w.heap.size + 1, 0, none⟩) (.inl (Nat.le_add_right _ _)) _).setCell (p := ⟨w.heap.size + 1, 1, none⟩) (.inl (Nat.le_add_right _ _)) _).setCell (p := ⟨w.heap.size + 1, 2, none⟩) (.inl (Nat.le_add_right _ _)) _).setCell (p := ⟨w.heap.size + 1, 3, none⟩) (.inl (Nat.le_add_right _ _)) _).setCell (p := ⟨w.heap.size + 1, 4, none⟩) (.inl (Nat.le_add_right _ _)) _).setCell (p := ⟨w.heap.size + 1, 5, none⟩) (.inl (Nat.le_add_right _ _)) _).setCell (p := ⟨w.heap.size + 1, 6, none⟩) (.inl (Nat.le_add_right _ _)) _).setCell (p := ⟨w.heap.size + 1, 7, none⟩) (.inl (Nat.le_add_right _ _)) _).setCell (p := ⟨w.heap.size + 1, 8, none⟩) (.inl (Nat.le_add_right _ _)) _).setCell (p := ⟨w.heap.size + 1, 9, none⟩) (.inl (Nat.le_add_right _ _)) _).setCell (p := ⟨w.heap.size + 1, 10, none⟩) (.inl (Nat.le_add_right _ _)) _).setCell (p := ⟨w.heap.size + 1, 11, none⟩) (.inl (Nat.le_add_right _ _)) _).setCell (p := ⟨w.heap.size + 1, 12, none⟩) (.inl (Nat.le_add_right _ _)) _).setCell (p := ⟨w.heap.size + 1, 13, none⟩) (.inl (Nat.le_add_right _ _)) _
theorem undoFd_small {y x : StLogRecord} (h : y.dat = undoFd x.dat) (hx : x.szs ≤ 1048576) : y.size ≤ 1099511627776 := by
 simp only [StLogRecord.szs, StPageRecord.szs] at hx
 by_cases hy : x.dat.1 = 1 ∧ recFd x.dat = 0
 ·rw [undoFd_yes hy] at h
  simp only [StLogRecord.dat, StPageRecord.dat, Prod.mk.injEq] at h
  obtain ⟨_, _, _, _, _, ⟨_, h1⟩, ⟨_, h2⟩, _, _, h3, h4, h5⟩ := h
  simp only [StLogRecord.size, StPageRecord.size, h1, h2, h3, h4, h5, List.length_nil]
  omega
 ·rw [undoFd_no hy] at h
  simp only [StLogRecord.dat, StPageRecord.dat, Prod.mk.injEq] at h
  obtain ⟨_, _, _, _, _, ⟨_, h1⟩, ⟨_, h2⟩, _, _, h3, h4, h5⟩ := h
  simp only [StLogRecord.size, StPageRecord.size, h1, h2, h3, h4, h5, List.length_nil]
  omega
end Go.Proofs.Ytdgmecmkkddpeaa
