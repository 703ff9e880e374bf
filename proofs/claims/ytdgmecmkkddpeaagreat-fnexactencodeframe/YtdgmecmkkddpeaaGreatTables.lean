import Derived.Test.YtdgmecmkkddpeaaGreatG10
import Derived.Test.YtdgmecmkkddpeaaGreatG06
namespace Go.Proofs.YtdgmecmkkddpeaaGreat
set_option maxRecDepth 100000
set_option maxHeartbeats 16000000
set_option linter.unusedVariables false
set_option linter.unusedSimpArgs false
open Go.RowKit
theorem wrap_nat (j : Nat) (h : (j : Int) ≤ 1000) : IntKind.i64.wrap (j : Int) = (j : Int) := by
 simp [IntKind.wrap, IntKind.bits, IntKind.signed]
 omega
theorem isPageB_in (x : Int) : isPageB x = inB x 0 15 := by
 unfold isPageB inB
 rw [show decide (x < 16) = decide (x ≤ 15) from decide_eq_decide.2 (by omega)]
theorem l4Tables_any (kind txn0 prev page slot : Int) (beforeu : Bool) (beforea : Option Addr) (beforen beforec : Nat) (afteru : Bool) (aftera : Option Addr) (aftern afterc : Nat) (uN nT : Int) (imagea : Option Addr) (imagen imagec : Nat) (tx dy : FR) (w : World) (hv : RdF 4 w tx) (hv2 : RdF 2 w dy) :
  Calls Tryz.prog 39 #[.agg #[.int .i64 kind, .int .i64 txn0, .int .i64 prev, .int .i64 page, .int .i64 slot, .bool beforeu, .slice beforea beforen beforec, .bool afteru, .slice aftera aftern afterc, .int .i64 uN, .int .i64 nT, tx.v, dy.v, .slice imagea imagen imagec]] w fun e w' => e = .returned (.bool (inB nT 1 2147483648 && allTxns tx.bs tx.n && allDirty dy.bs dy.n)) ∧ Same w w' := by
 obtain ⟨hmax, hlen, hform⟩ := hv
 obtain ⟨hmax2, hlen2, hform2⟩ := hv2
 obtain ⟨txe, txa, txn, txc, txb⟩ := tx
 obtain ⟨dye, dya, dyn, dyc, dyb⟩ := dy
 dsimp only [FR.v] at *
 unfold maxLen at hmax hmax2
 have h1 := fun wx => l4In_any nT 1 2147483648 wx
 obtain ⟨HK0, HB0⟩ := new1 w [.int .i64 kind, .int .i64 txn0, .int .i64 prev, .int .i64 page, .int .i64 slot, .bool beforeu, .slice beforea beforen beforec, .bool afteru, .slice aftera aftern afterc, .int .i64 uN, .int .i64 nT, .slice txa txn txc, .slice dya dyn dyc, .slice imagea imagen imagec] 35
 have HtxF := (show Hid (txn ≠ 0 → ∃ b off, txa = some ⟨b, off, none⟩ ∧ txn ≤ txc ∧ ∀ i, i < txn * 4 → w.cell? ⟨b, off + i, none⟩ = some (.int .i64 (txb.getD i 0))) from fun h => hform.resolve_left h)
 have HdyF := (show Hid (dyn ≠ 0 → ∃ b off, dya = some ⟨b, off, none⟩ ∧ dyn ≤ dyc ∧ ∀ i, i < dyn * 2 → w.cell? ⟨b, off + i, none⟩ = some (.int .i64 (dyb.getD i 0))) from fun h => hform2.resolve_left h)
 clear hform hform2 hlen hlen2
 cases hnt : inB nT 1 2147483648 with
 | false =>
  rw [hnt] at h1
  simp only [Bool.false_and]
  clear HtxF HdyF
  go_enter Tryz.func39, Tryz.ntmps39
  go_wp2_with (go_at_call 18; refine (h1 _).mono ?_; rintro e w1 ⟨rfl, hk1⟩)
  go_ret
  exact ⟨rfl, HK0.out.trans hk1⟩
 | true =>
 rw [hnt] at h1
 simp only [Bool.true_and]
 have hcc : ∀ w1, Same (w.alloc (.cells #[.int .i64 kind, .int .i64 txn0, .int .i64 prev, .int .i64 page, .int .i64 slot, .bool beforeu, .slice beforea beforen beforec, .bool afteru, .slice aftera aftern afterc, .int .i64 uN, .int .i64 nT, .slice txa txn txc, .slice dya dyn dyc, .slice imagea imagen imagec] 35)) w1 → w1.cell? ⟨w.heap.size, 0, none⟩ = some (.int .i64 kind) ∧ w1.cell? ⟨w.heap.size, 1, none⟩ = some (.int .i64 txn0) ∧ w1.cell? ⟨w.heap.size, 2, none⟩ = some (.int .i64 prev) ∧ w1.cell? ⟨w.heap.size, 3, none⟩ = some (.int .i64 page) ∧ w1.cell? ⟨w.heap.size, 4, none⟩ = some (.int .i64 slot) ∧ w1.cell? ⟨w.heap.size, 5, none⟩ = some (.bool beforeu) ∧ w1.cell? ⟨w.heap.size, 6, none⟩ = some (.slice beforea beforen beforec) ∧ w1.cell? ⟨w.heap.size, 7, none⟩ = some (.bool afteru) ∧ w1.cell? ⟨w.heap.size, 8, none⟩ = some (.slice aftera aftern afterc) ∧ w1.cell? ⟨w.heap.size, 9, none⟩ = some (.int .i64 uN) ∧ w1.cell? ⟨w.heap.size, 10, none⟩ = some (.int .i64 nT) ∧ w1.cell? ⟨w.heap.size, 11, none⟩ = some (.slice txa txn txc) ∧ w1.cell? ⟨w.heap.size, 12, none⟩ = some (.slice dya dyn dyc) ∧ w1.cell? ⟨w.heap.size, 13, none⟩ = some (.slice imagea imagen imagec) := fun w1 h => ⟨(HB0.out.same h).cell 0, (HB0.out.same h).cell 1, (HB0.out.same h).cell 2, (HB0.out.same h).cell 3, (HB0.out.same h).cell 4, (HB0.out.same h).cell 5, (HB0.out.same h).cell 6, (HB0.out.same h).cell 7, (HB0.out.same h).cell 8, (HB0.out.same h).cell 9, (HB0.out.same h).cell 10, (HB0.out.same h).cell 11, (HB0.out.same h).cell 12, (HB0.out.same h).cell 13⟩
 by_cases h8 : (8 : Int) < txn
 ·have hR : (allTxns txb txn && allDirty dyb dyn) = false := by unfold allTxns; rw [decide_eq_false (show ¬ txn ≤ 8 from by omega)]; simp only [Bool.false_and]
  rw [hR]
  clear HtxF HdyF hR
  go_enter Tryz.func39, Tryz.ntmps39
  go_wp2_with (go_at_call 18; refine (h1 _).mono ?_; rintro e w1 ⟨rfl, hk1⟩; obtain ⟨c0, c1, c2, c3, c4, c5, c6, c7, c8, c9, c10, c11, c12, c13⟩ := hcc w1 hk1)
  go_ret
  exact ⟨rfl, HK0.out.trans hk1⟩
 by_cases h16 : (16 : Int) < dyn
 ·have hR : (allTxns txb txn && allDirty dyb dyn) = false := by unfold allDirty; rw [decide_eq_false (show ¬ dyn ≤ 16 from by omega)]; simp only [Bool.false_and, Bool.and_false]
  rw [hR]
  clear HtxF HdyF hR
  go_enter Tryz.func39, Tryz.ntmps39
  go_wp2_with (go_at_call 18; refine (h1 _).mono ?_; rintro e w1 ⟨rfl, hk1⟩; obtain ⟨c0, c1, c2, c3, c4, c5, c6, c7, c8, c9, c10, c11, c12, c13⟩ := hcc w1 hk1)
  go_ret
  exact ⟨rfl, HK0.out.trans hk1⟩
 have HNO := (show Hid (∀ k, k < txn → atTxns txb k = false → (allTxns txb txn && allDirty dyb dyn) = false) from fun k hk h => by rw [allTxns_no txb txn k hk h]; simp only [Bool.and_false, Bool.false_and])
 have HNO2 := (show Hid (∀ k, k < dyn → atDirty dyb k = false → (allTxns txb txn && allDirty dyb dyn) = false) from fun k hk h => by rw [allDirty_no dyb dyn k hk h]; simp only [Bool.and_false, Bool.false_and])
 have HYES := (show Hid ((∀ k, k < txn → atTxns txb k = true) → (∀ k, k < dyn → atDirty dyb k = true) → (allTxns txb txn && allDirty dyb dyn) = true) from fun h h' => by rw [allTxns_yes txb txn (by omega) h, allDirty_yes dyb dyn (by omega) h']; rfl)
 generalize (allTxns txb txn && allDirty dyb dyn) = ANS at *
 go_enter Tryz.func39, Tryz.ntmps39
 go_wp2_with fail
 refine (h1 _).mono ?_
 rintro e w1 ⟨rfl, hk1⟩
 have HK1 := hid (HK0.out.trans hk1)
 have HB1 := hid (HB0.out.same hk1)
 clear hk1
 obtain ⟨c0, c1, c2, c3, c4, c5, c6, c7, c8, c9, c10, c11, c12, c13⟩ := HB1.out.all14
 go_wp2
 go_loopw [3, 4] (fun i _ wr => ∃ (k : Nat), k ≤ txn ∧ i = .int .i64 k ∧ Hid (∀ j, j < k → atTxns txb j = true) ∧ Hid (Same w wr) ∧ Hid (Blk wr w.heap.size 35 [.int .i64 kind, .int .i64 txn0, .int .i64 prev, .int .i64 page, .int .i64 slot, .bool beforeu, .slice beforea beforen beforec, .bool afteru, .slice aftera aftern afterc, .int .i64 uN, .int .i64 nT, .slice txa txn txc, .slice dya dyn dyc, .slice imagea imagen imagec])) (fun i _ _ => txn - (intOf i).toNat)
 case atStart => exact ⟨0, Nat.zero_le _, rfl, fun j hj => absurd hj (by omega), HK1, HB1⟩
 case round =>
  obtain ⟨k, hk, rfl, HAL, HK, HB⟩ := hrel
  obtain ⟨d0, d1, d2, d3, d4, d5, d6, d7, d8, d9, d10, d11, d12, d13⟩ := HB.out.all14
  by_cases hlt : k < txn
  ·obtain ⟨txB, txo, htxa, htxle, htxc⟩ := HtxF.out (by omega)
   subst htxa
   have q0 : wr.cell? ⟨txB, txo + k * 4, none⟩ = some (.int .i64 (txb.getD (k * 4) 0)) := by have h := HK.out.cellOf (htxc (k * 4) (by omega)) id; simpa only [Nat.add_assoc] using h
   have q1 : wr.cell? ⟨txB, txo + k * 4 + 1, none⟩ = some (.int .i64 (txb.getD (k * 4 + 1) 0)) := by have h := HK.out.cellOf (htxc (k * 4 + 1) (by omega)) id; simpa only [Nat.add_assoc] using h
   have q2 : wr.cell? ⟨txB, txo + k * 4 + 2, none⟩ = some (.int .i64 (txb.getD (k * 4 + 2) 0)) := by have h := HK.out.cellOf (htxc (k * 4 + 2) (by omega)) id; simpa only [Nat.add_assoc] using h
   have q3 : wr.cell? ⟨txB, txo + k * 4 + 3, none⟩ = some (.int .i64 (txb.getD (k * 4 + 3) 0)) := by have h := HK.out.cellOf (htxc (k * 4 + 3) (by omega)) id; simpa only [Nat.add_assoc] using h
   have HAT := (show Hid (atTxns txb k = oneTxns (aheadTxns txb k) (txb.getD (k * 4) 0) (txb.getD (k * 4 + 1) 0) (txb.getD (k * 4 + 2) 0) (txb.getD (k * 4 + 3) 0)) from rfl)
   have HPC := (show Hid (∀ j, k = j + 1 → wr.cell? ⟨txB, txo + j * 4, none⟩ = some (.int .i64 (aheadTxns txb k))) from fun j hj => by subst hj; exact HK.out.cellOf (htxc (j * 4) (by omega)) id)
   clear htxc
   generalize txb.getD (k * 4) 0 = t0 at *
   generalize txb.getD (k * 4 + 1) 0 = t1 at *
   generalize txb.getD (k * 4 + 2) 0 = t2 at *
   generalize txb.getD (k * 4 + 3) 0 = t3 at *
   have hb1 := HB.out.alloc (.cells #[.int .i64 t0, .int .i64 t1, .int .i64 t2, .int .i64 t3] 67)
   have hb2 := Blk.new wr #[.int .i64 t0, .int .i64 t1, .int .i64 t2, .int .i64 t3] 67
   have hI0 := fun wx => l4In_any t0 1 2147483647 wx
   have hI1 := fun wx => l4In_any t1 1 3 wx
   have hI2 := fun wx => l4In_any t2 1 1099511627776 wx
   have hI3 := fun wx => l4In_any t3 0 t2 wx
   by_cases hk0 : k = 0
   ·have hkz : ¬ (0 : Int) < (k : Int) := by omega
    have hA : aheadTxns txb k = 0 := by rw [hk0]; rfl
    rw [hA] at HAT
    clear HPC hk0
    cases hq0 : inB t0 1 2147483647 with
    | false =>
     have HF := (show Hid (atTxns txb k = false) from by rw [HAT.out]; unfold oneTxns; rw [show isTxnB t0 = inB t0 1 2147483647 from rfl, hq0]; simp only [Bool.false_and, Bool.and_false]; exact trivial)
     rw [hq0] at hI0
     go_wp2_with fail
     let Y7 : World → Prop := fun wx : World => wx.cell? ⟨w.heap.size, 11, none⟩ = some (.slice (some ⟨txB, txo, none⟩) txn txc) ∧ wx.cell? ⟨wr.heap.size, 0, none⟩ = some (.int .i64 t0) ∧ wx.cell? ⟨wr.heap.size, 1, none⟩ = some (.int .i64 t1) ∧ wx.cell? ⟨wr.heap.size, 2, none⟩ = some (.int .i64 t2) ∧ wx.cell? ⟨wr.heap.size, 3, none⟩ = some (.int .i64 t3)
     have hSx : ∀ wx, Same (wr.alloc (.cells #[.int .i64 t0, .int .i64 t1, .int .i64 t2, .int .i64 t3] 67)) wx → Y7 wx := fun wx h => ⟨(hb1.same h).cell 11, (hb2.same h).cell 0, (hb2.same h).cell 1, (hb2.same h).cell 2, (hb2.same h).cell 3⟩
     have hS : Y7 (wr.alloc (.cells #[.int .i64 t0, .int .i64 t1, .int .i64 t2, .int .i64 t3] 67)).drew := by exact hSx _ (Kept.refl _ _).drew
     refine wp_region_V Y7 99 40 rfl (by kernel_rfl) ?_
     refine tk 0 35 hS ?_
     refine tkV 1 36 (.bool false) hS ?_
     refine tkV 2 37 (.bool false) hS ?_
     refine tkS 3 38 hS ?_
     refine tkS 4 39 hS ?_
     refine tkS 5 40 hS ?_
     refine tkS 6 41 hS ?_
     refine tkS 7 42 hS ?_
     refine tkS 8 43 hS ?_
     refine tkS 9 44 hS ?_
     refine tkS 10 45 hS ?_
     refine tkS 11 46 hS ?_
     refine tkS 12 47 hS ?_
     refine tkV 13 48 (.bool false) hS ?_
     refine tkV 14 49 (.bool false) hS ?_
     refine tk 15 50 hS ?_
     refine tk 16 51 hS ?_
     refine wpAnyV_one (i := 17) (by kernel_rfl) rfl (fun K hK => ?_)
     go_simp
     have hc := hI0 ((wr.alloc (.cells #[.int .i64 t0, .int .i64 t1, .int .i64 t2, .int .i64 t3] 67)).drew)
     with_reducible refine hc.mono ?_
     clear hc
     rintro e wq0 ⟨rfl, hkk⟩
     have hkwq0 : Same (wr.alloc (.cells #[.int .i64 t0, .int .i64 t1, .int .i64 t2, .int .i64 t3] 67)) wq0 := Kept.trans ((Kept.refl _ _).drew) hkk
     clear hkk
     have hS : Y7 wq0 := hSx _ hkwq0
     refine hK.out _ _ (fun _ => hS) ?_
     clear hK K
     try simp only [Act.put, sA, s0, sS]
     refine tkV 18 53 (.bool true) hS ?_
     refine tkV 19 54 (.bool true) hS ?_
     refine tkV 20 55 (.bool true) hS ?_
     refine tkS 21 56 hS ?_
     refine tkS 22 57 hS ?_
     refine tkS 23 58 hS ?_
     refine tkS 24 59 hS ?_
     refine tkV 25 60 (.bool true) hS ?_
     refine tkV 26 61 (.bool true) hS ?_
     refine tkS 27 62 hS ?_
     refine tkS 28 63 hS ?_
     refine tkS 29 64 hS ?_
     refine tkS 30 65 hS ?_
     refine tkV 31 66 (.bool true) hS ?_
     refine tkV 32 67 (.bool true) hS ?_
     refine tkS 33 68 hS ?_
     refine tkS 34 69 hS ?_
     refine tkS 35 70 hS ?_
     refine tkS 36 71 hS ?_
     refine tkS 37 72 hS ?_
     refine tkS 38 73 hS ?_
     refine tkV 39 74 (.bool true) hS ?_
     refine wpAnyV_done (by kernel_rfl) ?_
     go_wp2
     go_ret
     exact ⟨by rw [HNO.out k hlt HF.out]; rfl, (HK.out.alloc _).trans hkwq0⟩
    | true =>
     cases hq1 : inB t1 1 3 with
     | false =>
      have HF := (show Hid (atTxns txb k = false) from by rw [HAT.out]; unfold oneTxns; rw [show (decide (1 ≤ t1) && decide (t1 ≤ 3)) = inB t1 1 3 from rfl, hq1]; simp only [Bool.false_and, Bool.and_false]; exact trivial)
      rw [hq0] at hI0
      rw [hq1] at hI1
      go_wp2_with fail
      let Y8 : World → Prop := fun wx : World => wx.cell? ⟨w.heap.size, 11, none⟩ = some (.slice (some ⟨txB, txo, none⟩) txn txc) ∧ wx.cell? ⟨wr.heap.size, 0, none⟩ = some (.int .i64 t0) ∧ wx.cell? ⟨wr.heap.size, 1, none⟩ = some (.int .i64 t1) ∧ wx.cell? ⟨wr.heap.size, 2, none⟩ = some (.int .i64 t2) ∧ wx.cell? ⟨wr.heap.size, 3, none⟩ = some (.int .i64 t3)
      have hSx : ∀ wx, Same (wr.alloc (.cells #[.int .i64 t0, .int .i64 t1, .int .i64 t2, .int .i64 t3] 67)) wx → Y8 wx := fun wx h => ⟨(hb1.same h).cell 11, (hb2.same h).cell 0, (hb2.same h).cell 1, (hb2.same h).cell 2, (hb2.same h).cell 3⟩
      have hS : Y8 (wr.alloc (.cells #[.int .i64 t0, .int .i64 t1, .int .i64 t2, .int .i64 t3] 67)).drew := by exact hSx _ (Kept.refl _ _).drew
      refine wp_region_V Y8 99 40 rfl (by kernel_rfl) ?_
      refine tk 0 35 hS ?_
      refine tkV 1 36 (.bool false) hS ?_
      refine tkV 2 37 (.bool false) hS ?_
      refine tkS 3 38 hS ?_
      refine tkS 4 39 hS ?_
      refine tkS 5 40 hS ?_
      refine tkS 6 41 hS ?_
      refine tkS 7 42 hS ?_
      refine tkS 8 43 hS ?_
      refine tkS 9 44 hS ?_
      refine tkS 10 45 hS ?_
      refine tkS 11 46 hS ?_
      refine tkS 12 47 hS ?_
      refine tkV 13 48 (.bool false) hS ?_
      refine tkV 14 49 (.bool false) hS ?_
      refine tk 15 50 hS ?_
      refine tk 16 51 hS ?_
      refine wpAnyV_one (i := 17) (by kernel_rfl) rfl (fun K hK => ?_)
      go_simp
      have hc := hI0 ((wr.alloc (.cells #[.int .i64 t0, .int .i64 t1, .int .i64 t2, .int .i64 t3] 67)).drew)
      with_reducible refine hc.mono ?_
      clear hc
      rintro e wq0 ⟨rfl, hkk⟩
      have hkwq0 : Same (wr.alloc (.cells #[.int .i64 t0, .int .i64 t1, .int .i64 t2, .int .i64 t3] 67)) wq0 := Kept.trans ((Kept.refl _ _).drew) hkk
      clear hkk
      have hS : Y8 wq0 := hSx _ hkwq0
      refine hK.out _ _ (fun _ => hS) ?_
      clear hK K
      try simp only [Act.put, sA, s0, sS]
      refine tkV 18 53 (.bool false) hS ?_
      refine tkV 19 54 (.bool false) hS ?_
      refine tkV 20 55 (.bool false) hS ?_
      refine tk 21 56 hS ?_
      refine tk 22 57 hS ?_
      refine wpAnyV_one (i := 23) (by kernel_rfl) rfl (fun K hK => ?_)
      go_simp
      have hc := hI1 (wq0)
      with_reducible refine hc.mono ?_
      clear hc
      rintro e wq1 ⟨rfl, hkk⟩
      have hkwq1 : Same (wr.alloc (.cells #[.int .i64 t0, .int .i64 t1, .int .i64 t2, .int .i64 t3] 67)) wq1 := Kept.trans (hkwq0) hkk
      clear hkk
      have hS : Y8 wq1 := hSx _ hkwq1
      refine hK.out _ _ (fun _ => hS) ?_
      clear hK K
      try simp only [Act.put, sA, s0, sS]
      refine tkV 24 59 (.bool true) hS ?_
      refine tkV 25 60 (.bool true) hS ?_
      refine tkV 26 61 (.bool true) hS ?_
      refine tkS 27 62 hS ?_
      refine tkS 28 63 hS ?_
      refine tkS 29 64 hS ?_
      refine tkS 30 65 hS ?_
      refine tkV 31 66 (.bool true) hS ?_
      refine tkV 32 67 (.bool true) hS ?_
      refine tkS 33 68 hS ?_
      refine tkS 34 69 hS ?_
      refine tkS 35 70 hS ?_
      refine tkS 36 71 hS ?_
      refine tkS 37 72 hS ?_
      refine tkS 38 73 hS ?_
      refine tkV 39 74 (.bool true) hS ?_
      refine wpAnyV_done (by kernel_rfl) ?_
      go_wp2
      go_ret
      exact ⟨by rw [HNO.out k hlt HF.out]; rfl, (HK.out.alloc _).trans hkwq1⟩
     | true =>
      cases hq2 : inB t2 1 1099511627776 with
      | false =>
       have HF := (show Hid (atTxns txb k = false) from by rw [HAT.out]; unfold oneTxns; rw [show (decide (1 ≤ t2) && decide (t2 ≤ 1099511627776)) = inB t2 1 1099511627776 from rfl, hq2]; simp only [Bool.false_and, Bool.and_false]; exact trivial)
       rw [hq0] at hI0
       rw [hq1] at hI1
       rw [hq2] at hI2
       go_wp2_with fail
       let Y9 : World → Prop := fun wx : World => wx.cell? ⟨w.heap.size, 11, none⟩ = some (.slice (some ⟨txB, txo, none⟩) txn txc) ∧ wx.cell? ⟨wr.heap.size, 0, none⟩ = some (.int .i64 t0) ∧ wx.cell? ⟨wr.heap.size, 1, none⟩ = some (.int .i64 t1) ∧ wx.cell? ⟨wr.heap.size, 2, none⟩ = some (.int .i64 t2) ∧ wx.cell? ⟨wr.heap.size, 3, none⟩ = some (.int .i64 t3)
       have hSx : ∀ wx, Same (wr.alloc (.cells #[.int .i64 t0, .int .i64 t1, .int .i64 t2, .int .i64 t3] 67)) wx → Y9 wx := fun wx h => ⟨(hb1.same h).cell 11, (hb2.same h).cell 0, (hb2.same h).cell 1, (hb2.same h).cell 2, (hb2.same h).cell 3⟩
       have hS : Y9 (wr.alloc (.cells #[.int .i64 t0, .int .i64 t1, .int .i64 t2, .int .i64 t3] 67)).drew := by exact hSx _ (Kept.refl _ _).drew
       refine wp_region_V Y9 99 40 rfl (by kernel_rfl) ?_
       refine tk 0 35 hS ?_
       refine tkV 1 36 (.bool false) hS ?_
       refine tkV 2 37 (.bool false) hS ?_
       refine tkS 3 38 hS ?_
       refine tkS 4 39 hS ?_
       refine tkS 5 40 hS ?_
       refine tkS 6 41 hS ?_
       refine tkS 7 42 hS ?_
       refine tkS 8 43 hS ?_
       refine tkS 9 44 hS ?_
       refine tkS 10 45 hS ?_
       refine tkS 11 46 hS ?_
       refine tkS 12 47 hS ?_
       refine tkV 13 48 (.bool false) hS ?_
       refine tkV 14 49 (.bool false) hS ?_
       refine tk 15 50 hS ?_
       refine tk 16 51 hS ?_
       refine wpAnyV_one (i := 17) (by kernel_rfl) rfl (fun K hK => ?_)
       go_simp
       have hc := hI0 ((wr.alloc (.cells #[.int .i64 t0, .int .i64 t1, .int .i64 t2, .int .i64 t3] 67)).drew)
       with_reducible refine hc.mono ?_
       clear hc
       rintro e wq0 ⟨rfl, hkk⟩
       have hkwq0 : Same (wr.alloc (.cells #[.int .i64 t0, .int .i64 t1, .int .i64 t2, .int .i64 t3] 67)) wq0 := Kept.trans ((Kept.refl _ _).drew) hkk
       clear hkk
       have hS : Y9 wq0 := hSx _ hkwq0
       refine hK.out _ _ (fun _ => hS) ?_
       clear hK K
       try simp only [Act.put, sA, s0, sS]
       refine tkV 18 53 (.bool false) hS ?_
       refine tkV 19 54 (.bool false) hS ?_
       refine tkV 20 55 (.bool false) hS ?_
       refine tk 21 56 hS ?_
       refine tk 22 57 hS ?_
       refine wpAnyV_one (i := 23) (by kernel_rfl) rfl (fun K hK => ?_)
       go_simp
       have hc := hI1 (wq0)
       with_reducible refine hc.mono ?_
       clear hc
       rintro e wq1 ⟨rfl, hkk⟩
       have hkwq1 : Same (wr.alloc (.cells #[.int .i64 t0, .int .i64 t1, .int .i64 t2, .int .i64 t3] 67)) wq1 := Kept.trans (hkwq0) hkk
       clear hkk
       have hS : Y9 wq1 := hSx _ hkwq1
       refine hK.out _ _ (fun _ => hS) ?_
       clear hK K
       try simp only [Act.put, sA, s0, sS]
       refine tkV 24 59 (.bool false) hS ?_
       refine tkV 25 60 (.bool false) hS ?_
       refine tkV 26 61 (.bool false) hS ?_
       refine tk 27 62 hS ?_
       refine tk 28 63 hS ?_
       refine wpAnyV_one (i := 29) (by kernel_rfl) rfl (fun K hK => ?_)
       go_simp
       have hc := hI2 (wq1)
       with_reducible refine hc.mono ?_
       clear hc
       rintro e wq2 ⟨rfl, hkk⟩
       have hkwq2 : Same (wr.alloc (.cells #[.int .i64 t0, .int .i64 t1, .int .i64 t2, .int .i64 t3] 67)) wq2 := Kept.trans (hkwq1) hkk
       clear hkk
       have hS : Y9 wq2 := hSx _ hkwq2
       refine hK.out _ _ (fun _ => hS) ?_
       clear hK K
       try simp only [Act.put, sA, s0, sS]
       refine tkV 30 65 (.bool true) hS ?_
       refine tkV 31 66 (.bool true) hS ?_
       refine tkV 32 67 (.bool true) hS ?_
       refine tkS 33 68 hS ?_
       refine tkS 34 69 hS ?_
       refine tkS 35 70 hS ?_
       refine tkS 36 71 hS ?_
       refine tkS 37 72 hS ?_
       refine tkS 38 73 hS ?_
       refine tkV 39 74 (.bool true) hS ?_
       refine wpAnyV_done (by kernel_rfl) ?_
       go_wp2
       go_ret
       exact ⟨by rw [HNO.out k hlt HF.out]; rfl, (HK.out.alloc _).trans hkwq2⟩
      | true =>
       cases hq3 : inB t3 0 t2 with
       | false =>
        have HF := (show Hid (atTxns txb k = false) from by rw [HAT.out]; unfold oneTxns; rw [show (decide (0 ≤ t3) && decide (t3 ≤ t2)) = inB t3 0 t2 from rfl, hq3]; simp only [Bool.false_and, Bool.and_false]; exact trivial)
        rw [hq0] at hI0
        rw [hq1] at hI1
        rw [hq2] at hI2
        rw [hq3] at hI3
        go_wp2_with fail
        let Y10 : World → Prop := fun wx : World => wx.cell? ⟨w.heap.size, 11, none⟩ = some (.slice (some ⟨txB, txo, none⟩) txn txc) ∧ wx.cell? ⟨wr.heap.size, 0, none⟩ = some (.int .i64 t0) ∧ wx.cell? ⟨wr.heap.size, 1, none⟩ = some (.int .i64 t1) ∧ wx.cell? ⟨wr.heap.size, 2, none⟩ = some (.int .i64 t2) ∧ wx.cell? ⟨wr.heap.size, 3, none⟩ = some (.int .i64 t3)
        have hSx : ∀ wx, Same (wr.alloc (.cells #[.int .i64 t0, .int .i64 t1, .int .i64 t2, .int .i64 t3] 67)) wx → Y10 wx := fun wx h => ⟨(hb1.same h).cell 11, (hb2.same h).cell 0, (hb2.same h).cell 1, (hb2.same h).cell 2, (hb2.same h).cell 3⟩
        have hS : Y10 (wr.alloc (.cells #[.int .i64 t0, .int .i64 t1, .int .i64 t2, .int .i64 t3] 67)).drew := by exact hSx _ (Kept.refl _ _).drew
        refine wp_region_V Y10 99 40 rfl (by kernel_rfl) ?_
        refine tk 0 35 hS ?_
        refine tkV 1 36 (.bool false) hS ?_
        refine tkV 2 37 (.bool false) hS ?_
        refine tkS 3 38 hS ?_
        refine tkS 4 39 hS ?_
        refine tkS 5 40 hS ?_
        refine tkS 6 41 hS ?_
        refine tkS 7 42 hS ?_
        refine tkS 8 43 hS ?_
        refine tkS 9 44 hS ?_
        refine tkS 10 45 hS ?_
        refine tkS 11 46 hS ?_
        refine tkS 12 47 hS ?_
        refine tkV 13 48 (.bool false) hS ?_
        refine tkV 14 49 (.bool false) hS ?_
        refine tk 15 50 hS ?_
        refine tk 16 51 hS ?_
        refine wpAnyV_one (i := 17) (by kernel_rfl) rfl (fun K hK => ?_)
        go_simp
        have hc := hI0 ((wr.alloc (.cells #[.int .i64 t0, .int .i64 t1, .int .i64 t2, .int .i64 t3] 67)).drew)
        with_reducible refine hc.mono ?_
        clear hc
        rintro e wq0 ⟨rfl, hkk⟩
        have hkwq0 : Same (wr.alloc (.cells #[.int .i64 t0, .int .i64 t1, .int .i64 t2, .int .i64 t3] 67)) wq0 := Kept.trans ((Kept.refl _ _).drew) hkk
        clear hkk
        have hS : Y10 wq0 := hSx _ hkwq0
        refine hK.out _ _ (fun _ => hS) ?_
        clear hK K
        try simp only [Act.put, sA, s0, sS]
        refine tkV 18 53 (.bool false) hS ?_
        refine tkV 19 54 (.bool false) hS ?_
        refine tkV 20 55 (.bool false) hS ?_
        refine tk 21 56 hS ?_
        refine tk 22 57 hS ?_
        refine wpAnyV_one (i := 23) (by kernel_rfl) rfl (fun K hK => ?_)
        go_simp
        have hc := hI1 (wq0)
        with_reducible refine hc.mono ?_
        clear hc
        rintro e wq1 ⟨rfl, hkk⟩
        have hkwq1 : Same (wr.alloc (.cells #[.int .i64 t0, .int .i64 t1, .int .i64 t2, .int .i64 t3] 67)) wq1 := Kept.trans (hkwq0) hkk
        clear hkk
        have hS : Y10 wq1 := hSx _ hkwq1
        refine hK.out _ _ (fun _ => hS) ?_
        clear hK K
        try simp only [Act.put, sA, s0, sS]
        refine tkV 24 59 (.bool false) hS ?_
        refine tkV 25 60 (.bool false) hS ?_
        refine tkV 26 61 (.bool false) hS ?_
        refine tk 27 62 hS ?_
        refine tk 28 63 hS ?_
        refine wpAnyV_one (i := 29) (by kernel_rfl) rfl (fun K hK => ?_)
        go_simp
        have hc := hI2 (wq1)
        with_reducible refine hc.mono ?_
        clear hc
        rintro e wq2 ⟨rfl, hkk⟩
        have hkwq2 : Same (wr.alloc (.cells #[.int .i64 t0, .int .i64 t1, .int .i64 t2, .int .i64 t3] 67)) wq2 := Kept.trans (hkwq1) hkk
        clear hkk
        have hS : Y10 wq2 := hSx _ hkwq2
        refine hK.out _ _ (fun _ => hS) ?_
        clear hK K
        try simp only [Act.put, sA, s0, sS]
        refine tkV 30 65 (.bool false) hS ?_
        refine tkV 31 66 (.bool false) hS ?_
        refine tkV 32 67 (.bool false) hS ?_
        refine tk 33 68 hS ?_
        refine tk 34 69 hS ?_
        refine tk 35 70 hS ?_
        refine tk 36 71 hS ?_
        refine wpAnyV_one (i := 37) (by kernel_rfl) rfl (fun K hK => ?_)
        go_simp
        have hc := hI3 (wq2)
        with_reducible refine hc.mono ?_
        clear hc
        rintro e wq3 ⟨rfl, hkk⟩
        have hkwq3 : Same (wr.alloc (.cells #[.int .i64 t0, .int .i64 t1, .int .i64 t2, .int .i64 t3] 67)) wq3 := Kept.trans (hkwq2) hkk
        clear hkk
        have hS : Y10 wq3 := hSx _ hkwq3
        refine hK.out _ _ (fun _ => hS) ?_
        clear hK K
        try simp only [Act.put, sA, s0, sS]
        refine tkV 38 73 (.bool true) hS ?_
        refine tkV 39 74 (.bool true) hS ?_
        refine wpAnyV_done (by kernel_rfl) ?_
        go_wp2
        go_ret
        exact ⟨by rw [HNO.out k hlt HF.out]; rfl, (HK.out.alloc _).trans hkwq3⟩
       | true =>
        have HOK := (show Hid (atTxns txb k = true) from by rw [HAT.out]; unfold oneTxns; rw [decide_eq_true (show 0 < t0 from by have h := hq0; simp [inB] at h; omega), show isTxnB t0 = inB t0 1 2147483647 from rfl, hq0, show (decide (1 ≤ t1) && decide (t1 ≤ 3)) = inB t1 1 3 from rfl, hq1, show (decide (1 ≤ t2) && decide (t2 ≤ 1099511627776)) = inB t2 1 1099511627776 from rfl, hq2, show (decide (0 ≤ t3) && decide (t3 ≤ t2)) = inB t3 0 t2 from rfl, hq3]; simp only [Bool.and_true, Bool.and_self]; exact trivial)
        rw [hq0] at hI0
        rw [hq1] at hI1
        rw [hq2] at hI2
        rw [hq3] at hI3
        go_wp2_with fail
        let Y11 : World → Prop := fun wx : World => wx.cell? ⟨w.heap.size, 11, none⟩ = some (.slice (some ⟨txB, txo, none⟩) txn txc) ∧ wx.cell? ⟨wr.heap.size, 0, none⟩ = some (.int .i64 t0) ∧ wx.cell? ⟨wr.heap.size, 1, none⟩ = some (.int .i64 t1) ∧ wx.cell? ⟨wr.heap.size, 2, none⟩ = some (.int .i64 t2) ∧ wx.cell? ⟨wr.heap.size, 3, none⟩ = some (.int .i64 t3)
        have hSx : ∀ wx, Same (wr.alloc (.cells #[.int .i64 t0, .int .i64 t1, .int .i64 t2, .int .i64 t3] 67)) wx → Y11 wx := fun wx h => ⟨(hb1.same h).cell 11, (hb2.same h).cell 0, (hb2.same h).cell 1, (hb2.same h).cell 2, (hb2.same h).cell 3⟩
        have hS : Y11 (wr.alloc (.cells #[.int .i64 t0, .int .i64 t1, .int .i64 t2, .int .i64 t3] 67)).drew := by exact hSx _ (Kept.refl _ _).drew
        refine wp_region_V Y11 99 40 rfl (by kernel_rfl) ?_
        refine tk 0 35 hS ?_
        refine tkV 1 36 (.bool false) hS ?_
        refine tkV 2 37 (.bool false) hS ?_
        refine tkS 3 38 hS ?_
        refine tkS 4 39 hS ?_
        refine tkS 5 40 hS ?_
        refine tkS 6 41 hS ?_
        refine tkS 7 42 hS ?_
        refine tkS 8 43 hS ?_
        refine tkS 9 44 hS ?_
        refine tkS 10 45 hS ?_
        refine tkS 11 46 hS ?_
        refine tkS 12 47 hS ?_
        refine tkV 13 48 (.bool false) hS ?_
        refine tkV 14 49 (.bool false) hS ?_
        refine tk 15 50 hS ?_
        refine tk 16 51 hS ?_
        refine wpAnyV_one (i := 17) (by kernel_rfl) rfl (fun K hK => ?_)
        go_simp
        have hc := hI0 ((wr.alloc (.cells #[.int .i64 t0, .int .i64 t1, .int .i64 t2, .int .i64 t3] 67)).drew)
        with_reducible refine hc.mono ?_
        clear hc
        rintro e wq0 ⟨rfl, hkk⟩
        have hkwq0 : Same (wr.alloc (.cells #[.int .i64 t0, .int .i64 t1, .int .i64 t2, .int .i64 t3] 67)) wq0 := Kept.trans ((Kept.refl _ _).drew) hkk
        clear hkk
        have hS : Y11 wq0 := hSx _ hkwq0
        refine hK.out _ _ (fun _ => hS) ?_
        clear hK K
        try simp only [Act.put, sA, s0, sS]
        refine tkV 18 53 (.bool false) hS ?_
        refine tkV 19 54 (.bool false) hS ?_
        refine tkV 20 55 (.bool false) hS ?_
        refine tk 21 56 hS ?_
        refine tk 22 57 hS ?_
        refine wpAnyV_one (i := 23) (by kernel_rfl) rfl (fun K hK => ?_)
        go_simp
        have hc := hI1 (wq0)
        with_reducible refine hc.mono ?_
        clear hc
        rintro e wq1 ⟨rfl, hkk⟩
        have hkwq1 : Same (wr.alloc (.cells #[.int .i64 t0, .int .i64 t1, .int .i64 t2, .int .i64 t3] 67)) wq1 := Kept.trans (hkwq0) hkk
        clear hkk
        have hS : Y11 wq1 := hSx _ hkwq1
        refine hK.out _ _ (fun _ => hS) ?_
        clear hK K
        try simp only [Act.put, sA, s0, sS]
        refine tkV 24 59 (.bool false) hS ?_
        refine tkV 25 60 (.bool false) hS ?_
        refine tkV 26 61 (.bool false) hS ?_
        refine tk 27 62 hS ?_
        refine tk 28 63 hS ?_
        refine wpAnyV_one (i := 29) (by kernel_rfl) rfl (fun K hK => ?_)
        go_simp
        have hc := hI2 (wq1)
        with_reducible refine hc.mono ?_
        clear hc
        rintro e wq2 ⟨rfl, hkk⟩
        have hkwq2 : Same (wr.alloc (.cells #[.int .i64 t0, .int .i64 t1, .int .i64 t2, .int .i64 t3] 67)) wq2 := Kept.trans (hkwq1) hkk
        clear hkk
        have hS : Y11 wq2 := hSx _ hkwq2
        refine hK.out _ _ (fun _ => hS) ?_
        clear hK K
        try simp only [Act.put, sA, s0, sS]
        refine tkV 30 65 (.bool false) hS ?_
        refine tkV 31 66 (.bool false) hS ?_
        refine tkV 32 67 (.bool false) hS ?_
        refine tk 33 68 hS ?_
        refine tk 34 69 hS ?_
        refine tk 35 70 hS ?_
        refine tk 36 71 hS ?_
        refine wpAnyV_one (i := 37) (by kernel_rfl) rfl (fun K hK => ?_)
        go_simp
        have hc := hI3 (wq2)
        with_reducible refine hc.mono ?_
        clear hc
        rintro e wq3 ⟨rfl, hkk⟩
        have hkwq3 : Same (wr.alloc (.cells #[.int .i64 t0, .int .i64 t1, .int .i64 t2, .int .i64 t3] 67)) wq3 := Kept.trans (hkwq2) hkk
        clear hkk
        have hS : Y11 wq3 := hSx _ hkwq3
        refine hK.out _ _ (fun _ => hS) ?_
        clear hK K
        try simp only [Act.put, sA, s0, sS]
        refine tkV 38 73 (.bool false) hS ?_
        refine tkV 39 74 (.bool false) hS ?_
        refine wpAnyV_done (by kernel_rfl) ?_
        go_wp2
        go_roundw
        case rel => exact ⟨k + 1, by omega, by go_num, fun i hi => (Nat.lt_succ_iff_lt_or_eq.1 hi).elim (HAL.out i) (fun e => e ▸ HOK.out), (HK.out.alloc _).trans hkwq3, (hb1.same hkwq3)⟩
        case measure => simp [intOf]; omega
   ·obtain ⟨j, hj⟩ : ∃ j, k = j + 1 := ⟨k - 1, by omega⟩
    have qa := HPC.out j hj
    generalize aheadTxns txb k = A at *
    have hkp : (0 : Int) < (k : Int) := by omega
    have hsub : IntKind.i64.wrap ((k : Int) - 1) = (j : Int) := by rw [show (k : Int) - 1 = (j : Int) from by omega]; exact wrap_nat j (by omega)
    have hjt : (j : Int) < txn := by omega
    clear HPC hk0 hj
    by_cases hc : t0 ≤ A
    ·have HF := (show Hid (atTxns txb k = false) from by rw [HAT.out]; unfold oneTxns; rw [decide_eq_false (show ¬ (A < t0) from by omega)]; simp only [Bool.false_and]; exact trivial)
     go_wp2_with fail
     let Y1 : World → Prop := fun wx : World => wx.cell? ⟨w.heap.size, 11, none⟩ = some (.slice (some ⟨txB, txo, none⟩) txn txc) ∧ wx.cell? ⟨wr.heap.size, 0, none⟩ = some (.int .i64 t0) ∧ wx.cell? ⟨wr.heap.size, 1, none⟩ = some (.int .i64 t1) ∧ wx.cell? ⟨wr.heap.size, 2, none⟩ = some (.int .i64 t2) ∧ wx.cell? ⟨wr.heap.size, 3, none⟩ = some (.int .i64 t3) ∧ wx.cell? ⟨txB, txo + j * 4, none⟩ = some (.int .i64 A)
     have hSx : ∀ wx, Same (wr.alloc (.cells #[.int .i64 t0, .int .i64 t1, .int .i64 t2, .int .i64 t3] 67)) wx → Y1 wx := fun wx h => ⟨(hb1.same h).cell 11, (hb2.same h).cell 0, (hb2.same h).cell 1, (hb2.same h).cell 2, (hb2.same h).cell 3, (((Kept.refl _ _).alloc _).trans h).cellOf qa id⟩
     have hS : Y1 (wr.alloc (.cells #[.int .i64 t0, .int .i64 t1, .int .i64 t2, .int .i64 t3] 67)).drew := by exact hSx _ (Kept.refl _ _).drew
     refine wp_region_V Y1 99 40 rfl (by kernel_rfl) ?_
     refine tk 0 35 hS ?_
     refine tkV 1 36 (.bool true) hS ?_
     refine tkV 2 37 (.bool true) hS ?_
     refine tk 3 38 hS ?_
     refine tk 4 39 hS ?_
     refine tk 5 40 hS ?_
     refine wpAnyV_take (i := 6) (v := .int .i64 (j : Int)) (some 41) rfl rfl (by kernel_rfl) (by kernel_rfl) (by kernel_rfl) (by kernel_rfl) (fun _ _ _ h => h) (Or.inl ⟨by rfl, fun w hSw => by (try dsimp (config := { zetaDelta := true }) only at hSw); go_simp⟩) hS ?_
     try simp only [Act.put, sA, s0, sS]
     refine tk 7 42 hS ?_
     refine tk 8 43 hS ?_
     refine tk 9 44 hS ?_
     refine tk 10 45 hS ?_
     refine tk 11 46 hS ?_
     refine tkV 12 47 (.bool true) hS ?_
     refine tkV 13 48 (.bool true) hS ?_
     refine tkV 14 49 (.bool true) hS ?_
     refine tkS 15 50 hS ?_
     refine tkS 16 51 hS ?_
     refine tkS 17 52 hS ?_
     refine tkS 18 53 hS ?_
     refine tkV 19 54 (.bool true) hS ?_
     refine tkV 20 55 (.bool true) hS ?_
     refine tkS 21 56 hS ?_
     refine tkS 22 57 hS ?_
     refine tkS 23 58 hS ?_
     refine tkS 24 59 hS ?_
     refine tkV 25 60 (.bool true) hS ?_
     refine tkV 26 61 (.bool true) hS ?_
     refine tkS 27 62 hS ?_
     refine tkS 28 63 hS ?_
     refine tkS 29 64 hS ?_
     refine tkS 30 65 hS ?_
     refine tkV 31 66 (.bool true) hS ?_
     refine tkV 32 67 (.bool true) hS ?_
     refine tkS 33 68 hS ?_
     refine tkS 34 69 hS ?_
     refine tkS 35 70 hS ?_
     refine tkS 36 71 hS ?_
     refine tkS 37 72 hS ?_
     refine tkS 38 73 hS ?_
     refine tkV 39 74 (.bool true) hS ?_
     refine wpAnyV_done (by kernel_rfl) ?_
     go_wp2
     go_ret
     exact ⟨by rw [HNO.out k hlt HF.out]; rfl, (HK.out.alloc _).trans (Kept.refl _ _).drew⟩
    cases hq0 : inB t0 1 2147483647 with
    | false =>
     have HF := (show Hid (atTxns txb k = false) from by rw [HAT.out]; unfold oneTxns; rw [show isTxnB t0 = inB t0 1 2147483647 from rfl, hq0]; simp only [Bool.false_and, Bool.and_false]; exact trivial)
     rw [hq0] at hI0
     go_wp2_with fail
     let Y2 : World → Prop := fun wx : World => wx.cell? ⟨w.heap.size, 11, none⟩ = some (.slice (some ⟨txB, txo, none⟩) txn txc) ∧ wx.cell? ⟨wr.heap.size, 0, none⟩ = some (.int .i64 t0) ∧ wx.cell? ⟨wr.heap.size, 1, none⟩ = some (.int .i64 t1) ∧ wx.cell? ⟨wr.heap.size, 2, none⟩ = some (.int .i64 t2) ∧ wx.cell? ⟨wr.heap.size, 3, none⟩ = some (.int .i64 t3) ∧ wx.cell? ⟨txB, txo + j * 4, none⟩ = some (.int .i64 A)
     have hSx : ∀ wx, Same (wr.alloc (.cells #[.int .i64 t0, .int .i64 t1, .int .i64 t2, .int .i64 t3] 67)) wx → Y2 wx := fun wx h => ⟨(hb1.same h).cell 11, (hb2.same h).cell 0, (hb2.same h).cell 1, (hb2.same h).cell 2, (hb2.same h).cell 3, (((Kept.refl _ _).alloc _).trans h).cellOf qa id⟩
     have hS : Y2 (wr.alloc (.cells #[.int .i64 t0, .int .i64 t1, .int .i64 t2, .int .i64 t3] 67)).drew := by exact hSx _ (Kept.refl _ _).drew
     refine wp_region_V Y2 99 40 rfl (by kernel_rfl) ?_
     refine tk 0 35 hS ?_
     refine tkV 1 36 (.bool true) hS ?_
     refine tkV 2 37 (.bool true) hS ?_
     refine tk 3 38 hS ?_
     refine tk 4 39 hS ?_
     refine tk 5 40 hS ?_
     refine wpAnyV_take (i := 6) (v := .int .i64 (j : Int)) (some 41) rfl rfl (by kernel_rfl) (by kernel_rfl) (by kernel_rfl) (by kernel_rfl) (fun _ _ _ h => h) (Or.inl ⟨by rfl, fun w hSw => by (try dsimp (config := { zetaDelta := true }) only at hSw); go_simp⟩) hS ?_
     try simp only [Act.put, sA, s0, sS]
     refine tk 7 42 hS ?_
     refine tk 8 43 hS ?_
     refine tk 9 44 hS ?_
     refine tk 10 45 hS ?_
     refine tk 11 46 hS ?_
     refine tkV 12 47 (.bool false) hS ?_
     refine tkV 13 48 (.bool false) hS ?_
     refine tkV 14 49 (.bool false) hS ?_
     refine tk 15 50 hS ?_
     refine tk 16 51 hS ?_
     refine wpAnyV_one (i := 17) (by kernel_rfl) rfl (fun K hK => ?_)
     go_simp
     have hc := hI0 ((wr.alloc (.cells #[.int .i64 t0, .int .i64 t1, .int .i64 t2, .int .i64 t3] 67)).drew)
     with_reducible refine hc.mono ?_
     clear hc
     rintro e wq0 ⟨rfl, hkk⟩
     have hkwq0 : Same (wr.alloc (.cells #[.int .i64 t0, .int .i64 t1, .int .i64 t2, .int .i64 t3] 67)) wq0 := Kept.trans ((Kept.refl _ _).drew) hkk
     clear hkk
     have hS : Y2 wq0 := hSx _ hkwq0
     refine hK.out _ _ (fun _ => hS) ?_
     clear hK K
     try simp only [Act.put, sA, s0, sS]
     refine tkV 18 53 (.bool true) hS ?_
     refine tkV 19 54 (.bool true) hS ?_
     refine tkV 20 55 (.bool true) hS ?_
     refine tkS 21 56 hS ?_
     refine tkS 22 57 hS ?_
     refine tkS 23 58 hS ?_
     refine tkS 24 59 hS ?_
     refine tkV 25 60 (.bool true) hS ?_
     refine tkV 26 61 (.bool true) hS ?_
     refine tkS 27 62 hS ?_
     refine tkS 28 63 hS ?_
     refine tkS 29 64 hS ?_
     refine tkS 30 65 hS ?_
     refine tkV 31 66 (.bool true) hS ?_
     refine tkV 32 67 (.bool true) hS ?_
     refine tkS 33 68 hS ?_
     refine tkS 34 69 hS ?_
     refine tkS 35 70 hS ?_
     refine tkS 36 71 hS ?_
     refine tkS 37 72 hS ?_
     refine tkS 38 73 hS ?_
     refine tkV 39 74 (.bool true) hS ?_
     refine wpAnyV_done (by kernel_rfl) ?_
     go_wp2
     go_ret
     exact ⟨by rw [HNO.out k hlt HF.out]; rfl, (HK.out.alloc _).trans hkwq0⟩
    | true =>
     cases hq1 : inB t1 1 3 with
     | false =>
      have HF := (show Hid (atTxns txb k = false) from by rw [HAT.out]; unfold oneTxns; rw [show (decide (1 ≤ t1) && decide (t1 ≤ 3)) = inB t1 1 3 from rfl, hq1]; simp only [Bool.false_and, Bool.and_false]; exact trivial)
      rw [hq0] at hI0
      rw [hq1] at hI1
      go_wp2_with fail
      let Y3 : World → Prop := fun wx : World => wx.cell? ⟨w.heap.size, 11, none⟩ = some (.slice (some ⟨txB, txo, none⟩) txn txc) ∧ wx.cell? ⟨wr.heap.size, 0, none⟩ = some (.int .i64 t0) ∧ wx.cell? ⟨wr.heap.size, 1, none⟩ = some (.int .i64 t1) ∧ wx.cell? ⟨wr.heap.size, 2, none⟩ = some (.int .i64 t2) ∧ wx.cell? ⟨wr.heap.size, 3, none⟩ = some (.int .i64 t3) ∧ wx.cell? ⟨txB, txo + j * 4, none⟩ = some (.int .i64 A)
      have hSx : ∀ wx, Same (wr.alloc (.cells #[.int .i64 t0, .int .i64 t1, .int .i64 t2, .int .i64 t3] 67)) wx → Y3 wx := fun wx h => ⟨(hb1.same h).cell 11, (hb2.same h).cell 0, (hb2.same h).cell 1, (hb2.same h).cell 2, (hb2.same h).cell 3, (((Kept.refl _ _).alloc _).trans h).cellOf qa id⟩
      have hS : Y3 (wr.alloc (.cells #[.int .i64 t0, .int .i64 t1, .int .i64 t2, .int .i64 t3] 67)).drew := by exact hSx _ (Kept.refl _ _).drew
      refine wp_region_V Y3 99 40 rfl (by kernel_rfl) ?_
      refine tk 0 35 hS ?_
      refine tkV 1 36 (.bool true) hS ?_
      refine tkV 2 37 (.bool true) hS ?_
      refine tk 3 38 hS ?_
      refine tk 4 39 hS ?_
      refine tk 5 40 hS ?_
      refine wpAnyV_take (i := 6) (v := .int .i64 (j : Int)) (some 41) rfl rfl (by kernel_rfl) (by kernel_rfl) (by kernel_rfl) (by kernel_rfl) (fun _ _ _ h => h) (Or.inl ⟨by rfl, fun w hSw => by (try dsimp (config := { zetaDelta := true }) only at hSw); go_simp⟩) hS ?_
      try simp only [Act.put, sA, s0, sS]
      refine tk 7 42 hS ?_
      refine tk 8 43 hS ?_
      refine tk 9 44 hS ?_
      refine tk 10 45 hS ?_
      refine tk 11 46 hS ?_
      refine tkV 12 47 (.bool false) hS ?_
      refine tkV 13 48 (.bool false) hS ?_
      refine tkV 14 49 (.bool false) hS ?_
      refine tk 15 50 hS ?_
      refine tk 16 51 hS ?_
      refine wpAnyV_one (i := 17) (by kernel_rfl) rfl (fun K hK => ?_)
      go_simp
      have hc := hI0 ((wr.alloc (.cells #[.int .i64 t0, .int .i64 t1, .int .i64 t2, .int .i64 t3] 67)).drew)
      with_reducible refine hc.mono ?_
      clear hc
      rintro e wq0 ⟨rfl, hkk⟩
      have hkwq0 : Same (wr.alloc (.cells #[.int .i64 t0, .int .i64 t1, .int .i64 t2, .int .i64 t3] 67)) wq0 := Kept.trans ((Kept.refl _ _).drew) hkk
      clear hkk
      have hS : Y3 wq0 := hSx _ hkwq0
      refine hK.out _ _ (fun _ => hS) ?_
      clear hK K
      try simp only [Act.put, sA, s0, sS]
      refine tkV 18 53 (.bool false) hS ?_
      refine tkV 19 54 (.bool false) hS ?_
      refine tkV 20 55 (.bool false) hS ?_
      refine tk 21 56 hS ?_
      refine tk 22 57 hS ?_
      refine wpAnyV_one (i := 23) (by kernel_rfl) rfl (fun K hK => ?_)
      go_simp
      have hc := hI1 (wq0)
      with_reducible refine hc.mono ?_
      clear hc
      rintro e wq1 ⟨rfl, hkk⟩
      have hkwq1 : Same (wr.alloc (.cells #[.int .i64 t0, .int .i64 t1, .int .i64 t2, .int .i64 t3] 67)) wq1 := Kept.trans (hkwq0) hkk
      clear hkk
      have hS : Y3 wq1 := hSx _ hkwq1
      refine hK.out _ _ (fun _ => hS) ?_
      clear hK K
      try simp only [Act.put, sA, s0, sS]
      refine tkV 24 59 (.bool true) hS ?_
      refine tkV 25 60 (.bool true) hS ?_
      refine tkV 26 61 (.bool true) hS ?_
      refine tkS 27 62 hS ?_
      refine tkS 28 63 hS ?_
      refine tkS 29 64 hS ?_
      refine tkS 30 65 hS ?_
      refine tkV 31 66 (.bool true) hS ?_
      refine tkV 32 67 (.bool true) hS ?_
      refine tkS 33 68 hS ?_
      refine tkS 34 69 hS ?_
      refine tkS 35 70 hS ?_
      refine tkS 36 71 hS ?_
      refine tkS 37 72 hS ?_
      refine tkS 38 73 hS ?_
      refine tkV 39 74 (.bool true) hS ?_
      refine wpAnyV_done (by kernel_rfl) ?_
      go_wp2
      go_ret
      exact ⟨by rw [HNO.out k hlt HF.out]; rfl, (HK.out.alloc _).trans hkwq1⟩
     | true =>
      cases hq2 : inB t2 1 1099511627776 with
      | false =>
       have HF := (show Hid (atTxns txb k = false) from by rw [HAT.out]; unfold oneTxns; rw [show (decide (1 ≤ t2) && decide (t2 ≤ 1099511627776)) = inB t2 1 1099511627776 from rfl, hq2]; simp only [Bool.false_and, Bool.and_false]; exact trivial)
       rw [hq0] at hI0
       rw [hq1] at hI1
       rw [hq2] at hI2
       go_wp2_with fail
       let Y4 : World → Prop := fun wx : World => wx.cell? ⟨w.heap.size, 11, none⟩ = some (.slice (some ⟨txB, txo, none⟩) txn txc) ∧ wx.cell? ⟨wr.heap.size, 0, none⟩ = some (.int .i64 t0) ∧ wx.cell? ⟨wr.heap.size, 1, none⟩ = some (.int .i64 t1) ∧ wx.cell? ⟨wr.heap.size, 2, none⟩ = some (.int .i64 t2) ∧ wx.cell? ⟨wr.heap.size, 3, none⟩ = some (.int .i64 t3) ∧ wx.cell? ⟨txB, txo + j * 4, none⟩ = some (.int .i64 A)
       have hSx : ∀ wx, Same (wr.alloc (.cells #[.int .i64 t0, .int .i64 t1, .int .i64 t2, .int .i64 t3] 67)) wx → Y4 wx := fun wx h => ⟨(hb1.same h).cell 11, (hb2.same h).cell 0, (hb2.same h).cell 1, (hb2.same h).cell 2, (hb2.same h).cell 3, (((Kept.refl _ _).alloc _).trans h).cellOf qa id⟩
       have hS : Y4 (wr.alloc (.cells #[.int .i64 t0, .int .i64 t1, .int .i64 t2, .int .i64 t3] 67)).drew := by exact hSx _ (Kept.refl _ _).drew
       refine wp_region_V Y4 99 40 rfl (by kernel_rfl) ?_
       refine tk 0 35 hS ?_
       refine tkV 1 36 (.bool true) hS ?_
       refine tkV 2 37 (.bool true) hS ?_
       refine tk 3 38 hS ?_
       refine tk 4 39 hS ?_
       refine tk 5 40 hS ?_
       refine wpAnyV_take (i := 6) (v := .int .i64 (j : Int)) (some 41) rfl rfl (by kernel_rfl) (by kernel_rfl) (by kernel_rfl) (by kernel_rfl) (fun _ _ _ h => h) (Or.inl ⟨by rfl, fun w hSw => by (try dsimp (config := { zetaDelta := true }) only at hSw); go_simp⟩) hS ?_
       try simp only [Act.put, sA, s0, sS]
       refine tk 7 42 hS ?_
       refine tk 8 43 hS ?_
       refine tk 9 44 hS ?_
       refine tk 10 45 hS ?_
       refine tk 11 46 hS ?_
       refine tkV 12 47 (.bool false) hS ?_
       refine tkV 13 48 (.bool false) hS ?_
       refine tkV 14 49 (.bool false) hS ?_
       refine tk 15 50 hS ?_
       refine tk 16 51 hS ?_
       refine wpAnyV_one (i := 17) (by kernel_rfl) rfl (fun K hK => ?_)
       go_simp
       have hc := hI0 ((wr.alloc (.cells #[.int .i64 t0, .int .i64 t1, .int .i64 t2, .int .i64 t3] 67)).drew)
       with_reducible refine hc.mono ?_
       clear hc
       rintro e wq0 ⟨rfl, hkk⟩
       have hkwq0 : Same (wr.alloc (.cells #[.int .i64 t0, .int .i64 t1, .int .i64 t2, .int .i64 t3] 67)) wq0 := Kept.trans ((Kept.refl _ _).drew) hkk
       clear hkk
       have hS : Y4 wq0 := hSx _ hkwq0
       refine hK.out _ _ (fun _ => hS) ?_
       clear hK K
       try simp only [Act.put, sA, s0, sS]
       refine tkV 18 53 (.bool false) hS ?_
       refine tkV 19 54 (.bool false) hS ?_
       refine tkV 20 55 (.bool false) hS ?_
       refine tk 21 56 hS ?_
       refine tk 22 57 hS ?_
       refine wpAnyV_one (i := 23) (by kernel_rfl) rfl (fun K hK => ?_)
       go_simp
       have hc := hI1 (wq0)
       with_reducible refine hc.mono ?_
       clear hc
       rintro e wq1 ⟨rfl, hkk⟩
       have hkwq1 : Same (wr.alloc (.cells #[.int .i64 t0, .int .i64 t1, .int .i64 t2, .int .i64 t3] 67)) wq1 := Kept.trans (hkwq0) hkk
       clear hkk
       have hS : Y4 wq1 := hSx _ hkwq1
       refine hK.out _ _ (fun _ => hS) ?_
       clear hK K
       try simp only [Act.put, sA, s0, sS]
       refine tkV 24 59 (.bool false) hS ?_
       refine tkV 25 60 (.bool false) hS ?_
       refine tkV 26 61 (.bool false) hS ?_
       refine tk 27 62 hS ?_
       refine tk 28 63 hS ?_
       refine wpAnyV_one (i := 29) (by kernel_rfl) rfl (fun K hK => ?_)
       go_simp
       have hc := hI2 (wq1)
       with_reducible refine hc.mono ?_
       clear hc
       rintro e wq2 ⟨rfl, hkk⟩
       have hkwq2 : Same (wr.alloc (.cells #[.int .i64 t0, .int .i64 t1, .int .i64 t2, .int .i64 t3] 67)) wq2 := Kept.trans (hkwq1) hkk
       clear hkk
       have hS : Y4 wq2 := hSx _ hkwq2
       refine hK.out _ _ (fun _ => hS) ?_
       clear hK K
       try simp only [Act.put, sA, s0, sS]
       refine tkV 30 65 (.bool true) hS ?_
       refine tkV 31 66 (.bool true) hS ?_
       refine tkV 32 67 (.bool true) hS ?_
       refine tkS 33 68 hS ?_
       refine tkS 34 69 hS ?_
       refine tkS 35 70 hS ?_
       refine tkS 36 71 hS ?_
       refine tkS 37 72 hS ?_
       refine tkS 38 73 hS ?_
       refine tkV 39 74 (.bool true) hS ?_
       refine wpAnyV_done (by kernel_rfl) ?_
       go_wp2
       go_ret
       exact ⟨by rw [HNO.out k hlt HF.out]; rfl, (HK.out.alloc _).trans hkwq2⟩
      | true =>
       cases hq3 : inB t3 0 t2 with
       | false =>
        have HF := (show Hid (atTxns txb k = false) from by rw [HAT.out]; unfold oneTxns; rw [show (decide (0 ≤ t3) && decide (t3 ≤ t2)) = inB t3 0 t2 from rfl, hq3]; simp only [Bool.false_and, Bool.and_false]; exact trivial)
        rw [hq0] at hI0
        rw [hq1] at hI1
        rw [hq2] at hI2
        rw [hq3] at hI3
        go_wp2_with fail
        let Y5 : World → Prop := fun wx : World => wx.cell? ⟨w.heap.size, 11, none⟩ = some (.slice (some ⟨txB, txo, none⟩) txn txc) ∧ wx.cell? ⟨wr.heap.size, 0, none⟩ = some (.int .i64 t0) ∧ wx.cell? ⟨wr.heap.size, 1, none⟩ = some (.int .i64 t1) ∧ wx.cell? ⟨wr.heap.size, 2, none⟩ = some (.int .i64 t2) ∧ wx.cell? ⟨wr.heap.size, 3, none⟩ = some (.int .i64 t3) ∧ wx.cell? ⟨txB, txo + j * 4, none⟩ = some (.int .i64 A)
        have hSx : ∀ wx, Same (wr.alloc (.cells #[.int .i64 t0, .int .i64 t1, .int .i64 t2, .int .i64 t3] 67)) wx → Y5 wx := fun wx h => ⟨(hb1.same h).cell 11, (hb2.same h).cell 0, (hb2.same h).cell 1, (hb2.same h).cell 2, (hb2.same h).cell 3, (((Kept.refl _ _).alloc _).trans h).cellOf qa id⟩
        have hS : Y5 (wr.alloc (.cells #[.int .i64 t0, .int .i64 t1, .int .i64 t2, .int .i64 t3] 67)).drew := by exact hSx _ (Kept.refl _ _).drew
        refine wp_region_V Y5 99 40 rfl (by kernel_rfl) ?_
        refine tk 0 35 hS ?_
        refine tkV 1 36 (.bool true) hS ?_
        refine tkV 2 37 (.bool true) hS ?_
        refine tk 3 38 hS ?_
        refine tk 4 39 hS ?_
        refine tk 5 40 hS ?_
        refine wpAnyV_take (i := 6) (v := .int .i64 (j : Int)) (some 41) rfl rfl (by kernel_rfl) (by kernel_rfl) (by kernel_rfl) (by kernel_rfl) (fun _ _ _ h => h) (Or.inl ⟨by rfl, fun w hSw => by (try dsimp (config := { zetaDelta := true }) only at hSw); go_simp⟩) hS ?_
        try simp only [Act.put, sA, s0, sS]
        refine tk 7 42 hS ?_
        refine tk 8 43 hS ?_
        refine tk 9 44 hS ?_
        refine tk 10 45 hS ?_
        refine tk 11 46 hS ?_
        refine tkV 12 47 (.bool false) hS ?_
        refine tkV 13 48 (.bool false) hS ?_
        refine tkV 14 49 (.bool false) hS ?_
        refine tk 15 50 hS ?_
        refine tk 16 51 hS ?_
        refine wpAnyV_one (i := 17) (by kernel_rfl) rfl (fun K hK => ?_)
        go_simp
        have hc := hI0 ((wr.alloc (.cells #[.int .i64 t0, .int .i64 t1, .int .i64 t2, .int .i64 t3] 67)).drew)
        with_reducible refine hc.mono ?_
        clear hc
        rintro e wq0 ⟨rfl, hkk⟩
        have hkwq0 : Same (wr.alloc (.cells #[.int .i64 t0, .int .i64 t1, .int .i64 t2, .int .i64 t3] 67)) wq0 := Kept.trans ((Kept.refl _ _).drew) hkk
        clear hkk
        have hS : Y5 wq0 := hSx _ hkwq0
        refine hK.out _ _ (fun _ => hS) ?_
        clear hK K
        try simp only [Act.put, sA, s0, sS]
        refine tkV 18 53 (.bool false) hS ?_
        refine tkV 19 54 (.bool false) hS ?_
        refine tkV 20 55 (.bool false) hS ?_
        refine tk 21 56 hS ?_
        refine tk 22 57 hS ?_
        refine wpAnyV_one (i := 23) (by kernel_rfl) rfl (fun K hK => ?_)
        go_simp
        have hc := hI1 (wq0)
        with_reducible refine hc.mono ?_
        clear hc
        rintro e wq1 ⟨rfl, hkk⟩
        have hkwq1 : Same (wr.alloc (.cells #[.int .i64 t0, .int .i64 t1, .int .i64 t2, .int .i64 t3] 67)) wq1 := Kept.trans (hkwq0) hkk
        clear hkk
        have hS : Y5 wq1 := hSx _ hkwq1
        refine hK.out _ _ (fun _ => hS) ?_
        clear hK K
        try simp only [Act.put, sA, s0, sS]
        refine tkV 24 59 (.bool false) hS ?_
        refine tkV 25 60 (.bool false) hS ?_
        refine tkV 26 61 (.bool false) hS ?_
        refine tk 27 62 hS ?_
        refine tk 28 63 hS ?_
        refine wpAnyV_one (i := 29) (by kernel_rfl) rfl (fun K hK => ?_)
        go_simp
        have hc := hI2 (wq1)
        with_reducible refine hc.mono ?_
        clear hc
        rintro e wq2 ⟨rfl, hkk⟩
        have hkwq2 : Same (wr.alloc (.cells #[.int .i64 t0, .int .i64 t1, .int .i64 t2, .int .i64 t3] 67)) wq2 := Kept.trans (hkwq1) hkk
        clear hkk
        have hS : Y5 wq2 := hSx _ hkwq2
        refine hK.out _ _ (fun _ => hS) ?_
        clear hK K
        try simp only [Act.put, sA, s0, sS]
        refine tkV 30 65 (.bool false) hS ?_
        refine tkV 31 66 (.bool false) hS ?_
        refine tkV 32 67 (.bool false) hS ?_
        refine tk 33 68 hS ?_
        refine tk 34 69 hS ?_
        refine tk 35 70 hS ?_
        refine tk 36 71 hS ?_
        refine wpAnyV_one (i := 37) (by kernel_rfl) rfl (fun K hK => ?_)
        go_simp
        have hc := hI3 (wq2)
        with_reducible refine hc.mono ?_
        clear hc
        rintro e wq3 ⟨rfl, hkk⟩
        have hkwq3 : Same (wr.alloc (.cells #[.int .i64 t0, .int .i64 t1, .int .i64 t2, .int .i64 t3] 67)) wq3 := Kept.trans (hkwq2) hkk
        clear hkk
        have hS : Y5 wq3 := hSx _ hkwq3
        refine hK.out _ _ (fun _ => hS) ?_
        clear hK K
        try simp only [Act.put, sA, s0, sS]
        refine tkV 38 73 (.bool true) hS ?_
        refine tkV 39 74 (.bool true) hS ?_
        refine wpAnyV_done (by kernel_rfl) ?_
        go_wp2
        go_ret
        exact ⟨by rw [HNO.out k hlt HF.out]; rfl, (HK.out.alloc _).trans hkwq3⟩
       | true =>
        have HOK := (show Hid (atTxns txb k = true) from by rw [HAT.out]; unfold oneTxns; rw [decide_eq_true (show A < t0 from by omega), show isTxnB t0 = inB t0 1 2147483647 from rfl, hq0, show (decide (1 ≤ t1) && decide (t1 ≤ 3)) = inB t1 1 3 from rfl, hq1, show (decide (1 ≤ t2) && decide (t2 ≤ 1099511627776)) = inB t2 1 1099511627776 from rfl, hq2, show (decide (0 ≤ t3) && decide (t3 ≤ t2)) = inB t3 0 t2 from rfl, hq3]; simp only [Bool.and_true, Bool.and_self]; exact trivial)
        rw [hq0] at hI0
        rw [hq1] at hI1
        rw [hq2] at hI2
        rw [hq3] at hI3
        go_wp2_with fail
        let Y6 : World → Prop := fun wx : World => wx.cell? ⟨w.heap.size, 11, none⟩ = some (.slice (some ⟨txB, txo, none⟩) txn txc) ∧ wx.cell? ⟨wr.heap.size, 0, none⟩ = some (.int .i64 t0) ∧ wx.cell? ⟨wr.heap.size, 1, none⟩ = some (.int .i64 t1) ∧ wx.cell? ⟨wr.heap.size, 2, none⟩ = some (.int .i64 t2) ∧ wx.cell? ⟨wr.heap.size, 3, none⟩ = some (.int .i64 t3) ∧ wx.cell? ⟨txB, txo + j * 4, none⟩ = some (.int .i64 A)
        have hSx : ∀ wx, Same (wr.alloc (.cells #[.int .i64 t0, .int .i64 t1, .int .i64 t2, .int .i64 t3] 67)) wx → Y6 wx := fun wx h => ⟨(hb1.same h).cell 11, (hb2.same h).cell 0, (hb2.same h).cell 1, (hb2.same h).cell 2, (hb2.same h).cell 3, (((Kept.refl _ _).alloc _).trans h).cellOf qa id⟩
        have hS : Y6 (wr.alloc (.cells #[.int .i64 t0, .int .i64 t1, .int .i64 t2, .int .i64 t3] 67)).drew := by exact hSx _ (Kept.refl _ _).drew
        refine wp_region_V Y6 99 40 rfl (by kernel_rfl) ?_
        refine tk 0 35 hS ?_
        refine tkV 1 36 (.bool true) hS ?_
        refine tkV 2 37 (.bool true) hS ?_
        refine tk 3 38 hS ?_
        refine tk 4 39 hS ?_
        refine tk 5 40 hS ?_
        refine wpAnyV_take (i := 6) (v := .int .i64 (j : Int)) (some 41) rfl rfl (by kernel_rfl) (by kernel_rfl) (by kernel_rfl) (by kernel_rfl) (fun _ _ _ h => h) (Or.inl ⟨by rfl, fun w hSw => by (try dsimp (config := { zetaDelta := true }) only at hSw); go_simp⟩) hS ?_
        try simp only [Act.put, sA, s0, sS]
        refine tk 7 42 hS ?_
        refine tk 8 43 hS ?_
        refine tk 9 44 hS ?_
        refine tk 10 45 hS ?_
        refine tk 11 46 hS ?_
        refine tkV 12 47 (.bool false) hS ?_
        refine tkV 13 48 (.bool false) hS ?_
        refine tkV 14 49 (.bool false) hS ?_
        refine tk 15 50 hS ?_
        refine tk 16 51 hS ?_
        refine wpAnyV_one (i := 17) (by kernel_rfl) rfl (fun K hK => ?_)
        go_simp
        have hc := hI0 ((wr.alloc (.cells #[.int .i64 t0, .int .i64 t1, .int .i64 t2, .int .i64 t3] 67)).drew)
        with_reducible refine hc.mono ?_
        clear hc
        rintro e wq0 ⟨rfl, hkk⟩
        have hkwq0 : Same (wr.alloc (.cells #[.int .i64 t0, .int .i64 t1, .int .i64 t2, .int .i64 t3] 67)) wq0 := Kept.trans ((Kept.refl _ _).drew) hkk
        clear hkk
        have hS : Y6 wq0 := hSx _ hkwq0
        refine hK.out _ _ (fun _ => hS) ?_
        clear hK K
        try simp only [Act.put, sA, s0, sS]
        refine tkV 18 53 (.bool false) hS ?_
        refine tkV 19 54 (.bool false) hS ?_
        refine tkV 20 55 (.bool false) hS ?_
        refine tk 21 56 hS ?_
        refine tk 22 57 hS ?_
        refine wpAnyV_one (i := 23) (by kernel_rfl) rfl (fun K hK => ?_)
        go_simp
        have hc := hI1 (wq0)
        with_reducible refine hc.mono ?_
        clear hc
        rintro e wq1 ⟨rfl, hkk⟩
        have hkwq1 : Same (wr.alloc (.cells #[.int .i64 t0, .int .i64 t1, .int .i64 t2, .int .i64 t3] 67)) wq1 := Kept.trans (hkwq0) hkk
        clear hkk
        have hS : Y6 wq1 := hSx _ hkwq1
        refine hK.out _ _ (fun _ => hS) ?_
        clear hK K
        try simp only [Act.put, sA, s0, sS]
        refine tkV 24 59 (.bool false) hS ?_
        refine tkV 25 60 (.bool false) hS ?_
        refine tkV 26 61 (.bool false) hS ?_
        refine tk 27 62 hS ?_
        refine tk 28 63 hS ?_
        refine wpAnyV_one (i := 29) (by kernel_rfl) rfl (fun K hK => ?_)
        go_simp
        have hc := hI2 (wq1)
        with_reducible refine hc.mono ?_
        clear hc
        rintro e wq2 ⟨rfl, hkk⟩
        have hkwq2 : Same (wr.alloc (.cells #[.int .i64 t0, .int .i64 t1, .int .i64 t2, .int .i64 t3] 67)) wq2 := Kept.trans (hkwq1) hkk
        clear hkk
        have hS : Y6 wq2 := hSx _ hkwq2
        refine hK.out _ _ (fun _ => hS) ?_
        clear hK K
        try simp only [Act.put, sA, s0, sS]
        refine tkV 30 65 (.bool false) hS ?_
        refine tkV 31 66 (.bool false) hS ?_
        refine tkV 32 67 (.bool false) hS ?_
        refine tk 33 68 hS ?_
        refine tk 34 69 hS ?_
        refine tk 35 70 hS ?_
        refine tk 36 71 hS ?_
        refine wpAnyV_one (i := 37) (by kernel_rfl) rfl (fun K hK => ?_)
        go_simp
        have hc := hI3 (wq2)
        with_reducible refine hc.mono ?_
        clear hc
        rintro e wq3 ⟨rfl, hkk⟩
        have hkwq3 : Same (wr.alloc (.cells #[.int .i64 t0, .int .i64 t1, .int .i64 t2, .int .i64 t3] 67)) wq3 := Kept.trans (hkwq2) hkk
        clear hkk
        have hS : Y6 wq3 := hSx _ hkwq3
        refine hK.out _ _ (fun _ => hS) ?_
        clear hK K
        try simp only [Act.put, sA, s0, sS]
        refine tkV 38 73 (.bool false) hS ?_
        refine tkV 39 74 (.bool false) hS ?_
        refine wpAnyV_done (by kernel_rfl) ?_
        go_wp2
        go_roundw
        case rel => exact ⟨k + 1, by omega, by go_num, fun i hi => (Nat.lt_succ_iff_lt_or_eq.1 hi).elim (HAL.out i) (fun e => e ▸ HOK.out), (HK.out.alloc _).trans hkwq3, (hb1.same hkwq3)⟩
        case measure => simp [intOf]; omega
  ·have HALT := (show Hid (∀ k, k < txn → atTxns txb k = true) from fun i hi => HAL.out i (by omega))
   go_wp2
   go_loopw [5, 6] (fun i _ wr => ∃ (k : Nat), k ≤ dyn ∧ i = .int .i64 k ∧ Hid (∀ j, j < k → atDirty dyb j = true) ∧ Hid (Same w wr) ∧ Hid (Blk wr w.heap.size 35 [.int .i64 kind, .int .i64 txn0, .int .i64 prev, .int .i64 page, .int .i64 slot, .bool beforeu, .slice beforea beforen beforec, .bool afteru, .slice aftera aftern afterc, .int .i64 uN, .int .i64 nT, .slice txa txn txc, .slice dya dyn dyc, .slice imagea imagen imagec])) (fun i _ _ => dyn - (intOf i).toNat)
   case atStart => exact ⟨0, Nat.zero_le _, rfl, fun j hj => absurd hj (by omega), HK, HB⟩
   case round =>
    clear HAL HK HB d0 d1 d2 d3 d4 d5 d6 d7 d8 d9 d10 d11 d12 d13 hk hlt
    obtain ⟨k, hk, rfl, HAL, HK, HB⟩ := hrel
    obtain ⟨d0, d1, d2, d3, d4, d5, d6, d7, d8, d9, d10, d11, d12, d13⟩ := HB.out.all14
    by_cases hlt : k < dyn
    ·obtain ⟨dyB, dyo, hdya, hdyle, hdyc⟩ := HdyF.out (by omega)
     subst hdya
     have q0 : wr.cell? ⟨dyB, dyo + k * 2, none⟩ = some (.int .i64 (dyb.getD (k * 2) 0)) := by have h := HK.out.cellOf (hdyc (k * 2) (by omega)) id; simpa only [Nat.add_assoc] using h
     have q1 : wr.cell? ⟨dyB, dyo + k * 2 + 1, none⟩ = some (.int .i64 (dyb.getD (k * 2 + 1) 0)) := by have h := HK.out.cellOf (hdyc (k * 2 + 1) (by omega)) id; simpa only [Nat.add_assoc] using h
     have HAT := (show Hid (atDirty dyb k = oneDirty (aheadDirty dyb k) (dyb.getD (k * 2) 0) (dyb.getD (k * 2 + 1) 0)) from rfl)
     have HPC := (show Hid (∀ j, k = j + 1 → wr.cell? ⟨dyB, dyo + j * 2, none⟩ = some (.int .i64 (aheadDirty dyb k))) from fun j hj => by subst hj; exact HK.out.cellOf (hdyc (j * 2) (by omega)) id)
     clear hdyc
     generalize dyb.getD (k * 2) 0 = t0 at *
     generalize dyb.getD (k * 2 + 1) 0 = t1 at *
     have hb1 := HB.out.alloc (.cells #[.int .i64 t0, .int .i64 t1] 69)
     have hb2 := Blk.new wr #[.int .i64 t0, .int .i64 t1] 69
     have hI0 := fun wx => l4In_any t0 0 15 wx
     have hI1 := fun wx => l4In_any t1 1 1099511627776 wx
     by_cases hk0 : k = 0
     ·have hkz : ¬ (0 : Int) < (k : Int) := by omega
      have hA : aheadDirty dyb k = -1 := by rw [hk0]; rfl
      rw [hA] at HAT
      clear HPC hk0
      cases hq0 : inB t0 0 15 with
      | false =>
       have HF := (show Hid (atDirty dyb k = false) from by rw [HAT.out]; unfold oneDirty; rw [isPageB_in t0, hq0]; simp only [Bool.false_and, Bool.and_false]; exact trivial)
       rw [hq0] at hI0
       go_wp2_with fail
       let Y16 : World → Prop := fun wx : World => wx.cell? ⟨w.heap.size, 12, none⟩ = some (.slice (some ⟨dyB, dyo, none⟩) dyn dyc) ∧ wx.cell? ⟨wr.heap.size, 0, none⟩ = some (.int .i64 t0) ∧ wx.cell? ⟨wr.heap.size, 1, none⟩ = some (.int .i64 t1)
       have hSx : ∀ wx, Same (wr.alloc (.cells #[.int .i64 t0, .int .i64 t1] 69)) wx → Y16 wx := fun wx h => ⟨(hb1.same h).cell 12, (hb2.same h).cell 0, (hb2.same h).cell 1⟩
       have hS : Y16 (wr.alloc (.cells #[.int .i64 t0, .int .i64 t1] 69)).drew := by exact hSx _ (Kept.refl _ _).drew
       refine wp_region_V Y16 99 26 rfl (by kernel_rfl) ?_
       refine tk 0 87 hS ?_
       refine tkV 1 88 (.bool false) hS ?_
       refine tkV 2 89 (.bool false) hS ?_
       refine tkS 3 90 hS ?_
       refine tkS 4 91 hS ?_
       refine tkS 5 92 hS ?_
       refine tkS 6 93 hS ?_
       refine tkS 7 94 hS ?_
       refine tkS 8 95 hS ?_
       refine tkS 9 96 hS ?_
       refine tkS 10 97 hS ?_
       refine tkS 11 98 hS ?_
       refine tkS 12 99 hS ?_
       refine tkV 13 100 (.bool false) hS ?_
       refine tkV 14 101 (.bool false) hS ?_
       refine tk 15 102 hS ?_
       refine tk 16 103 hS ?_
       refine wpAnyV_one (i := 17) (by kernel_rfl) rfl (fun K hK => ?_)
       go_simp
       have hc := hI0 ((wr.alloc (.cells #[.int .i64 t0, .int .i64 t1] 69)).drew)
       with_reducible refine hc.mono ?_
       clear hc
       rintro e wq0 ⟨rfl, hkk⟩
       have hkwq0 : Same (wr.alloc (.cells #[.int .i64 t0, .int .i64 t1] 69)) wq0 := Kept.trans ((Kept.refl _ _).drew) hkk
       clear hkk
       have hS : Y16 wq0 := hSx _ hkwq0
       refine hK.out _ _ (fun _ => hS) ?_
       clear hK K
       try simp only [Act.put, sA, s0, sS]
       refine tkV 18 105 (.bool true) hS ?_
       refine tkV 19 106 (.bool true) hS ?_
       refine tkV 20 107 (.bool true) hS ?_
       refine tkS 21 108 hS ?_
       refine tkS 22 109 hS ?_
       refine tkS 23 110 hS ?_
       refine tkS 24 111 hS ?_
       refine tkV 25 112 (.bool true) hS ?_
       refine wpAnyV_done (by kernel_rfl) ?_
       go_wp2
       go_ret
       exact ⟨by rw [HNO2.out k hlt HF.out]; rfl, (HK.out.alloc _).trans hkwq0⟩
      | true =>
       cases hq1 : inB t1 1 1099511627776 with
       | false =>
        have HF := (show Hid (atDirty dyb k = false) from by rw [HAT.out]; unfold oneDirty; rw [show (decide (1 ≤ t1) && decide (t1 ≤ 1099511627776)) = inB t1 1 1099511627776 from rfl, hq1]; simp only [Bool.false_and, Bool.and_false]; exact trivial)
        rw [hq0] at hI0
        rw [hq1] at hI1
        go_wp2_with fail
        let Y17 : World → Prop := fun wx : World => wx.cell? ⟨w.heap.size, 12, none⟩ = some (.slice (some ⟨dyB, dyo, none⟩) dyn dyc) ∧ wx.cell? ⟨wr.heap.size, 0, none⟩ = some (.int .i64 t0) ∧ wx.cell? ⟨wr.heap.size, 1, none⟩ = some (.int .i64 t1)
        have hSx : ∀ wx, Same (wr.alloc (.cells #[.int .i64 t0, .int .i64 t1] 69)) wx → Y17 wx := fun wx h => ⟨(hb1.same h).cell 12, (hb2.same h).cell 0, (hb2.same h).cell 1⟩
        have hS : Y17 (wr.alloc (.cells #[.int .i64 t0, .int .i64 t1] 69)).drew := by exact hSx _ (Kept.refl _ _).drew
        refine wp_region_V Y17 99 26 rfl (by kernel_rfl) ?_
        refine tk 0 87 hS ?_
        refine tkV 1 88 (.bool false) hS ?_
        refine tkV 2 89 (.bool false) hS ?_
        refine tkS 3 90 hS ?_
        refine tkS 4 91 hS ?_
        refine tkS 5 92 hS ?_
        refine tkS 6 93 hS ?_
        refine tkS 7 94 hS ?_
        refine tkS 8 95 hS ?_
        refine tkS 9 96 hS ?_
        refine tkS 10 97 hS ?_
        refine tkS 11 98 hS ?_
        refine tkS 12 99 hS ?_
        refine tkV 13 100 (.bool false) hS ?_
        refine tkV 14 101 (.bool false) hS ?_
        refine tk 15 102 hS ?_
        refine tk 16 103 hS ?_
        refine wpAnyV_one (i := 17) (by kernel_rfl) rfl (fun K hK => ?_)
        go_simp
        have hc := hI0 ((wr.alloc (.cells #[.int .i64 t0, .int .i64 t1] 69)).drew)
        with_reducible refine hc.mono ?_
        clear hc
        rintro e wq0 ⟨rfl, hkk⟩
        have hkwq0 : Same (wr.alloc (.cells #[.int .i64 t0, .int .i64 t1] 69)) wq0 := Kept.trans ((Kept.refl _ _).drew) hkk
        clear hkk
        have hS : Y17 wq0 := hSx _ hkwq0
        refine hK.out _ _ (fun _ => hS) ?_
        clear hK K
        try simp only [Act.put, sA, s0, sS]
        refine tkV 18 105 (.bool false) hS ?_
        refine tkV 19 106 (.bool false) hS ?_
        refine tkV 20 107 (.bool false) hS ?_
        refine tk 21 108 hS ?_
        refine tk 22 109 hS ?_
        refine wpAnyV_one (i := 23) (by kernel_rfl) rfl (fun K hK => ?_)
        go_simp
        have hc := hI1 (wq0)
        with_reducible refine hc.mono ?_
        clear hc
        rintro e wq1 ⟨rfl, hkk⟩
        have hkwq1 : Same (wr.alloc (.cells #[.int .i64 t0, .int .i64 t1] 69)) wq1 := Kept.trans (hkwq0) hkk
        clear hkk
        have hS : Y17 wq1 := hSx _ hkwq1
        refine hK.out _ _ (fun _ => hS) ?_
        clear hK K
        try simp only [Act.put, sA, s0, sS]
        refine tkV 24 111 (.bool true) hS ?_
        refine tkV 25 112 (.bool true) hS ?_
        refine wpAnyV_done (by kernel_rfl) ?_
        go_wp2
        go_ret
        exact ⟨by rw [HNO2.out k hlt HF.out]; rfl, (HK.out.alloc _).trans hkwq1⟩
       | true =>
        have HOK := (show Hid (atDirty dyb k = true) from by rw [HAT.out]; unfold oneDirty; rw [decide_eq_true (show -1 < t0 from by have h := hq0; simp [inB] at h; omega), isPageB_in t0, hq0, show (decide (1 ≤ t1) && decide (t1 ≤ 1099511627776)) = inB t1 1 1099511627776 from rfl, hq1]; simp only [Bool.and_true, Bool.and_self]; exact trivial)
        rw [hq0] at hI0
        rw [hq1] at hI1
        go_wp2_with fail
        let Y18 : World → Prop := fun wx : World => wx.cell? ⟨w.heap.size, 12, none⟩ = some (.slice (some ⟨dyB, dyo, none⟩) dyn dyc) ∧ wx.cell? ⟨wr.heap.size, 0, none⟩ = some (.int .i64 t0) ∧ wx.cell? ⟨wr.heap.size, 1, none⟩ = some (.int .i64 t1)
        have hSx : ∀ wx, Same (wr.alloc (.cells #[.int .i64 t0, .int .i64 t1] 69)) wx → Y18 wx := fun wx h => ⟨(hb1.same h).cell 12, (hb2.same h).cell 0, (hb2.same h).cell 1⟩
        have hS : Y18 (wr.alloc (.cells #[.int .i64 t0, .int .i64 t1] 69)).drew := by exact hSx _ (Kept.refl _ _).drew
        refine wp_region_V Y18 99 26 rfl (by kernel_rfl) ?_
        refine tk 0 87 hS ?_
        refine tkV 1 88 (.bool false) hS ?_
        refine tkV 2 89 (.bool false) hS ?_
        refine tkS 3 90 hS ?_
        refine tkS 4 91 hS ?_
        refine tkS 5 92 hS ?_
        refine tkS 6 93 hS ?_
        refine tkS 7 94 hS ?_
        refine tkS 8 95 hS ?_
        refine tkS 9 96 hS ?_
        refine tkS 10 97 hS ?_
        refine tkS 11 98 hS ?_
        refine tkS 12 99 hS ?_
        refine tkV 13 100 (.bool false) hS ?_
        refine tkV 14 101 (.bool false) hS ?_
        refine tk 15 102 hS ?_
        refine tk 16 103 hS ?_
        refine wpAnyV_one (i := 17) (by kernel_rfl) rfl (fun K hK => ?_)
        go_simp
        have hc := hI0 ((wr.alloc (.cells #[.int .i64 t0, .int .i64 t1] 69)).drew)
        with_reducible refine hc.mono ?_
        clear hc
        rintro e wq0 ⟨rfl, hkk⟩
        have hkwq0 : Same (wr.alloc (.cells #[.int .i64 t0, .int .i64 t1] 69)) wq0 := Kept.trans ((Kept.refl _ _).drew) hkk
        clear hkk
        have hS : Y18 wq0 := hSx _ hkwq0
        refine hK.out _ _ (fun _ => hS) ?_
        clear hK K
        try simp only [Act.put, sA, s0, sS]
        refine tkV 18 105 (.bool false) hS ?_
        refine tkV 19 106 (.bool false) hS ?_
        refine tkV 20 107 (.bool false) hS ?_
        refine tk 21 108 hS ?_
        refine tk 22 109 hS ?_
        refine wpAnyV_one (i := 23) (by kernel_rfl) rfl (fun K hK => ?_)
        go_simp
        have hc := hI1 (wq0)
        with_reducible refine hc.mono ?_
        clear hc
        rintro e wq1 ⟨rfl, hkk⟩
        have hkwq1 : Same (wr.alloc (.cells #[.int .i64 t0, .int .i64 t1] 69)) wq1 := Kept.trans (hkwq0) hkk
        clear hkk
        have hS : Y18 wq1 := hSx _ hkwq1
        refine hK.out _ _ (fun _ => hS) ?_
        clear hK K
        try simp only [Act.put, sA, s0, sS]
        refine tkV 24 111 (.bool false) hS ?_
        refine tkV 25 112 (.bool false) hS ?_
        refine wpAnyV_done (by kernel_rfl) ?_
        go_wp2
        go_roundw
        case rel => exact ⟨k + 1, by omega, by go_num, fun i hi => (Nat.lt_succ_iff_lt_or_eq.1 hi).elim (HAL.out i) (fun e => e ▸ HOK.out), (HK.out.alloc _).trans hkwq1, (hb1.same hkwq1)⟩
        case measure => simp [intOf]; omega
     ·obtain ⟨j, hj⟩ : ∃ j, k = j + 1 := ⟨k - 1, by omega⟩
      have qa := HPC.out j hj
      generalize aheadDirty dyb k = A at *
      have hkp : (0 : Int) < (k : Int) := by omega
      have hsub : IntKind.i64.wrap ((k : Int) - 1) = (j : Int) := by rw [show (k : Int) - 1 = (j : Int) from by omega]; exact wrap_nat j (by omega)
      have hjt : (j : Int) < dyn := by omega
      clear HPC hk0 hj
      by_cases hc : t0 ≤ A
      ·have HF := (show Hid (atDirty dyb k = false) from by rw [HAT.out]; unfold oneDirty; rw [decide_eq_false (show ¬ (A < t0) from by omega)]; simp only [Bool.false_and]; exact trivial)
       go_wp2_with fail
       let Y12 : World → Prop := fun wx : World => wx.cell? ⟨w.heap.size, 12, none⟩ = some (.slice (some ⟨dyB, dyo, none⟩) dyn dyc) ∧ wx.cell? ⟨wr.heap.size, 0, none⟩ = some (.int .i64 t0) ∧ wx.cell? ⟨wr.heap.size, 1, none⟩ = some (.int .i64 t1) ∧ wx.cell? ⟨dyB, dyo + j * 2, none⟩ = some (.int .i64 A)
       have hSx : ∀ wx, Same (wr.alloc (.cells #[.int .i64 t0, .int .i64 t1] 69)) wx → Y12 wx := fun wx h => ⟨(hb1.same h).cell 12, (hb2.same h).cell 0, (hb2.same h).cell 1, (((Kept.refl _ _).alloc _).trans h).cellOf qa id⟩
       have hS : Y12 (wr.alloc (.cells #[.int .i64 t0, .int .i64 t1] 69)).drew := by exact hSx _ (Kept.refl _ _).drew
       refine wp_region_V Y12 99 26 rfl (by kernel_rfl) ?_
       refine tk 0 87 hS ?_
       refine tkV 1 88 (.bool true) hS ?_
       refine tkV 2 89 (.bool true) hS ?_
       refine tk 3 90 hS ?_
       refine tk 4 91 hS ?_
       refine tk 5 92 hS ?_
       refine wpAnyV_take (i := 6) (v := .int .i64 (j : Int)) (some 93) rfl rfl (by kernel_rfl) (by kernel_rfl) (by kernel_rfl) (by kernel_rfl) (fun _ _ _ h => h) (Or.inl ⟨by rfl, fun w hSw => by (try dsimp (config := { zetaDelta := true }) only at hSw); go_simp⟩) hS ?_
       try simp only [Act.put, sA, s0, sS]
       refine tk 7 94 hS ?_
       refine tk 8 95 hS ?_
       refine tk 9 96 hS ?_
       refine tk 10 97 hS ?_
       refine tk 11 98 hS ?_
       refine tkV 12 99 (.bool true) hS ?_
       refine tkV 13 100 (.bool true) hS ?_
       refine tkV 14 101 (.bool true) hS ?_
       refine tkS 15 102 hS ?_
       refine tkS 16 103 hS ?_
       refine tkS 17 104 hS ?_
       refine tkS 18 105 hS ?_
       refine tkV 19 106 (.bool true) hS ?_
       refine tkV 20 107 (.bool true) hS ?_
       refine tkS 21 108 hS ?_
       refine tkS 22 109 hS ?_
       refine tkS 23 110 hS ?_
       refine tkS 24 111 hS ?_
       refine tkV 25 112 (.bool true) hS ?_
       refine wpAnyV_done (by kernel_rfl) ?_
       go_wp2
       go_ret
       exact ⟨by rw [HNO2.out k hlt HF.out]; rfl, (HK.out.alloc _).trans (Kept.refl _ _).drew⟩
      cases hq0 : inB t0 0 15 with
      | false =>
       have HF := (show Hid (atDirty dyb k = false) from by rw [HAT.out]; unfold oneDirty; rw [isPageB_in t0, hq0]; simp only [Bool.false_and, Bool.and_false]; exact trivial)
       rw [hq0] at hI0
       go_wp2_with fail
       let Y13 : World → Prop := fun wx : World => wx.cell? ⟨w.heap.size, 12, none⟩ = some (.slice (some ⟨dyB, dyo, none⟩) dyn dyc) ∧ wx.cell? ⟨wr.heap.size, 0, none⟩ = some (.int .i64 t0) ∧ wx.cell? ⟨wr.heap.size, 1, none⟩ = some (.int .i64 t1) ∧ wx.cell? ⟨dyB, dyo + j * 2, none⟩ = some (.int .i64 A)
       have hSx : ∀ wx, Same (wr.alloc (.cells #[.int .i64 t0, .int .i64 t1] 69)) wx → Y13 wx := fun wx h => ⟨(hb1.same h).cell 12, (hb2.same h).cell 0, (hb2.same h).cell 1, (((Kept.refl _ _).alloc _).trans h).cellOf qa id⟩
       have hS : Y13 (wr.alloc (.cells #[.int .i64 t0, .int .i64 t1] 69)).drew := by exact hSx _ (Kept.refl _ _).drew
       refine wp_region_V Y13 99 26 rfl (by kernel_rfl) ?_
       refine tk 0 87 hS ?_
       refine tkV 1 88 (.bool true) hS ?_
       refine tkV 2 89 (.bool true) hS ?_
       refine tk 3 90 hS ?_
       refine tk 4 91 hS ?_
       refine tk 5 92 hS ?_
       refine wpAnyV_take (i := 6) (v := .int .i64 (j : Int)) (some 93) rfl rfl (by kernel_rfl) (by kernel_rfl) (by kernel_rfl) (by kernel_rfl) (fun _ _ _ h => h) (Or.inl ⟨by rfl, fun w hSw => by (try dsimp (config := { zetaDelta := true }) only at hSw); go_simp⟩) hS ?_
       try simp only [Act.put, sA, s0, sS]
       refine tk 7 94 hS ?_
       refine tk 8 95 hS ?_
       refine tk 9 96 hS ?_
       refine tk 10 97 hS ?_
       refine tk 11 98 hS ?_
       refine tkV 12 99 (.bool false) hS ?_
       refine tkV 13 100 (.bool false) hS ?_
       refine tkV 14 101 (.bool false) hS ?_
       refine tk 15 102 hS ?_
       refine tk 16 103 hS ?_
       refine wpAnyV_one (i := 17) (by kernel_rfl) rfl (fun K hK => ?_)
       go_simp
       have hc := hI0 ((wr.alloc (.cells #[.int .i64 t0, .int .i64 t1] 69)).drew)
       with_reducible refine hc.mono ?_
       clear hc
       rintro e wq0 ⟨rfl, hkk⟩
       have hkwq0 : Same (wr.alloc (.cells #[.int .i64 t0, .int .i64 t1] 69)) wq0 := Kept.trans ((Kept.refl _ _).drew) hkk
       clear hkk
       have hS : Y13 wq0 := hSx _ hkwq0
       refine hK.out _ _ (fun _ => hS) ?_
       clear hK K
       try simp only [Act.put, sA, s0, sS]
       refine tkV 18 105 (.bool true) hS ?_
       refine tkV 19 106 (.bool true) hS ?_
       refine tkV 20 107 (.bool true) hS ?_
       refine tkS 21 108 hS ?_
       refine tkS 22 109 hS ?_
       refine tkS 23 110 hS ?_
       refine tkS 24 111 hS ?_
       refine tkV 25 112 (.bool true) hS ?_
       refine wpAnyV_done (by kernel_rfl) ?_
       go_wp2
       go_ret
       exact ⟨by rw [HNO2.out k hlt HF.out]; rfl, (HK.out.alloc _).trans hkwq0⟩
      | true =>
       cases hq1 : inB t1 1 1099511627776 with
       | false =>
        have HF := (show Hid (atDirty dyb k = false) from by rw [HAT.out]; unfold oneDirty; rw [show (decide (1 ≤ t1) && decide (t1 ≤ 1099511627776)) = inB t1 1 1099511627776 from rfl, hq1]; simp only [Bool.false_and, Bool.and_false]; exact trivial)
        rw [hq0] at hI0
        rw [hq1] at hI1
        go_wp2_with fail
        let Y14 : World → Prop := fun wx : World => wx.cell? ⟨w.heap.size, 12, none⟩ = some (.slice (some ⟨dyB, dyo, none⟩) dyn dyc) ∧ wx.cell? ⟨wr.heap.size, 0, none⟩ = some (.int .i64 t0) ∧ wx.cell? ⟨wr.heap.size, 1, none⟩ = some (.int .i64 t1) ∧ wx.cell? ⟨dyB, dyo + j * 2, none⟩ = some (.int .i64 A)
        have hSx : ∀ wx, Same (wr.alloc (.cells #[.int .i64 t0, .int .i64 t1] 69)) wx → Y14 wx := fun wx h => ⟨(hb1.same h).cell 12, (hb2.same h).cell 0, (hb2.same h).cell 1, (((Kept.refl _ _).alloc _).trans h).cellOf qa id⟩
        have hS : Y14 (wr.alloc (.cells #[.int .i64 t0, .int .i64 t1] 69)).drew := by exact hSx _ (Kept.refl _ _).drew
        refine wp_region_V Y14 99 26 rfl (by kernel_rfl) ?_
        refine tk 0 87 hS ?_
        refine tkV 1 88 (.bool true) hS ?_
        refine tkV 2 89 (.bool true) hS ?_
        refine tk 3 90 hS ?_
        refine tk 4 91 hS ?_
        refine tk 5 92 hS ?_
        refine wpAnyV_take (i := 6) (v := .int .i64 (j : Int)) (some 93) rfl rfl (by kernel_rfl) (by kernel_rfl) (by kernel_rfl) (by kernel_rfl) (fun _ _ _ h => h) (Or.inl ⟨by rfl, fun w hSw => by (try dsimp (config := { zetaDelta := true }) only at hSw); go_simp⟩) hS ?_
        try simp only [Act.put, sA, s0, sS]
        refine tk 7 94 hS ?_
        refine tk 8 95 hS ?_
        refine tk 9 96 hS ?_
        refine tk 10 97 hS ?_
        refine tk 11 98 hS ?_
        refine tkV 12 99 (.bool false) hS ?_
        refine tkV 13 100 (.bool false) hS ?_
        refine tkV 14 101 (.bool false) hS ?_
        refine tk 15 102 hS ?_
        refine tk 16 103 hS ?_
        refine wpAnyV_one (i := 17) (by kernel_rfl) rfl (fun K hK => ?_)
        go_simp
        have hc := hI0 ((wr.alloc (.cells #[.int .i64 t0, .int .i64 t1] 69)).drew)
        with_reducible refine hc.mono ?_
        clear hc
        rintro e wq0 ⟨rfl, hkk⟩
        have hkwq0 : Same (wr.alloc (.cells #[.int .i64 t0, .int .i64 t1] 69)) wq0 := Kept.trans ((Kept.refl _ _).drew) hkk
        clear hkk
        have hS : Y14 wq0 := hSx _ hkwq0
        refine hK.out _ _ (fun _ => hS) ?_
        clear hK K
        try simp only [Act.put, sA, s0, sS]
        refine tkV 18 105 (.bool false) hS ?_
        refine tkV 19 106 (.bool false) hS ?_
        refine tkV 20 107 (.bool false) hS ?_
        refine tk 21 108 hS ?_
        refine tk 22 109 hS ?_
        refine wpAnyV_one (i := 23) (by kernel_rfl) rfl (fun K hK => ?_)
        go_simp
        have hc := hI1 (wq0)
        with_reducible refine hc.mono ?_
        clear hc
        rintro e wq1 ⟨rfl, hkk⟩
        have hkwq1 : Same (wr.alloc (.cells #[.int .i64 t0, .int .i64 t1] 69)) wq1 := Kept.trans (hkwq0) hkk
        clear hkk
        have hS : Y14 wq1 := hSx _ hkwq1
        refine hK.out _ _ (fun _ => hS) ?_
        clear hK K
        try simp only [Act.put, sA, s0, sS]
        refine tkV 24 111 (.bool true) hS ?_
        refine tkV 25 112 (.bool true) hS ?_
        refine wpAnyV_done (by kernel_rfl) ?_
        go_wp2
        go_ret
        exact ⟨by rw [HNO2.out k hlt HF.out]; rfl, (HK.out.alloc _).trans hkwq1⟩
       | true =>
        have HOK := (show Hid (atDirty dyb k = true) from by rw [HAT.out]; unfold oneDirty; rw [decide_eq_true (show A < t0 from by omega), isPageB_in t0, hq0, show (decide (1 ≤ t1) && decide (t1 ≤ 1099511627776)) = inB t1 1 1099511627776 from rfl, hq1]; simp only [Bool.and_true, Bool.and_self]; exact trivial)
        rw [hq0] at hI0
        rw [hq1] at hI1
        go_wp2_with fail
        let Y15 : World → Prop := fun wx : World => wx.cell? ⟨w.heap.size, 12, none⟩ = some (.slice (some ⟨dyB, dyo, none⟩) dyn dyc) ∧ wx.cell? ⟨wr.heap.size, 0, none⟩ = some (.int .i64 t0) ∧ wx.cell? ⟨wr.heap.size, 1, none⟩ = some (.int .i64 t1) ∧ wx.cell? ⟨dyB, dyo + j * 2, none⟩ = some (.int .i64 A)
        have hSx : ∀ wx, Same (wr.alloc (.cells #[.int .i64 t0, .int .i64 t1] 69)) wx → Y15 wx := fun wx h => ⟨(hb1.same h).cell 12, (hb2.same h).cell 0, (hb2.same h).cell 1, (((Kept.refl _ _).alloc _).trans h).cellOf qa id⟩
        have hS : Y15 (wr.alloc (.cells #[.int .i64 t0, .int .i64 t1] 69)).drew := by exact hSx _ (Kept.refl _ _).drew
        refine wp_region_V Y15 99 26 rfl (by kernel_rfl) ?_
        refine tk 0 87 hS ?_
        refine tkV 1 88 (.bool true) hS ?_
        refine tkV 2 89 (.bool true) hS ?_
        refine tk 3 90 hS ?_
        refine tk 4 91 hS ?_
        refine tk 5 92 hS ?_
        refine wpAnyV_take (i := 6) (v := .int .i64 (j : Int)) (some 93) rfl rfl (by kernel_rfl) (by kernel_rfl) (by kernel_rfl) (by kernel_rfl) (fun _ _ _ h => h) (Or.inl ⟨by rfl, fun w hSw => by (try dsimp (config := { zetaDelta := true }) only at hSw); go_simp⟩) hS ?_
        try simp only [Act.put, sA, s0, sS]
        refine tk 7 94 hS ?_
        refine tk 8 95 hS ?_
        refine tk 9 96 hS ?_
        refine tk 10 97 hS ?_
        refine tk 11 98 hS ?_
        refine tkV 12 99 (.bool false) hS ?_
        refine tkV 13 100 (.bool false) hS ?_
        refine tkV 14 101 (.bool false) hS ?_
        refine tk 15 102 hS ?_
        refine tk 16 103 hS ?_
        refine wpAnyV_one (i := 17) (by kernel_rfl) rfl (fun K hK => ?_)
        go_simp
        have hc := hI0 ((wr.alloc (.cells #[.int .i64 t0, .int .i64 t1] 69)).drew)
        with_reducible refine hc.mono ?_
        clear hc
        rintro e wq0 ⟨rfl, hkk⟩
        have hkwq0 : Same (wr.alloc (.cells #[.int .i64 t0, .int .i64 t1] 69)) wq0 := Kept.trans ((Kept.refl _ _).drew) hkk
        clear hkk
        have hS : Y15 wq0 := hSx _ hkwq0
        refine hK.out _ _ (fun _ => hS) ?_
        clear hK K
        try simp only [Act.put, sA, s0, sS]
        refine tkV 18 105 (.bool false) hS ?_
        refine tkV 19 106 (.bool false) hS ?_
        refine tkV 20 107 (.bool false) hS ?_
        refine tk 21 108 hS ?_
        refine tk 22 109 hS ?_
        refine wpAnyV_one (i := 23) (by kernel_rfl) rfl (fun K hK => ?_)
        go_simp
        have hc := hI1 (wq0)
        with_reducible refine hc.mono ?_
        clear hc
        rintro e wq1 ⟨rfl, hkk⟩
        have hkwq1 : Same (wr.alloc (.cells #[.int .i64 t0, .int .i64 t1] 69)) wq1 := Kept.trans (hkwq0) hkk
        clear hkk
        have hS : Y15 wq1 := hSx _ hkwq1
        refine hK.out _ _ (fun _ => hS) ?_
        clear hK K
        try simp only [Act.put, sA, s0, sS]
        refine tkV 24 111 (.bool false) hS ?_
        refine tkV 25 112 (.bool false) hS ?_
        refine wpAnyV_done (by kernel_rfl) ?_
        go_wp2
        go_roundw
        case rel => exact ⟨k + 1, by omega, by go_num, fun i hi => (Nat.lt_succ_iff_lt_or_eq.1 hi).elim (HAL.out i) (fun e => e ▸ HOK.out), (HK.out.alloc _).trans hkwq1, (hb1.same hkwq1)⟩
        case measure => simp [intOf]; omega
    ·go_wp2
     go_ret
     exact ⟨by rw [HYES.out HALT.out (fun i hi => HAL.out i (by omega))]; rfl, HK.out⟩
end Go.Proofs.YtdgmecmkkddpeaaGreat
