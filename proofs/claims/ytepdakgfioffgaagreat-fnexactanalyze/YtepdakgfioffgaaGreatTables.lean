import Derived.Test.YtepdakgfioffgaaGreatG21
import Derived.Test.YtepdakgfioffgaaGreatG09
import Derived.Test.YtepdakgfioffgaaGreatG04
namespace Go.Proofs.YtepdakgfioffgaaGreat
set_option maxRecDepth 100000
set_option maxHeartbeats 16000000
set_option linter.unusedVariables false
set_option linter.unusedSimpArgs false
open Go.RowKit
theorem wrap_nat (j : Nat) (h : (j : Int) ≤ 1000) : IntKind.i64.wrap (j : Int) = (j : Int) := by
 simp [IntKind.wrap, IntKind.bits, IntKind.signed]
 omega
theorem isPageB_in (x : Int) : isPageB x = inB x 0 15 := by
 unfold isPageB inB
 rw [show decide (x < 16) = decide (x ≤ 15) from decide_eq_decide.2 (by omega)]
theorem l4Tables_any (kind qE prev page slot : Int) (af : Bool) (aj : Option Addr) (ah ag : Nat) (ay : Bool) (aB : Option Addr) (az aA : Nat) (uN nT : Int) (aE : Option Addr) (av aD : Nat) (tx dy : FR) (w : World) (hv : RdF 4 w tx) (Ff : RdF 2 w dy) :
  Calls Tryz.prog 46 #[.agg #[.int .i64 kind, .int .i64 qE, .int .i64 prev, .int .i64 page, .int .i64 slot, .bool af, .slice aj ah ag, .bool ay, .slice aB az aA, .int .i64 uN, .int .i64 nT, tx.v, dy.v, .slice aE av aD]] w fun e w' => e = .returned (.bool (inB nT 1 2147483648 && allTxns tx.bs tx.n && allDirty dy.bs dy.n)) ∧ Same w w' := by
 obtain ⟨lC, gN, fR⟩ := hv
 obtain ⟨Dz, DJ, tr⟩ := Ff
 obtain ⟨Ud, rb, txn, mM, jL⟩ := tx
 obtain ⟨Tk, qQ, dyn, nM, kw⟩ := dy
 dsimp only [FR.v] at *
 unfold maxLen at lC Dz
 have h1 := fun wx => l4In_any nT 1 2147483648 wx
 obtain ⟨bk, cv⟩ := new1 w [.int .i64 kind, .int .i64 qE, .int .i64 prev, .int .i64 page, .int .i64 slot, .bool af, .slice aj ah ag, .bool ay, .slice aB az aA, .int .i64 uN, .int .i64 nT, .slice rb txn mM, .slice qQ dyn nM, .slice aE av aD] 49
 have uz := (show Hid (txn ≠ 0 → ∃ b off, rb = some ⟨b, off, none⟩ ∧ txn ≤ mM ∧ ∀ i, i < txn * 4 → w.cell? ⟨b, off + i, none⟩ = some (.int .i64 (jL.getD i 0))) from fun h => fR.resolve_left h)
 have uK := (show Hid (dyn ≠ 0 → ∃ b off, qQ = some ⟨b, off, none⟩ ∧ dyn ≤ nM ∧ ∀ i, i < dyn * 2 → w.cell? ⟨b, off + i, none⟩ = some (.int .i64 (kw.getD i 0))) from fun h => tr.resolve_left h)
 clear fR tr gN DJ
 cases fX : inB nT 1 2147483648 with
 | false =>
  rw [fX] at h1
  simp only [Bool.false_and]
  clear uz uK
  go_enter Tryz.func46, Tryz.ntmps46
  go_wp2_with (go_at_call 16; refine (h1 _).mono ?_; rintro e w1 ⟨rfl, bg⟩)
  go_ret
  exact ⟨rfl, bk.out.trans bg⟩
 | true =>
 rw [fX] at h1
 simp only [Bool.true_and]
 have mZ : ∀ w1, Same (w.alloc (.cells #[.int .i64 kind, .int .i64 qE, .int .i64 prev, .int .i64 page, .int .i64 slot, .bool af, .slice aj ah ag, .bool ay, .slice aB az aA, .int .i64 uN, .int .i64 nT, .slice rb txn mM, .slice qQ dyn nM, .slice aE av aD] 49)) w1 → w1.cell? ⟨w.heap.size, 0, none⟩ = some (.int .i64 kind) ∧ w1.cell? ⟨w.heap.size, 1, none⟩ = some (.int .i64 qE) ∧ w1.cell? ⟨w.heap.size, 2, none⟩ = some (.int .i64 prev) ∧ w1.cell? ⟨w.heap.size, 3, none⟩ = some (.int .i64 page) ∧ w1.cell? ⟨w.heap.size, 4, none⟩ = some (.int .i64 slot) ∧ w1.cell? ⟨w.heap.size, 5, none⟩ = some (.bool af) ∧ w1.cell? ⟨w.heap.size, 6, none⟩ = some (.slice aj ah ag) ∧ w1.cell? ⟨w.heap.size, 7, none⟩ = some (.bool ay) ∧ w1.cell? ⟨w.heap.size, 8, none⟩ = some (.slice aB az aA) ∧ w1.cell? ⟨w.heap.size, 9, none⟩ = some (.int .i64 uN) ∧ w1.cell? ⟨w.heap.size, 10, none⟩ = some (.int .i64 nT) ∧ w1.cell? ⟨w.heap.size, 11, none⟩ = some (.slice rb txn mM) ∧ w1.cell? ⟨w.heap.size, 12, none⟩ = some (.slice qQ dyn nM) ∧ w1.cell? ⟨w.heap.size, 13, none⟩ = some (.slice aE av aD) := fun w1 h => ⟨(cv.out.same h).cell 0, (cv.out.same h).cell 1, (cv.out.same h).cell 2, (cv.out.same h).cell 3, (cv.out.same h).cell 4, (cv.out.same h).cell 5, (cv.out.same h).cell 6, (cv.out.same h).cell 7, (cv.out.same h).cell 8, (cv.out.same h).cell 9, (cv.out.same h).cell 10, (cv.out.same h).cell 11, (cv.out.same h).cell 12, (cv.out.same h).cell 13⟩
 by_cases h8 : (8 : Int) < txn
 ·have hR : (allTxns jL txn && allDirty kw dyn) = false := by unfold allTxns; rw [decide_eq_false (show ¬ txn ≤ 8 from by omega)]; simp only [Bool.false_and]
  rw [hR]
  clear uz uK hR
  go_enter Tryz.func46, Tryz.ntmps46
  go_wp2_with (go_at_call 16; refine (h1 _).mono ?_; rintro e w1 ⟨rfl, bg⟩; obtain ⟨c0, c1, c2, c3, c4, c5, c6, c7, c8, c9, c10, c11, c12, c13⟩ := mZ w1 bg)
  go_ret
  exact ⟨rfl, bk.out.trans bg⟩
 by_cases Lm : (16 : Int) < dyn
 ·have hR : (allTxns jL txn && allDirty kw dyn) = false := by unfold allDirty; rw [decide_eq_false (show ¬ dyn ≤ 16 from by omega)]; simp only [Bool.false_and, Bool.and_false]
  rw [hR]
  clear uz uK hR
  go_enter Tryz.func46, Tryz.ntmps46
  go_wp2_with (go_at_call 16; refine (h1 _).mono ?_; rintro e w1 ⟨rfl, bg⟩; obtain ⟨c0, c1, c2, c3, c4, c5, c6, c7, c8, c9, c10, c11, c12, c13⟩ := mZ w1 bg)
  go_ret
  exact ⟨rfl, bk.out.trans bg⟩
 have lL := (show Hid (∀ k, k < txn → atTxns jL k = false → (allTxns jL txn && allDirty kw dyn) = false) from fun k hk h => by rw [allTxns_no jL txn k hk h]; simp only [Bool.and_false, Bool.false_and])
 have tD := (show Hid (∀ k, k < dyn → atDirty kw k = false → (allTxns jL txn && allDirty kw dyn) = false) from fun k hk h => by rw [allDirty_no kw dyn k hk h]; simp only [Bool.and_false, Bool.false_and])
 have rT := (show Hid ((∀ k, k < txn → atTxns jL k = true) → (∀ k, k < dyn → atDirty kw k = true) → (allTxns jL txn && allDirty kw dyn) = true) from fun h h' => by rw [allTxns_yes jL txn (by omega) h, allDirty_yes kw dyn (by omega) h']; rfl)
 generalize (allTxns jL txn && allDirty kw dyn) = ql at *
 go_enter Tryz.func46, Tryz.ntmps46
 go_wp2_with fail
 refine (h1 _).mono ?_
 rintro e w1 ⟨rfl, bg⟩
 have bq := hid (bk.out.trans bg)
 have bG := hid (cv.out.same bg)
 clear bg
 obtain ⟨c0, c1, c2, c3, c4, c5, c6, c7, c8, c9, c10, c11, c12, c13⟩ := bG.out.all14
 go_wp2
 go_loopw [3, 4] (fun i _ wr => ∃ (k : Nat), k ≤ txn ∧ i = .int .i64 k ∧ Hid (∀ j, j < k → atTxns jL j = true) ∧ Hid (Same w wr) ∧ Hid (Blk wr w.heap.size 49 [.int .i64 kind, .int .i64 qE, .int .i64 prev, .int .i64 page, .int .i64 slot, .bool af, .slice aj ah ag, .bool ay, .slice aB az aA, .int .i64 uN, .int .i64 nT, .slice rb txn mM, .slice qQ dyn nM, .slice aE av aD])) (fun i _ _ => txn - (intOf i).toNat)
 case atStart => exact ⟨0, Nat.zero_le _, rfl, fun j hj => absurd hj (by omega), bq, bG⟩
 case round =>
  obtain ⟨k, hk, rfl, qj, HK, HB⟩ := hrel
  obtain ⟨d0, d1, d2, d3, d4, d5, d6, d7, d8, d9, eh, eo, er, ec⟩ := HB.out.all14
  by_cases dh : k < txn
  ·obtain ⟨txB, mW, Hj, Qw, qI⟩ := uz.out (by omega)
   subst Hj
   have q0 : wr.cell? ⟨txB, mW + k * 4, none⟩ = some (.int .i64 (jL.getD (k * 4) 0)) := by have h := HK.out.cellOf (qI (k * 4) (by omega)) id; simpa only [Nat.add_assoc] using h
   have q1 : wr.cell? ⟨txB, mW + k * 4 + 1, none⟩ = some (.int .i64 (jL.getD (k * 4 + 1) 0)) := by have h := HK.out.cellOf (qI (k * 4 + 1) (by omega)) id; simpa only [Nat.add_assoc] using h
   have q2 : wr.cell? ⟨txB, mW + k * 4 + 2, none⟩ = some (.int .i64 (jL.getD (k * 4 + 2) 0)) := by have h := HK.out.cellOf (qI (k * 4 + 2) (by omega)) id; simpa only [Nat.add_assoc] using h
   have q3 : wr.cell? ⟨txB, mW + k * 4 + 3, none⟩ = some (.int .i64 (jL.getD (k * 4 + 3) 0)) := by have h := HK.out.cellOf (qI (k * 4 + 3) (by omega)) id; simpa only [Nat.add_assoc] using h
   have i3 := (show Hid (atTxns jL k = oneTxns (aheadTxns jL k) (jL.getD (k * 4) 0) (jL.getD (k * 4 + 1) 0) (jL.getD (k * 4 + 2) 0) (jL.getD (k * 4 + 3) 0)) from rfl)
   have nY := (show Hid (∀ j, k = j + 1 → wr.cell? ⟨txB, mW + j * 4, none⟩ = some (.int .i64 (aheadTxns jL k))) from fun j hj => by subst hj; exact HK.out.cellOf (qI (j * 4) (by omega)) id)
   clear qI
   generalize jL.getD (k * 4) 0 = t0 at *
   generalize jL.getD (k * 4 + 1) 0 = t1 at *
   generalize jL.getD (k * 4 + 2) 0 = t2 at *
   generalize jL.getD (k * 4 + 3) 0 = t3 at *
   have fx := HB.out.alloc (.cells #[.int .i64 t0, .int .i64 t1, .int .i64 t2, .int .i64 t3] 57)
   have fW := Blk.new wr #[.int .i64 t0, .int .i64 t1, .int .i64 t2, .int .i64 t3] 57
   have ko := fun wx => l4In_any t0 1 2147483647 wx
   have lX := fun wx => l4In_any t1 1 3 wx
   have re := fun wx => l4In_any t2 1 1099511627776 wx
   have wI := fun wx => l4In_any t3 0 t2 wx
   by_cases ep : k = 0
   ·have lW : ¬ (0 : Int) < (k : Int) := by omega
    have hA : aheadTxns jL k = 0 := by rw [ep]; rfl
    rw [hA] at i3
    clear nY ep
    cases hq0 : inB t0 1 2147483647 with
    | false =>
     have HF := (show Hid (atTxns jL k = false) from by rw [i3.out]; unfold oneTxns; rw [show isTxnB t0 = inB t0 1 2147483647 from rfl, hq0]; simp only [Bool.false_and, Bool.and_false]; exact trivial)
     rw [hq0] at ko
     go_wp2_with fail
     let Y7 : World → Prop := fun wx : World => wx.cell? ⟨w.heap.size, 11, none⟩ = some (.slice (some ⟨txB, mW, none⟩) txn mM) ∧ wx.cell? ⟨wr.heap.size, 0, none⟩ = some (.int .i64 t0) ∧ wx.cell? ⟨wr.heap.size, 1, none⟩ = some (.int .i64 t1) ∧ wx.cell? ⟨wr.heap.size, 2, none⟩ = some (.int .i64 t2) ∧ wx.cell? ⟨wr.heap.size, 3, none⟩ = some (.int .i64 t3)
     have cI : ∀ wx, Same (wr.alloc (.cells #[.int .i64 t0, .int .i64 t1, .int .i64 t2, .int .i64 t3] 57)) wx → Y7 wx := fun wx h => ⟨(fx.same h).cell 11, (fW.same h).cell 0, (fW.same h).cell 1, (fW.same h).cell 2, (fW.same h).cell 3⟩
     have hS : Y7 (wr.alloc (.cells #[.int .i64 t0, .int .i64 t1, .int .i64 t2, .int .i64 t3] 57)).drew := by exact cI _ (Kept.refl _ _).drew
     refine wp_region_V Y7 99 40 rfl (by kernel_rfl) ?_
     refine tk 0 35 hS ?_
     refine tkV 1 36 (.bool false) hS ?_
     refine tkV 2 37 (.bool false) hS ?_
     refine tkS 3 38 hS ?_
     refine tkS 4 39 hS ?_
     refine tkS 5 40 hS ?_
     refine tkS 6 41 hS ?_
     refine tkS 7 42 hS ?_
     refine tkS 8 43 hS ?_
     refine tkS 9 44 hS ?_
     refine tkS 10 45 hS ?_
     refine tkS 11 46 hS ?_
     refine tkS 12 47 hS ?_
     refine tkV 13 48 (.bool false) hS ?_
     refine tkV 14 49 (.bool false) hS ?_
     refine tk 15 50 hS ?_
     refine tk 16 51 hS ?_
     refine wpAnyV_one (i := 17) (by kernel_rfl) rfl (fun K hK => ?_)
     go_simp
     have hc := ko ((wr.alloc (.cells #[.int .i64 t0, .int .i64 t1, .int .i64 t2, .int .i64 t3] 57)).drew)
     with_reducible refine hc.mono ?_
     clear hc
     rintro e iw ⟨rfl, bJ⟩
     have dN : Same (wr.alloc (.cells #[.int .i64 t0, .int .i64 t1, .int .i64 t2, .int .i64 t3] 57)) iw := Kept.trans ((Kept.refl _ _).drew) bJ
     clear bJ
     have hS : Y7 iw := cI _ dN
     refine hK.out _ _ (fun _ => hS) ?_
     clear hK K
     try simp only [Act.put, sA, s0, sS]
     refine tkV 18 53 (.bool true) hS ?_
     refine tkV 19 54 (.bool true) hS ?_
     refine tkV 20 55 (.bool true) hS ?_
     refine tkS 21 56 hS ?_
     refine tkS 22 57 hS ?_
     refine tkS 23 58 hS ?_
     refine tkS 24 59 hS ?_
     refine tkV 25 60 (.bool true) hS ?_
     refine tkV 26 61 (.bool true) hS ?_
     refine tkS 27 62 hS ?_
     refine tkS 28 63 hS ?_
     refine tkS 29 64 hS ?_
     refine tkS 30 65 hS ?_
     refine tkV 31 66 (.bool true) hS ?_
     refine tkV 32 67 (.bool true) hS ?_
     refine tkS 33 68 hS ?_
     refine tkS 34 69 hS ?_
     refine tkS 35 70 hS ?_
     refine tkS 36 71 hS ?_
     refine tkS 37 72 hS ?_
     refine tkS 38 73 hS ?_
     refine tkV 39 74 (.bool true) hS ?_
     refine wpAnyV_done (by kernel_rfl) ?_
     go_wp2
     go_ret
     exact ⟨by rw [lL.out k dh HF.out]; rfl, (HK.out.alloc _).trans dN⟩
    | true =>
     cases mf : inB t1 1 3 with
     | false =>
      have HF := (show Hid (atTxns jL k = false) from by rw [i3.out]; unfold oneTxns; rw [show (decide (1 ≤ t1) && decide (t1 ≤ 3)) = inB t1 1 3 from rfl, mf]; simp only [Bool.false_and, Bool.and_false]; exact trivial)
      rw [hq0] at ko
      rw [mf] at lX
      go_wp2_with fail
      let Y8 : World → Prop := fun wx : World => wx.cell? ⟨w.heap.size, 11, none⟩ = some (.slice (some ⟨txB, mW, none⟩) txn mM) ∧ wx.cell? ⟨wr.heap.size, 0, none⟩ = some (.int .i64 t0) ∧ wx.cell? ⟨wr.heap.size, 1, none⟩ = some (.int .i64 t1) ∧ wx.cell? ⟨wr.heap.size, 2, none⟩ = some (.int .i64 t2) ∧ wx.cell? ⟨wr.heap.size, 3, none⟩ = some (.int .i64 t3)
      have cI : ∀ wx, Same (wr.alloc (.cells #[.int .i64 t0, .int .i64 t1, .int .i64 t2, .int .i64 t3] 57)) wx → Y8 wx := fun wx h => ⟨(fx.same h).cell 11, (fW.same h).cell 0, (fW.same h).cell 1, (fW.same h).cell 2, (fW.same h).cell 3⟩
      have hS : Y8 (wr.alloc (.cells #[.int .i64 t0, .int .i64 t1, .int .i64 t2, .int .i64 t3] 57)).drew := by exact cI _ (Kept.refl _ _).drew
      refine wp_region_V Y8 99 40 rfl (by kernel_rfl) ?_
      refine tk 0 35 hS ?_
      refine tkV 1 36 (.bool false) hS ?_
      refine tkV 2 37 (.bool false) hS ?_
      refine tkS 3 38 hS ?_
      refine tkS 4 39 hS ?_
      refine tkS 5 40 hS ?_
      refine tkS 6 41 hS ?_
      refine tkS 7 42 hS ?_
      refine tkS 8 43 hS ?_
      refine tkS 9 44 hS ?_
      refine tkS 10 45 hS ?_
      refine tkS 11 46 hS ?_
      refine tkS 12 47 hS ?_
      refine tkV 13 48 (.bool false) hS ?_
      refine tkV 14 49 (.bool false) hS ?_
      refine tk 15 50 hS ?_
      refine tk 16 51 hS ?_
      refine wpAnyV_one (i := 17) (by kernel_rfl) rfl (fun K hK => ?_)
      go_simp
      have hc := ko ((wr.alloc (.cells #[.int .i64 t0, .int .i64 t1, .int .i64 t2, .int .i64 t3] 57)).drew)
      with_reducible refine hc.mono ?_
      clear hc
      rintro e iw ⟨rfl, bJ⟩
      have dN : Same (wr.alloc (.cells #[.int .i64 t0, .int .i64 t1, .int .i64 t2, .int .i64 t3] 57)) iw := Kept.trans ((Kept.refl _ _).drew) bJ
      clear bJ
      have hS : Y8 iw := cI _ dN
      refine hK.out _ _ (fun _ => hS) ?_
      clear hK K
      try simp only [Act.put, sA, s0, sS]
      refine tkV 18 53 (.bool false) hS ?_
      refine tkV 19 54 (.bool false) hS ?_
      refine tkV 20 55 (.bool false) hS ?_
      refine tk 21 56 hS ?_
      refine tk 22 57 hS ?_
      refine wpAnyV_one (i := 23) (by kernel_rfl) rfl (fun K hK => ?_)
      go_simp
      have hc := lX (iw)
      with_reducible refine hc.mono ?_
      clear hc
      rintro e jP ⟨rfl, bJ⟩
      have eA : Same (wr.alloc (.cells #[.int .i64 t0, .int .i64 t1, .int .i64 t2, .int .i64 t3] 57)) jP := Kept.trans (dN) bJ
      clear bJ
      have hS : Y8 jP := cI _ eA
      refine hK.out _ _ (fun _ => hS) ?_
      clear hK K
      try simp only [Act.put, sA, s0, sS]
      refine tkV 24 59 (.bool true) hS ?_
      refine tkV 25 60 (.bool true) hS ?_
      refine tkV 26 61 (.bool true) hS ?_
      refine tkS 27 62 hS ?_
      refine tkS 28 63 hS ?_
      refine tkS 29 64 hS ?_
      refine tkS 30 65 hS ?_
      refine tkV 31 66 (.bool true) hS ?_
      refine tkV 32 67 (.bool true) hS ?_
      refine tkS 33 68 hS ?_
      refine tkS 34 69 hS ?_
      refine tkS 35 70 hS ?_
      refine tkS 36 71 hS ?_
      refine tkS 37 72 hS ?_
      refine tkS 38 73 hS ?_
      refine tkV 39 74 (.bool true) hS ?_
      refine wpAnyV_done (by kernel_rfl) ?_
      go_wp2
      go_ret
      exact ⟨by rw [lL.out k dh HF.out]; rfl, (HK.out.alloc _).trans eA⟩
     | true =>
      cases qA : inB t2 1 1099511627776 with
      | false =>
       have HF := (show Hid (atTxns jL k = false) from by rw [i3.out]; unfold oneTxns; rw [show (decide (1 ≤ t2) && decide (t2 ≤ 1099511627776)) = inB t2 1 1099511627776 from rfl, qA]; simp only [Bool.false_and, Bool.and_false]; exact trivial)
       rw [hq0] at ko
       rw [mf] at lX
       rw [qA] at re
       go_wp2_with fail
       let Y9 : World → Prop := fun wx : World => wx.cell? ⟨w.heap.size, 11, none⟩ = some (.slice (some ⟨txB, mW, none⟩) txn mM) ∧ wx.cell? ⟨wr.heap.size, 0, none⟩ = some (.int .i64 t0) ∧ wx.cell? ⟨wr.heap.size, 1, none⟩ = some (.int .i64 t1) ∧ wx.cell? ⟨wr.heap.size, 2, none⟩ = some (.int .i64 t2) ∧ wx.cell? ⟨wr.heap.size, 3, none⟩ = some (.int .i64 t3)
       have cI : ∀ wx, Same (wr.alloc (.cells #[.int .i64 t0, .int .i64 t1, .int .i64 t2, .int .i64 t3] 57)) wx → Y9 wx := fun wx h => ⟨(fx.same h).cell 11, (fW.same h).cell 0, (fW.same h).cell 1, (fW.same h).cell 2, (fW.same h).cell 3⟩
       have hS : Y9 (wr.alloc (.cells #[.int .i64 t0, .int .i64 t1, .int .i64 t2, .int .i64 t3] 57)).drew := by exact cI _ (Kept.refl _ _).drew
       refine wp_region_V Y9 99 40 rfl (by kernel_rfl) ?_
       refine tk 0 35 hS ?_
       refine tkV 1 36 (.bool false) hS ?_
       refine tkV 2 37 (.bool false) hS ?_
       refine tkS 3 38 hS ?_
       refine tkS 4 39 hS ?_
       refine tkS 5 40 hS ?_
       refine tkS 6 41 hS ?_
       refine tkS 7 42 hS ?_
       refine tkS 8 43 hS ?_
       refine tkS 9 44 hS ?_
       refine tkS 10 45 hS ?_
       refine tkS 11 46 hS ?_
       refine tkS 12 47 hS ?_
       refine tkV 13 48 (.bool false) hS ?_
       refine tkV 14 49 (.bool false) hS ?_
       refine tk 15 50 hS ?_
       refine tk 16 51 hS ?_
       refine wpAnyV_one (i := 17) (by kernel_rfl) rfl (fun K hK => ?_)
       go_simp
       have hc := ko ((wr.alloc (.cells #[.int .i64 t0, .int .i64 t1, .int .i64 t2, .int .i64 t3] 57)).drew)
       with_reducible refine hc.mono ?_
       clear hc
       rintro e iw ⟨rfl, bJ⟩
       have dN : Same (wr.alloc (.cells #[.int .i64 t0, .int .i64 t1, .int .i64 t2, .int .i64 t3] 57)) iw := Kept.trans ((Kept.refl _ _).drew) bJ
       clear bJ
       have hS : Y9 iw := cI _ dN
       refine hK.out _ _ (fun _ => hS) ?_
       clear hK K
       try simp only [Act.put, sA, s0, sS]
       refine tkV 18 53 (.bool false) hS ?_
       refine tkV 19 54 (.bool false) hS ?_
       refine tkV 20 55 (.bool false) hS ?_
       refine tk 21 56 hS ?_
       refine tk 22 57 hS ?_
       refine wpAnyV_one (i := 23) (by kernel_rfl) rfl (fun K hK => ?_)
       go_simp
       have hc := lX (iw)
       with_reducible refine hc.mono ?_
       clear hc
       rintro e jP ⟨rfl, bJ⟩
       have eA : Same (wr.alloc (.cells #[.int .i64 t0, .int .i64 t1, .int .i64 t2, .int .i64 t3] 57)) jP := Kept.trans (dN) bJ
       clear bJ
       have hS : Y9 jP := cI _ eA
       refine hK.out _ _ (fun _ => hS) ?_
       clear hK K
       try simp only [Act.put, sA, s0, sS]
       refine tkV 24 59 (.bool false) hS ?_
       refine tkV 25 60 (.bool false) hS ?_
       refine tkV 26 61 (.bool false) hS ?_
       refine tk 27 62 hS ?_
       refine tk 28 63 hS ?_
       refine wpAnyV_one (i := 29) (by kernel_rfl) rfl (fun K hK => ?_)
       go_simp
       have hc := re (jP)
       with_reducible refine hc.mono ?_
       clear hc
       rintro e m6 ⟨rfl, bJ⟩
       have iS : Same (wr.alloc (.cells #[.int .i64 t0, .int .i64 t1, .int .i64 t2, .int .i64 t3] 57)) m6 := Kept.trans (eA) bJ
       clear bJ
       have hS : Y9 m6 := cI _ iS
       refine hK.out _ _ (fun _ => hS) ?_
       clear hK K
       try simp only [Act.put, sA, s0, sS]
       refine tkV 30 65 (.bool true) hS ?_
       refine tkV 31 66 (.bool true) hS ?_
       refine tkV 32 67 (.bool true) hS ?_
       refine tkS 33 68 hS ?_
       refine tkS 34 69 hS ?_
       refine tkS 35 70 hS ?_
       refine tkS 36 71 hS ?_
       refine tkS 37 72 hS ?_
       refine tkS 38 73 hS ?_
       refine tkV 39 74 (.bool true) hS ?_
       refine wpAnyV_done (by kernel_rfl) ?_
       go_wp2
       go_ret
       exact ⟨by rw [lL.out k dh HF.out]; rfl, (HK.out.alloc _).trans iS⟩
      | true =>
       cases rC : inB t3 0 t2 with
       | false =>
        have HF := (show Hid (atTxns jL k = false) from by rw [i3.out]; unfold oneTxns; rw [show (decide (0 ≤ t3) && decide (t3 ≤ t2)) = inB t3 0 t2 from rfl, rC]; simp only [Bool.false_and, Bool.and_false]; exact trivial)
        rw [hq0] at ko
        rw [mf] at lX
        rw [qA] at re
        rw [rC] at wI
        go_wp2_with fail
        let Y10 : World → Prop := fun wx : World => wx.cell? ⟨w.heap.size, 11, none⟩ = some (.slice (some ⟨txB, mW, none⟩) txn mM) ∧ wx.cell? ⟨wr.heap.size, 0, none⟩ = some (.int .i64 t0) ∧ wx.cell? ⟨wr.heap.size, 1, none⟩ = some (.int .i64 t1) ∧ wx.cell? ⟨wr.heap.size, 2, none⟩ = some (.int .i64 t2) ∧ wx.cell? ⟨wr.heap.size, 3, none⟩ = some (.int .i64 t3)
        have cI : ∀ wx, Same (wr.alloc (.cells #[.int .i64 t0, .int .i64 t1, .int .i64 t2, .int .i64 t3] 57)) wx → Y10 wx := fun wx h => ⟨(fx.same h).cell 11, (fW.same h).cell 0, (fW.same h).cell 1, (fW.same h).cell 2, (fW.same h).cell 3⟩
        have hS : Y10 (wr.alloc (.cells #[.int .i64 t0, .int .i64 t1, .int .i64 t2, .int .i64 t3] 57)).drew := by exact cI _ (Kept.refl _ _).drew
        refine wp_region_V Y10 99 40 rfl (by kernel_rfl) ?_
        refine tk 0 35 hS ?_
        refine tkV 1 36 (.bool false) hS ?_
        refine tkV 2 37 (.bool false) hS ?_
        refine tkS 3 38 hS ?_
        refine tkS 4 39 hS ?_
        refine tkS 5 40 hS ?_
        refine tkS 6 41 hS ?_
        refine tkS 7 42 hS ?_
        refine tkS 8 43 hS ?_
        refine tkS 9 44 hS ?_
        refine tkS 10 45 hS ?_
        refine tkS 11 46 hS ?_
        refine tkS 12 47 hS ?_
        refine tkV 13 48 (.bool false) hS ?_
        refine tkV 14 49 (.bool false) hS ?_
        refine tk 15 50 hS ?_
        refine tk 16 51 hS ?_
        refine wpAnyV_one (i := 17) (by kernel_rfl) rfl (fun K hK => ?_)
        go_simp
        have hc := ko ((wr.alloc (.cells #[.int .i64 t0, .int .i64 t1, .int .i64 t2, .int .i64 t3] 57)).drew)
        with_reducible refine hc.mono ?_
        clear hc
        rintro e iw ⟨rfl, bJ⟩
        have dN : Same (wr.alloc (.cells #[.int .i64 t0, .int .i64 t1, .int .i64 t2, .int .i64 t3] 57)) iw := Kept.trans ((Kept.refl _ _).drew) bJ
        clear bJ
        have hS : Y10 iw := cI _ dN
        refine hK.out _ _ (fun _ => hS) ?_
        clear hK K
        try simp only [Act.put, sA, s0, sS]
        refine tkV 18 53 (.bool false) hS ?_
        refine tkV 19 54 (.bool false) hS ?_
        refine tkV 20 55 (.bool false) hS ?_
        refine tk 21 56 hS ?_
        refine tk 22 57 hS ?_
        refine wpAnyV_one (i := 23) (by kernel_rfl) rfl (fun K hK => ?_)
        go_simp
        have hc := lX (iw)
        with_reducible refine hc.mono ?_
        clear hc
        rintro e jP ⟨rfl, bJ⟩
        have eA : Same (wr.alloc (.cells #[.int .i64 t0, .int .i64 t1, .int .i64 t2, .int .i64 t3] 57)) jP := Kept.trans (dN) bJ
        clear bJ
        have hS : Y10 jP := cI _ eA
        refine hK.out _ _ (fun _ => hS) ?_
        clear hK K
        try simp only [Act.put, sA, s0, sS]
        refine tkV 24 59 (.bool false) hS ?_
        refine tkV 25 60 (.bool false) hS ?_
        refine tkV 26 61 (.bool false) hS ?_
        refine tk 27 62 hS ?_
        refine tk 28 63 hS ?_
        refine wpAnyV_one (i := 29) (by kernel_rfl) rfl (fun K hK => ?_)
        go_simp
        have hc := re (jP)
        with_reducible refine hc.mono ?_
        clear hc
        rintro e m6 ⟨rfl, bJ⟩
        have iS : Same (wr.alloc (.cells #[.int .i64 t0, .int .i64 t1, .int .i64 t2, .int .i64 t3] 57)) m6 := Kept.trans (eA) bJ
        clear bJ
        have hS : Y10 m6 := cI _ iS
        refine hK.out _ _ (fun _ => hS) ?_
        clear hK K
        try simp only [Act.put, sA, s0, sS]
        refine tkV 30 65 (.bool false) hS ?_
        refine tkV 31 66 (.bool false) hS ?_
        refine tkV 32 67 (.bool false) hS ?_
        refine tk 33 68 hS ?_
        refine tk 34 69 hS ?_
        refine tk 35 70 hS ?_
        refine tk 36 71 hS ?_
        refine wpAnyV_one (i := 37) (by kernel_rfl) rfl (fun K hK => ?_)
        go_simp
        have hc := wI (m6)
        with_reducible refine hc.mono ?_
        clear hc
        rintro e sw ⟨rfl, bJ⟩
        have jN : Same (wr.alloc (.cells #[.int .i64 t0, .int .i64 t1, .int .i64 t2, .int .i64 t3] 57)) sw := Kept.trans (iS) bJ
        clear bJ
        have hS : Y10 sw := cI _ jN
        refine hK.out _ _ (fun _ => hS) ?_
        clear hK K
        try simp only [Act.put, sA, s0, sS]
        refine tkV 38 73 (.bool true) hS ?_
        refine tkV 39 74 (.bool true) hS ?_
        refine wpAnyV_done (by kernel_rfl) ?_
        go_wp2
        go_ret
        exact ⟨by rw [lL.out k dh HF.out]; rfl, (HK.out.alloc _).trans jN⟩
       | true =>
        have mU := (show Hid (atTxns jL k = true) from by rw [i3.out]; unfold oneTxns; rw [decide_eq_true (show 0 < t0 from by have h := hq0; simp [inB] at h; omega), show isTxnB t0 = inB t0 1 2147483647 from rfl, hq0, show (decide (1 ≤ t1) && decide (t1 ≤ 3)) = inB t1 1 3 from rfl, mf, show (decide (1 ≤ t2) && decide (t2 ≤ 1099511627776)) = inB t2 1 1099511627776 from rfl, qA, show (decide (0 ≤ t3) && decide (t3 ≤ t2)) = inB t3 0 t2 from rfl, rC]; simp only [Bool.and_true, Bool.and_self]; exact trivial)
        rw [hq0] at ko
        rw [mf] at lX
        rw [qA] at re
        rw [rC] at wI
        go_wp2_with fail
        let Y11 : World → Prop := fun wx : World => wx.cell? ⟨w.heap.size, 11, none⟩ = some (.slice (some ⟨txB, mW, none⟩) txn mM) ∧ wx.cell? ⟨wr.heap.size, 0, none⟩ = some (.int .i64 t0) ∧ wx.cell? ⟨wr.heap.size, 1, none⟩ = some (.int .i64 t1) ∧ wx.cell? ⟨wr.heap.size, 2, none⟩ = some (.int .i64 t2) ∧ wx.cell? ⟨wr.heap.size, 3, none⟩ = some (.int .i64 t3)
        have cI : ∀ wx, Same (wr.alloc (.cells #[.int .i64 t0, .int .i64 t1, .int .i64 t2, .int .i64 t3] 57)) wx → Y11 wx := fun wx h => ⟨(fx.same h).cell 11, (fW.same h).cell 0, (fW.same h).cell 1, (fW.same h).cell 2, (fW.same h).cell 3⟩
        have hS : Y11 (wr.alloc (.cells #[.int .i64 t0, .int .i64 t1, .int .i64 t2, .int .i64 t3] 57)).drew := by exact cI _ (Kept.refl _ _).drew
        refine wp_region_V Y11 99 40 rfl (by kernel_rfl) ?_
        refine tk 0 35 hS ?_
        refine tkV 1 36 (.bool false) hS ?_
        refine tkV 2 37 (.bool false) hS ?_
        refine tkS 3 38 hS ?_
        refine tkS 4 39 hS ?_
        refine tkS 5 40 hS ?_
        refine tkS 6 41 hS ?_
        refine tkS 7 42 hS ?_
        refine tkS 8 43 hS ?_
        refine tkS 9 44 hS ?_
        refine tkS 10 45 hS ?_
        refine tkS 11 46 hS ?_
        refine tkS 12 47 hS ?_
        refine tkV 13 48 (.bool false) hS ?_
        refine tkV 14 49 (.bool false) hS ?_
        refine tk 15 50 hS ?_
        refine tk 16 51 hS ?_
        refine wpAnyV_one (i := 17) (by kernel_rfl) rfl (fun K hK => ?_)
        go_simp
        have hc := ko ((wr.alloc (.cells #[.int .i64 t0, .int .i64 t1, .int .i64 t2, .int .i64 t3] 57)).drew)
        with_reducible refine hc.mono ?_
        clear hc
        rintro e iw ⟨rfl, bJ⟩
        have dN : Same (wr.alloc (.cells #[.int .i64 t0, .int .i64 t1, .int .i64 t2, .int .i64 t3] 57)) iw := Kept.trans ((Kept.refl _ _).drew) bJ
        clear bJ
        have hS : Y11 iw := cI _ dN
        refine hK.out _ _ (fun _ => hS) ?_
        clear hK K
        try simp only [Act.put, sA, s0, sS]
        refine tkV 18 53 (.bool false) hS ?_
        refine tkV 19 54 (.bool false) hS ?_
        refine tkV 20 55 (.bool false) hS ?_
        refine tk 21 56 hS ?_
        refine tk 22 57 hS ?_
        refine wpAnyV_one (i := 23) (by kernel_rfl) rfl (fun K hK => ?_)
        go_simp
        have hc := lX (iw)
        with_reducible refine hc.mono ?_
        clear hc
        rintro e jP ⟨rfl, bJ⟩
        have eA : Same (wr.alloc (.cells #[.int .i64 t0, .int .i64 t1, .int .i64 t2, .int .i64 t3] 57)) jP := Kept.trans (dN) bJ
        clear bJ
        have hS : Y11 jP := cI _ eA
        refine hK.out _ _ (fun _ => hS) ?_
        clear hK K
        try simp only [Act.put, sA, s0, sS]
        refine tkV 24 59 (.bool false) hS ?_
        refine tkV 25 60 (.bool false) hS ?_
        refine tkV 26 61 (.bool false) hS ?_
        refine tk 27 62 hS ?_
        refine tk 28 63 hS ?_
        refine wpAnyV_one (i := 29) (by kernel_rfl) rfl (fun K hK => ?_)
        go_simp
        have hc := re (jP)
        with_reducible refine hc.mono ?_
        clear hc
        rintro e m6 ⟨rfl, bJ⟩
        have iS : Same (wr.alloc (.cells #[.int .i64 t0, .int .i64 t1, .int .i64 t2, .int .i64 t3] 57)) m6 := Kept.trans (eA) bJ
        clear bJ
        have hS : Y11 m6 := cI _ iS
        refine hK.out _ _ (fun _ => hS) ?_
        clear hK K
        try simp only [Act.put, sA, s0, sS]
        refine tkV 30 65 (.bool false) hS ?_
        refine tkV 31 66 (.bool false) hS ?_
        refine tkV 32 67 (.bool false) hS ?_
        refine tk 33 68 hS ?_
        refine tk 34 69 hS ?_
        refine tk 35 70 hS ?_
        refine tk 36 71 hS ?_
        refine wpAnyV_one (i := 37) (by kernel_rfl) rfl (fun K hK => ?_)
        go_simp
        have hc := wI (m6)
        with_reducible refine hc.mono ?_
        clear hc
        rintro e sw ⟨rfl, bJ⟩
        have jN : Same (wr.alloc (.cells #[.int .i64 t0, .int .i64 t1, .int .i64 t2, .int .i64 t3] 57)) sw := Kept.trans (iS) bJ
        clear bJ
        have hS : Y11 sw := cI _ jN
        refine hK.out _ _ (fun _ => hS) ?_
        clear hK K
        try simp only [Act.put, sA, s0, sS]
        refine tkV 38 73 (.bool false) hS ?_
        refine tkV 39 74 (.bool false) hS ?_
        refine wpAnyV_done (by kernel_rfl) ?_
        go_wp2
        go_roundw
        case rel => exact ⟨k + 1, by omega, by go_num, fun i hi => (Nat.lt_succ_iff_lt_or_eq.1 hi).elim (qj.out i) (fun e => e ▸ mU.out), (HK.out.alloc _).trans jN, (fx.same jN)⟩
        case measure => simp [intOf]; omega
   ·obtain ⟨j, hj⟩ : ∃ j, k = j + 1 := ⟨k - 1, by omega⟩
    have qa := nY.out j hj
    generalize aheadTxns jL k = A at *
    have jy : (0 : Int) < (k : Int) := by omega
    have GB : IntKind.i64.wrap ((k : Int) - 1) = (j : Int) := by rw [show (k : Int) - 1 = (j : Int) from by omega]; exact wrap_nat j (by omega)
    have R8 : (j : Int) < txn := by omega
    clear nY ep hj
    by_cases hc : t0 ≤ A
    ·have HF := (show Hid (atTxns jL k = false) from by rw [i3.out]; unfold oneTxns; rw [decide_eq_false (show ¬ (A < t0) from by omega)]; simp only [Bool.false_and]; exact trivial)
     go_wp2_with fail
     let Y1 : World → Prop := fun wx : World => wx.cell? ⟨w.heap.size, 11, none⟩ = some (.slice (some ⟨txB, mW, none⟩) txn mM) ∧ wx.cell? ⟨wr.heap.size, 0, none⟩ = some (.int .i64 t0) ∧ wx.cell? ⟨wr.heap.size, 1, none⟩ = some (.int .i64 t1) ∧ wx.cell? ⟨wr.heap.size, 2, none⟩ = some (.int .i64 t2) ∧ wx.cell? ⟨wr.heap.size, 3, none⟩ = some (.int .i64 t3) ∧ wx.cell? ⟨txB, mW + j * 4, none⟩ = some (.int .i64 A)
     have cI : ∀ wx, Same (wr.alloc (.cells #[.int .i64 t0, .int .i64 t1, .int .i64 t2, .int .i64 t3] 57)) wx → Y1 wx := fun wx h => ⟨(fx.same h).cell 11, (fW.same h).cell 0, (fW.same h).cell 1, (fW.same h).cell 2, (fW.same h).cell 3, (((Kept.refl _ _).alloc _).trans h).cellOf qa id⟩
     have hS : Y1 (wr.alloc (.cells #[.int .i64 t0, .int .i64 t1, .int .i64 t2, .int .i64 t3] 57)).drew := by exact cI _ (Kept.refl _ _).drew
     refine wp_region_V Y1 99 40 rfl (by kernel_rfl) ?_
     refine tk 0 35 hS ?_
     refine tkV 1 36 (.bool true) hS ?_
     refine tkV 2 37 (.bool true) hS ?_
     refine tk 3 38 hS ?_
     refine tk 4 39 hS ?_
     refine tk 5 40 hS ?_
     refine wpAnyV_take (i := 6) (v := .int .i64 (j : Int)) (some 41) rfl rfl (by kernel_rfl) (by kernel_rfl) (by kernel_rfl) (by kernel_rfl) (fun _ _ _ h => h) (Or.inl ⟨by rfl, fun w lV => by (try dsimp (config := { zetaDelta := true }) only at lV); go_simp⟩) hS ?_
     try simp only [Act.put, sA, s0, sS]
     refine tk 7 42 hS ?_
     refine tk 8 43 hS ?_
     refine tk 9 44 hS ?_
     refine tk 10 45 hS ?_
     refine tk 11 46 hS ?_
     refine tkV 12 47 (.bool true) hS ?_
     refine tkV 13 48 (.bool true) hS ?_
     refine tkV 14 49 (.bool true) hS ?_
     refine tkS 15 50 hS ?_
     refine tkS 16 51 hS ?_
     refine tkS 17 52 hS ?_
     refine tkS 18 53 hS ?_
     refine tkV 19 54 (.bool true) hS ?_
     refine tkV 20 55 (.bool true) hS ?_
     refine tkS 21 56 hS ?_
     refine tkS 22 57 hS ?_
     refine tkS 23 58 hS ?_
     refine tkS 24 59 hS ?_
     refine tkV 25 60 (.bool true) hS ?_
     refine tkV 26 61 (.bool true) hS ?_
     refine tkS 27 62 hS ?_
     refine tkS 28 63 hS ?_
     refine tkS 29 64 hS ?_
     refine tkS 30 65 hS ?_
     refine tkV 31 66 (.bool true) hS ?_
     refine tkV 32 67 (.bool true) hS ?_
     refine tkS 33 68 hS ?_
     refine tkS 34 69 hS ?_
     refine tkS 35 70 hS ?_
     refine tkS 36 71 hS ?_
     refine tkS 37 72 hS ?_
     refine tkS 38 73 hS ?_
     refine tkV 39 74 (.bool true) hS ?_
     refine wpAnyV_done (by kernel_rfl) ?_
     go_wp2
     go_ret
     exact ⟨by rw [lL.out k dh HF.out]; rfl, (HK.out.alloc _).trans (Kept.refl _ _).drew⟩
    cases hq0 : inB t0 1 2147483647 with
    | false =>
     have HF := (show Hid (atTxns jL k = false) from by rw [i3.out]; unfold oneTxns; rw [show isTxnB t0 = inB t0 1 2147483647 from rfl, hq0]; simp only [Bool.false_and, Bool.and_false]; exact trivial)
     rw [hq0] at ko
     go_wp2_with fail
     let Y2 : World → Prop := fun wx : World => wx.cell? ⟨w.heap.size, 11, none⟩ = some (.slice (some ⟨txB, mW, none⟩) txn mM) ∧ wx.cell? ⟨wr.heap.size, 0, none⟩ = some (.int .i64 t0) ∧ wx.cell? ⟨wr.heap.size, 1, none⟩ = some (.int .i64 t1) ∧ wx.cell? ⟨wr.heap.size, 2, none⟩ = some (.int .i64 t2) ∧ wx.cell? ⟨wr.heap.size, 3, none⟩ = some (.int .i64 t3) ∧ wx.cell? ⟨txB, mW + j * 4, none⟩ = some (.int .i64 A)
     have cI : ∀ wx, Same (wr.alloc (.cells #[.int .i64 t0, .int .i64 t1, .int .i64 t2, .int .i64 t3] 57)) wx → Y2 wx := fun wx h => ⟨(fx.same h).cell 11, (fW.same h).cell 0, (fW.same h).cell 1, (fW.same h).cell 2, (fW.same h).cell 3, (((Kept.refl _ _).alloc _).trans h).cellOf qa id⟩
     have hS : Y2 (wr.alloc (.cells #[.int .i64 t0, .int .i64 t1, .int .i64 t2, .int .i64 t3] 57)).drew := by exact cI _ (Kept.refl _ _).drew
     refine wp_region_V Y2 99 40 rfl (by kernel_rfl) ?_
     refine tk 0 35 hS ?_
     refine tkV 1 36 (.bool true) hS ?_
     refine tkV 2 37 (.bool true) hS ?_
     refine tk 3 38 hS ?_
     refine tk 4 39 hS ?_
     refine tk 5 40 hS ?_
     refine wpAnyV_take (i := 6) (v := .int .i64 (j : Int)) (some 41) rfl rfl (by kernel_rfl) (by kernel_rfl) (by kernel_rfl) (by kernel_rfl) (fun _ _ _ h => h) (Or.inl ⟨by rfl, fun w lV => by (try dsimp (config := { zetaDelta := true }) only at lV); go_simp⟩) hS ?_
     try simp only [Act.put, sA, s0, sS]
     refine tk 7 42 hS ?_
     refine tk 8 43 hS ?_
     refine tk 9 44 hS ?_
     refine tk 10 45 hS ?_
     refine tk 11 46 hS ?_
     refine tkV 12 47 (.bool false) hS ?_
     refine tkV 13 48 (.bool false) hS ?_
     refine tkV 14 49 (.bool false) hS ?_
     refine tk 15 50 hS ?_
     refine tk 16 51 hS ?_
     refine wpAnyV_one (i := 17) (by kernel_rfl) rfl (fun K hK => ?_)
     go_simp
     have hc := ko ((wr.alloc (.cells #[.int .i64 t0, .int .i64 t1, .int .i64 t2, .int .i64 t3] 57)).drew)
     with_reducible refine hc.mono ?_
     clear hc
     rintro e iw ⟨rfl, bJ⟩
     have dN : Same (wr.alloc (.cells #[.int .i64 t0, .int .i64 t1, .int .i64 t2, .int .i64 t3] 57)) iw := Kept.trans ((Kept.refl _ _).drew) bJ
     clear bJ
     have hS : Y2 iw := cI _ dN
     refine hK.out _ _ (fun _ => hS) ?_
     clear hK K
     try simp only [Act.put, sA, s0, sS]
     refine tkV 18 53 (.bool true) hS ?_
     refine tkV 19 54 (.bool true) hS ?_
     refine tkV 20 55 (.bool true) hS ?_
     refine tkS 21 56 hS ?_
     refine tkS 22 57 hS ?_
     refine tkS 23 58 hS ?_
     refine tkS 24 59 hS ?_
     refine tkV 25 60 (.bool true) hS ?_
     refine tkV 26 61 (.bool true) hS ?_
     refine tkS 27 62 hS ?_
     refine tkS 28 63 hS ?_
     refine tkS 29 64 hS ?_
     refine tkS 30 65 hS ?_
     refine tkV 31 66 (.bool true) hS ?_
     refine tkV 32 67 (.bool true) hS ?_
     refine tkS 33 68 hS ?_
     refine tkS 34 69 hS ?_
     refine tkS 35 70 hS ?_
     refine tkS 36 71 hS ?_
     refine tkS 37 72 hS ?_
     refine tkS 38 73 hS ?_
     refine tkV 39 74 (.bool true) hS ?_
     refine wpAnyV_done (by kernel_rfl) ?_
     go_wp2
     go_ret
     exact ⟨by rw [lL.out k dh HF.out]; rfl, (HK.out.alloc _).trans dN⟩
    | true =>
     cases mf : inB t1 1 3 with
     | false =>
      have HF := (show Hid (atTxns jL k = false) from by rw [i3.out]; unfold oneTxns; rw [show (decide (1 ≤ t1) && decide (t1 ≤ 3)) = inB t1 1 3 from rfl, mf]; simp only [Bool.false_and, Bool.and_false]; exact trivial)
      rw [hq0] at ko
      rw [mf] at lX
      go_wp2_with fail
      let Y3 : World → Prop := fun wx : World => wx.cell? ⟨w.heap.size, 11, none⟩ = some (.slice (some ⟨txB, mW, none⟩) txn mM) ∧ wx.cell? ⟨wr.heap.size, 0, none⟩ = some (.int .i64 t0) ∧ wx.cell? ⟨wr.heap.size, 1, none⟩ = some (.int .i64 t1) ∧ wx.cell? ⟨wr.heap.size, 2, none⟩ = some (.int .i64 t2) ∧ wx.cell? ⟨wr.heap.size, 3, none⟩ = some (.int .i64 t3) ∧ wx.cell? ⟨txB, mW + j * 4, none⟩ = some (.int .i64 A)
      have cI : ∀ wx, Same (wr.alloc (.cells #[.int .i64 t0, .int .i64 t1, .int .i64 t2, .int .i64 t3] 57)) wx → Y3 wx := fun wx h => ⟨(fx.same h).cell 11, (fW.same h).cell 0, (fW.same h).cell 1, (fW.same h).cell 2, (fW.same h).cell 3, (((Kept.refl _ _).alloc _).trans h).cellOf qa id⟩
      have hS : Y3 (wr.alloc (.cells #[.int .i64 t0, .int .i64 t1, .int .i64 t2, .int .i64 t3] 57)).drew := by exact cI _ (Kept.refl _ _).drew
      refine wp_region_V Y3 99 40 rfl (by kernel_rfl) ?_
      refine tk 0 35 hS ?_
      refine tkV 1 36 (.bool true) hS ?_
      refine tkV 2 37 (.bool true) hS ?_
      refine tk 3 38 hS ?_
      refine tk 4 39 hS ?_
      refine tk 5 40 hS ?_
      refine wpAnyV_take (i := 6) (v := .int .i64 (j : Int)) (some 41) rfl rfl (by kernel_rfl) (by kernel_rfl) (by kernel_rfl) (by kernel_rfl) (fun _ _ _ h => h) (Or.inl ⟨by rfl, fun w lV => by (try dsimp (config := { zetaDelta := true }) only at lV); go_simp⟩) hS ?_
      try simp only [Act.put, sA, s0, sS]
      refine tk 7 42 hS ?_
      refine tk 8 43 hS ?_
      refine tk 9 44 hS ?_
      refine tk 10 45 hS ?_
      refine tk 11 46 hS ?_
      refine tkV 12 47 (.bool false) hS ?_
      refine tkV 13 48 (.bool false) hS ?_
      refine tkV 14 49 (.bool false) hS ?_
      refine tk 15 50 hS ?_
      refine tk 16 51 hS ?_
      refine wpAnyV_one (i := 17) (by kernel_rfl) rfl (fun K hK => ?_)
      go_simp
      have hc := ko ((wr.alloc (.cells #[.int .i64 t0, .int .i64 t1, .int .i64 t2, .int .i64 t3] 57)).drew)
      with_reducible refine hc.mono ?_
      clear hc
      rintro e iw ⟨rfl, bJ⟩
      have dN : Same (wr.alloc (.cells #[.int .i64 t0, .int .i64 t1, .int .i64 t2, .int .i64 t3] 57)) iw := Kept.trans ((Kept.refl _ _).drew) bJ
      clear bJ
      have hS : Y3 iw := cI _ dN
      refine hK.out _ _ (fun _ => hS) ?_
      clear hK K
      try simp only [Act.put, sA, s0, sS]
      refine tkV 18 53 (.bool false) hS ?_
      refine tkV 19 54 (.bool false) hS ?_
      refine tkV 20 55 (.bool false) hS ?_
      refine tk 21 56 hS ?_
      refine tk 22 57 hS ?_
      refine wpAnyV_one (i := 23) (by kernel_rfl) rfl (fun K hK => ?_)
      go_simp
      have hc := lX (iw)
      with_reducible refine hc.mono ?_
      clear hc
      rintro e jP ⟨rfl, bJ⟩
      have eA : Same (wr.alloc (.cells #[.int .i64 t0, .int .i64 t1, .int .i64 t2, .int .i64 t3] 57)) jP := Kept.trans (dN) bJ
      clear bJ
      have hS : Y3 jP := cI _ eA
      refine hK.out _ _ (fun _ => hS) ?_
      clear hK K
      try simp only [Act.put, sA, s0, sS]
      refine tkV 24 59 (.bool true) hS ?_
      refine tkV 25 60 (.bool true) hS ?_
      refine tkV 26 61 (.bool true) hS ?_
      refine tkS 27 62 hS ?_
      refine tkS 28 63 hS ?_
      refine tkS 29 64 hS ?_
      refine tkS 30 65 hS ?_
      refine tkV 31 66 (.bool true) hS ?_
      refine tkV 32 67 (.bool true) hS ?_
      refine tkS 33 68 hS ?_
      refine tkS 34 69 hS ?_
      refine tkS 35 70 hS ?_
      refine tkS 36 71 hS ?_
      refine tkS 37 72 hS ?_
      refine tkS 38 73 hS ?_
      refine tkV 39 74 (.bool true) hS ?_
      refine wpAnyV_done (by kernel_rfl) ?_
      go_wp2
      go_ret
      exact ⟨by rw [lL.out k dh HF.out]; rfl, (HK.out.alloc _).trans eA⟩
     | true =>
      cases qA : inB t2 1 1099511627776 with
      | false =>
       have HF := (show Hid (atTxns jL k = false) from by rw [i3.out]; unfold oneTxns; rw [show (decide (1 ≤ t2) && decide (t2 ≤ 1099511627776)) = inB t2 1 1099511627776 from rfl, qA]; simp only [Bool.false_and, Bool.and_false]; exact trivial)
       rw [hq0] at ko
       rw [mf] at lX
       rw [qA] at re
       go_wp2_with fail
       let Y4 : World → Prop := fun wx : World => wx.cell? ⟨w.heap.size, 11, none⟩ = some (.slice (some ⟨txB, mW, none⟩) txn mM) ∧ wx.cell? ⟨wr.heap.size, 0, none⟩ = some (.int .i64 t0) ∧ wx.cell? ⟨wr.heap.size, 1, none⟩ = some (.int .i64 t1) ∧ wx.cell? ⟨wr.heap.size, 2, none⟩ = some (.int .i64 t2) ∧ wx.cell? ⟨wr.heap.size, 3, none⟩ = some (.int .i64 t3) ∧ wx.cell? ⟨txB, mW + j * 4, none⟩ = some (.int .i64 A)
       have cI : ∀ wx, Same (wr.alloc (.cells #[.int .i64 t0, .int .i64 t1, .int .i64 t2, .int .i64 t3] 57)) wx → Y4 wx := fun wx h => ⟨(fx.same h).cell 11, (fW.same h).cell 0, (fW.same h).cell 1, (fW.same h).cell 2, (fW.same h).cell 3, (((Kept.refl _ _).alloc _).trans h).cellOf qa id⟩
       have hS : Y4 (wr.alloc (.cells #[.int .i64 t0, .int .i64 t1, .int .i64 t2, .int .i64 t3] 57)).drew := by exact cI _ (Kept.refl _ _).drew
       refine wp_region_V Y4 99 40 rfl (by kernel_rfl) ?_
       refine tk 0 35 hS ?_
       refine tkV 1 36 (.bool true) hS ?_
       refine tkV 2 37 (.bool true) hS ?_
       refine tk 3 38 hS ?_
       refine tk 4 39 hS ?_
       refine tk 5 40 hS ?_
       refine wpAnyV_take (i := 6) (v := .int .i64 (j : Int)) (some 41) rfl rfl (by kernel_rfl) (by kernel_rfl) (by kernel_rfl) (by kernel_rfl) (fun _ _ _ h => h) (Or.inl ⟨by rfl, fun w lV => by (try dsimp (config := { zetaDelta := true }) only at lV); go_simp⟩) hS ?_
       try simp only [Act.put, sA, s0, sS]
       refine tk 7 42 hS ?_
       refine tk 8 43 hS ?_
       refine tk 9 44 hS ?_
       refine tk 10 45 hS ?_
       refine tk 11 46 hS ?_
       refine tkV 12 47 (.bool false) hS ?_
       refine tkV 13 48 (.bool false) hS ?_
       refine tkV 14 49 (.bool false) hS ?_
       refine tk 15 50 hS ?_
       refine tk 16 51 hS ?_
       refine wpAnyV_one (i := 17) (by kernel_rfl) rfl (fun K hK => ?_)
       go_simp
       have hc := ko ((wr.alloc (.cells #[.int .i64 t0, .int .i64 t1, .int .i64 t2, .int .i64 t3] 57)).drew)
       with_reducible refine hc.mono ?_
       clear hc
       rintro e iw ⟨rfl, bJ⟩
       have dN : Same (wr.alloc (.cells #[.int .i64 t0, .int .i64 t1, .int .i64 t2, .int .i64 t3] 57)) iw := Kept.trans ((Kept.refl _ _).drew) bJ
       clear bJ
       have hS : Y4 iw := cI _ dN
       refine hK.out _ _ (fun _ => hS) ?_
       clear hK K
       try simp only [Act.put, sA, s0, sS]
       refine tkV 18 53 (.bool false) hS ?_
       refine tkV 19 54 (.bool false) hS ?_
       refine tkV 20 55 (.bool false) hS ?_
       refine tk 21 56 hS ?_
       refine tk 22 57 hS ?_
       refine wpAnyV_one (i := 23) (by kernel_rfl) rfl (fun K hK => ?_)
       go_simp
       have hc := lX (iw)
       with_reducible refine hc.mono ?_
       clear hc
       rintro e jP ⟨rfl, bJ⟩
       have eA : Same (wr.alloc (.cells #[.int .i64 t0, .int .i64 t1, .int .i64 t2, .int .i64 t3] 57)) jP := Kept.trans (dN) bJ
       clear bJ
       have hS : Y4 jP := cI _ eA
       refine hK.out _ _ (fun _ => hS) ?_
       clear hK K
       try simp only [Act.put, sA, s0, sS]
       refine tkV 24 59 (.bool false) hS ?_
       refine tkV 25 60 (.bool false) hS ?_
       refine tkV 26 61 (.bool false) hS ?_
       refine tk 27 62 hS ?_
       refine tk 28 63 hS ?_
       refine wpAnyV_one (i := 29) (by kernel_rfl) rfl (fun K hK => ?_)
       go_simp
       have hc := re (jP)
       with_reducible refine hc.mono ?_
       clear hc
       rintro e m6 ⟨rfl, bJ⟩
       have iS : Same (wr.alloc (.cells #[.int .i64 t0, .int .i64 t1, .int .i64 t2, .int .i64 t3] 57)) m6 := Kept.trans (eA) bJ
       clear bJ
       have hS : Y4 m6 := cI _ iS
       refine hK.out _ _ (fun _ => hS) ?_
       clear hK K
       try simp only [Act.put, sA, s0, sS]
       refine tkV 30 65 (.bool true) hS ?_
       refine tkV 31 66 (.bool true) hS ?_
       refine tkV 32 67 (.bool true) hS ?_
       refine tkS 33 68 hS ?_
       refine tkS 34 69 hS ?_
       refine tkS 35 70 hS ?_
       refine tkS 36 71 hS ?_
       refine tkS 37 72 hS ?_
       refine tkS 38 73 hS ?_
       refine tkV 39 74 (.bool true) hS ?_
       refine wpAnyV_done (by kernel_rfl) ?_
       go_wp2
       go_ret
       exact ⟨by rw [lL.out k dh HF.out]; rfl, (HK.out.alloc _).trans iS⟩
      | true =>
       cases rC : inB t3 0 t2 with
       | false =>
        have HF := (show Hid (atTxns jL k = false) from by rw [i3.out]; unfold oneTxns; rw [show (decide (0 ≤ t3) && decide (t3 ≤ t2)) = inB t3 0 t2 from rfl, rC]; simp only [Bool.false_and, Bool.and_false]; exact trivial)
        rw [hq0] at ko
        rw [mf] at lX
        rw [qA] at re
        rw [rC] at wI
        go_wp2_with fail
        let Y5 : World → Prop := fun wx : World => wx.cell? ⟨w.heap.size, 11, none⟩ = some (.slice (some ⟨txB, mW, none⟩) txn mM) ∧ wx.cell? ⟨wr.heap.size, 0, none⟩ = some (.int .i64 t0) ∧ wx.cell? ⟨wr.heap.size, 1, none⟩ = some (.int .i64 t1) ∧ wx.cell? ⟨wr.heap.size, 2, none⟩ = some (.int .i64 t2) ∧ wx.cell? ⟨wr.heap.size, 3, none⟩ = some (.int .i64 t3) ∧ wx.cell? ⟨txB, mW + j * 4, none⟩ = some (.int .i64 A)
        have cI : ∀ wx, Same (wr.alloc (.cells #[.int .i64 t0, .int .i64 t1, .int .i64 t2, .int .i64 t3] 57)) wx → Y5 wx := fun wx h => ⟨(fx.same h).cell 11, (fW.same h).cell 0, (fW.same h).cell 1, (fW.same h).cell 2, (fW.same h).cell 3, (((Kept.refl _ _).alloc _).trans h).cellOf qa id⟩
        have hS : Y5 (wr.alloc (.cells #[.int .i64 t0, .int .i64 t1, .int .i64 t2, .int .i64 t3] 57)).drew := by exact cI _ (Kept.refl _ _).drew
        refine wp_region_V Y5 99 40 rfl (by kernel_rfl) ?_
        refine tk 0 35 hS ?_
        refine tkV 1 36 (.bool true) hS ?_
        refine tkV 2 37 (.bool true) hS ?_
        refine tk 3 38 hS ?_
        refine tk 4 39 hS ?_
        refine tk 5 40 hS ?_
        refine wpAnyV_take (i := 6) (v := .int .i64 (j : Int)) (some 41) rfl rfl (by kernel_rfl) (by kernel_rfl) (by kernel_rfl) (by kernel_rfl) (fun _ _ _ h => h) (Or.inl ⟨by rfl, fun w lV => by (try dsimp (config := { zetaDelta := true }) only at lV); go_simp⟩) hS ?_
        try simp only [Act.put, sA, s0, sS]
        refine tk 7 42 hS ?_
        refine tk 8 43 hS ?_
        refine tk 9 44 hS ?_
        refine tk 10 45 hS ?_
        refine tk 11 46 hS ?_
        refine tkV 12 47 (.bool false) hS ?_
        refine tkV 13 48 (.bool false) hS ?_
        refine tkV 14 49 (.bool false) hS ?_
        refine tk 15 50 hS ?_
        refine tk 16 51 hS ?_
        refine wpAnyV_one (i := 17) (by kernel_rfl) rfl (fun K hK => ?_)
        go_simp
        have hc := ko ((wr.alloc (.cells #[.int .i64 t0, .int .i64 t1, .int .i64 t2, .int .i64 t3] 57)).drew)
        with_reducible refine hc.mono ?_
        clear hc
        rintro e iw ⟨rfl, bJ⟩
        have dN : Same (wr.alloc (.cells #[.int .i64 t0, .int .i64 t1, .int .i64 t2, .int .i64 t3] 57)) iw := Kept.trans ((Kept.refl _ _).drew) bJ
        clear bJ
        have hS : Y5 iw := cI _ dN
        refine hK.out _ _ (fun _ => hS) ?_
        clear hK K
        try simp only [Act.put, sA, s0, sS]
        refine tkV 18 53 (.bool false) hS ?_
        refine tkV 19 54 (.bool false) hS ?_
        refine tkV 20 55 (.bool false) hS ?_
        refine tk 21 56 hS ?_
        refine tk 22 57 hS ?_
        refine wpAnyV_one (i := 23) (by kernel_rfl) rfl (fun K hK => ?_)
        go_simp
        have hc := lX (iw)
        with_reducible refine hc.mono ?_
        clear hc
        rintro e jP ⟨rfl, bJ⟩
        have eA : Same (wr.alloc (.cells #[.int .i64 t0, .int .i64 t1, .int .i64 t2, .int .i64 t3] 57)) jP := Kept.trans (dN) bJ
        clear bJ
        have hS : Y5 jP := cI _ eA
        refine hK.out _ _ (fun _ => hS) ?_
        clear hK K
        try simp only [Act.put, sA, s0, sS]
        refine tkV 24 59 (.bool false) hS ?_
        refine tkV 25 60 (.bool false) hS ?_
        refine tkV 26 61 (.bool false) hS ?_
        refine tk 27 62 hS ?_
        refine tk 28 63 hS ?_
        refine wpAnyV_one (i := 29) (by kernel_rfl) rfl (fun K hK => ?_)
        go_simp
        have hc := re (jP)
        with_reducible refine hc.mono ?_
        clear hc
        rintro e m6 ⟨rfl, bJ⟩
        have iS : Same (wr.alloc (.cells #[.int .i64 t0, .int .i64 t1, .int .i64 t2, .int .i64 t3] 57)) m6 := Kept.trans (eA) bJ
        clear bJ
        have hS : Y5 m6 := cI _ iS
        refine hK.out _ _ (fun _ => hS) ?_
        clear hK K
        try simp only [Act.put, sA, s0, sS]
        refine tkV 30 65 (.bool false) hS ?_
        refine tkV 31 66 (.bool false) hS ?_
        refine tkV 32 67 (.bool false) hS ?_
        refine tk 33 68 hS ?_
        refine tk 34 69 hS ?_
        refine tk 35 70 hS ?_
        refine tk 36 71 hS ?_
        refine wpAnyV_one (i := 37) (by kernel_rfl) rfl (fun K hK => ?_)
        go_simp
        have hc := wI (m6)
        with_reducible refine hc.mono ?_
        clear hc
        rintro e sw ⟨rfl, bJ⟩
        have jN : Same (wr.alloc (.cells #[.int .i64 t0, .int .i64 t1, .int .i64 t2, .int .i64 t3] 57)) sw := Kept.trans (iS) bJ
        clear bJ
        have hS : Y5 sw := cI _ jN
        refine hK.out _ _ (fun _ => hS) ?_
        clear hK K
        try simp only [Act.put, sA, s0, sS]
        refine tkV 38 73 (.bool true) hS ?_
        refine tkV 39 74 (.bool true) hS ?_
        refine wpAnyV_done (by kernel_rfl) ?_
        go_wp2
        go_ret
        exact ⟨by rw [lL.out k dh HF.out]; rfl, (HK.out.alloc _).trans jN⟩
       | true =>
        have mU := (show Hid (atTxns jL k = true) from by rw [i3.out]; unfold oneTxns; rw [decide_eq_true (show A < t0 from by omega), show isTxnB t0 = inB t0 1 2147483647 from rfl, hq0, show (decide (1 ≤ t1) && decide (t1 ≤ 3)) = inB t1 1 3 from rfl, mf, show (decide (1 ≤ t2) && decide (t2 ≤ 1099511627776)) = inB t2 1 1099511627776 from rfl, qA, show (decide (0 ≤ t3) && decide (t3 ≤ t2)) = inB t3 0 t2 from rfl, rC]; simp only [Bool.and_true, Bool.and_self]; exact trivial)
        rw [hq0] at ko
        rw [mf] at lX
        rw [qA] at re
        rw [rC] at wI
        go_wp2_with fail
        let Y6 : World → Prop := fun wx : World => wx.cell? ⟨w.heap.size, 11, none⟩ = some (.slice (some ⟨txB, mW, none⟩) txn mM) ∧ wx.cell? ⟨wr.heap.size, 0, none⟩ = some (.int .i64 t0) ∧ wx.cell? ⟨wr.heap.size, 1, none⟩ = some (.int .i64 t1) ∧ wx.cell? ⟨wr.heap.size, 2, none⟩ = some (.int .i64 t2) ∧ wx.cell? ⟨wr.heap.size, 3, none⟩ = some (.int .i64 t3) ∧ wx.cell? ⟨txB, mW + j * 4, none⟩ = some (.int .i64 A)
        have cI : ∀ wx, Same (wr.alloc (.cells #[.int .i64 t0, .int .i64 t1, .int .i64 t2, .int .i64 t3] 57)) wx → Y6 wx := fun wx h => ⟨(fx.same h).cell 11, (fW.same h).cell 0, (fW.same h).cell 1, (fW.same h).cell 2, (fW.same h).cell 3, (((Kept.refl _ _).alloc _).trans h).cellOf qa id⟩
        have hS : Y6 (wr.alloc (.cells #[.int .i64 t0, .int .i64 t1, .int .i64 t2, .int .i64 t3] 57)).drew := by exact cI _ (Kept.refl _ _).drew
        refine wp_region_V Y6 99 40 rfl (by kernel_rfl) ?_
        refine tk 0 35 hS ?_
        refine tkV 1 36 (.bool true) hS ?_
        refine tkV 2 37 (.bool true) hS ?_
        refine tk 3 38 hS ?_
        refine tk 4 39 hS ?_
        refine tk 5 40 hS ?_
        refine wpAnyV_take (i := 6) (v := .int .i64 (j : Int)) (some 41) rfl rfl (by kernel_rfl) (by kernel_rfl) (by kernel_rfl) (by kernel_rfl) (fun _ _ _ h => h) (Or.inl ⟨by rfl, fun w lV => by (try dsimp (config := { zetaDelta := true }) only at lV); go_simp⟩) hS ?_
        try simp only [Act.put, sA, s0, sS]
        refine tk 7 42 hS ?_
        refine tk 8 43 hS ?_
        refine tk 9 44 hS ?_
        refine tk 10 45 hS ?_
        refine tk 11 46 hS ?_
        refine tkV 12 47 (.bool false) hS ?_
        refine tkV 13 48 (.bool false) hS ?_
        refine tkV 14 49 (.bool false) hS ?_
        refine tk 15 50 hS ?_
        refine tk 16 51 hS ?_
        refine wpAnyV_one (i := 17) (by kernel_rfl) rfl (fun K hK => ?_)
        go_simp
        have hc := ko ((wr.alloc (.cells #[.int .i64 t0, .int .i64 t1, .int .i64 t2, .int .i64 t3] 57)).drew)
        with_reducible refine hc.mono ?_
        clear hc
        rintro e iw ⟨rfl, bJ⟩
        have dN : Same (wr.alloc (.cells #[.int .i64 t0, .int .i64 t1, .int .i64 t2, .int .i64 t3] 57)) iw := Kept.trans ((Kept.refl _ _).drew) bJ
        clear bJ
        have hS : Y6 iw := cI _ dN
        refine hK.out _ _ (fun _ => hS) ?_
        clear hK K
        try simp only [Act.put, sA, s0, sS]
        refine tkV 18 53 (.bool false) hS ?_
        refine tkV 19 54 (.bool false) hS ?_
        refine tkV 20 55 (.bool false) hS ?_
        refine tk 21 56 hS ?_
        refine tk 22 57 hS ?_
        refine wpAnyV_one (i := 23) (by kernel_rfl) rfl (fun K hK => ?_)
        go_simp
        have hc := lX (iw)
        with_reducible refine hc.mono ?_
        clear hc
        rintro e jP ⟨rfl, bJ⟩
        have eA : Same (wr.alloc (.cells #[.int .i64 t0, .int .i64 t1, .int .i64 t2, .int .i64 t3] 57)) jP := Kept.trans (dN) bJ
        clear bJ
        have hS : Y6 jP := cI _ eA
        refine hK.out _ _ (fun _ => hS) ?_
        clear hK K
        try simp only [Act.put, sA, s0, sS]
        refine tkV 24 59 (.bool false) hS ?_
        refine tkV 25 60 (.bool false) hS ?_
        refine tkV 26 61 (.bool false) hS ?_
        refine tk 27 62 hS ?_
        refine tk 28 63 hS ?_
        refine wpAnyV_one (i := 29) (by kernel_rfl) rfl (fun K hK => ?_)
        go_simp
        have hc := re (jP)
        with_reducible refine hc.mono ?_
        clear hc
        rintro e m6 ⟨rfl, bJ⟩
        have iS : Same (wr.alloc (.cells #[.int .i64 t0, .int .i64 t1, .int .i64 t2, .int .i64 t3] 57)) m6 := Kept.trans (eA) bJ
        clear bJ
        have hS : Y6 m6 := cI _ iS
        refine hK.out _ _ (fun _ => hS) ?_
        clear hK K
        try simp only [Act.put, sA, s0, sS]
        refine tkV 30 65 (.bool false) hS ?_
        refine tkV 31 66 (.bool false) hS ?_
        refine tkV 32 67 (.bool false) hS ?_
        refine tk 33 68 hS ?_
        refine tk 34 69 hS ?_
        refine tk 35 70 hS ?_
        refine tk 36 71 hS ?_
        refine wpAnyV_one (i := 37) (by kernel_rfl) rfl (fun K hK => ?_)
        go_simp
        have hc := wI (m6)
        with_reducible refine hc.mono ?_
        clear hc
        rintro e sw ⟨rfl, bJ⟩
        have jN : Same (wr.alloc (.cells #[.int .i64 t0, .int .i64 t1, .int .i64 t2, .int .i64 t3] 57)) sw := Kept.trans (iS) bJ
        clear bJ
        have hS : Y6 sw := cI _ jN
        refine hK.out _ _ (fun _ => hS) ?_
        clear hK K
        try simp only [Act.put, sA, s0, sS]
        refine tkV 38 73 (.bool false) hS ?_
        refine tkV 39 74 (.bool false) hS ?_
        refine wpAnyV_done (by kernel_rfl) ?_
        go_wp2
        go_roundw
        case rel => exact ⟨k + 1, by omega, by go_num, fun i hi => (Nat.lt_succ_iff_lt_or_eq.1 hi).elim (qj.out i) (fun e => e ▸ mU.out), (HK.out.alloc _).trans jN, (fx.same jN)⟩
        case measure => simp [intOf]; omega
  ·have JW := (show Hid (∀ k, k < txn → atTxns jL k = true) from fun i hi => qj.out i (by omega))
   go_wp2
   go_loopw [5, 6] (fun i _ wr => ∃ (k : Nat), k ≤ dyn ∧ i = .int .i64 k ∧ Hid (∀ j, j < k → atDirty kw j = true) ∧ Hid (Same w wr) ∧ Hid (Blk wr w.heap.size 49 [.int .i64 kind, .int .i64 qE, .int .i64 prev, .int .i64 page, .int .i64 slot, .bool af, .slice aj ah ag, .bool ay, .slice aB az aA, .int .i64 uN, .int .i64 nT, .slice rb txn mM, .slice qQ dyn nM, .slice aE av aD])) (fun i _ _ => dyn - (intOf i).toNat)
   case atStart => exact ⟨0, Nat.zero_le _, rfl, fun j hj => absurd hj (by omega), HK, HB⟩
   case round =>
    clear qj HK HB d0 d1 d2 d3 d4 d5 d6 d7 d8 d9 eh eo er ec hk dh
    obtain ⟨k, hk, rfl, qj, HK, HB⟩ := hrel
    obtain ⟨d0, d1, d2, d3, d4, d5, d6, d7, d8, d9, eh, eo, er, ec⟩ := HB.out.all14
    by_cases dh : k < dyn
    ·obtain ⟨qi, qc, GX, Ps, us⟩ := uK.out (by omega)
     subst GX
     have q0 : wr.cell? ⟨qi, qc + k * 2, none⟩ = some (.int .i64 (kw.getD (k * 2) 0)) := by have h := HK.out.cellOf (us (k * 2) (by omega)) id; simpa only [Nat.add_assoc] using h
     have q1 : wr.cell? ⟨qi, qc + k * 2 + 1, none⟩ = some (.int .i64 (kw.getD (k * 2 + 1) 0)) := by have h := HK.out.cellOf (us (k * 2 + 1) (by omega)) id; simpa only [Nat.add_assoc] using h
     have i3 := (show Hid (atDirty kw k = oneDirty (aheadDirty kw k) (kw.getD (k * 2) 0) (kw.getD (k * 2 + 1) 0)) from rfl)
     have nY := (show Hid (∀ j, k = j + 1 → wr.cell? ⟨qi, qc + j * 2, none⟩ = some (.int .i64 (aheadDirty kw k))) from fun j hj => by subst hj; exact HK.out.cellOf (us (j * 2) (by omega)) id)
     clear us
     generalize kw.getD (k * 2) 0 = t0 at *
     generalize kw.getD (k * 2 + 1) 0 = t1 at *
     have fx := HB.out.alloc (.cells #[.int .i64 t0, .int .i64 t1] 60)
     have fW := Blk.new wr #[.int .i64 t0, .int .i64 t1] 60
     have ko := fun wx => l4In_any t0 0 15 wx
     have lX := fun wx => l4In_any t1 1 1099511627776 wx
     by_cases ep : k = 0
     ·have lW : ¬ (0 : Int) < (k : Int) := by omega
      have hA : aheadDirty kw k = -1 := by rw [ep]; rfl
      rw [hA] at i3
      clear nY ep
      cases hq0 : inB t0 0 15 with
      | false =>
       have HF := (show Hid (atDirty kw k = false) from by rw [i3.out]; unfold oneDirty; rw [isPageB_in t0, hq0]; simp only [Bool.false_and, Bool.and_false]; exact trivial)
       rw [hq0] at ko
       go_wp2_with fail
       let Y16 : World → Prop := fun wx : World => wx.cell? ⟨w.heap.size, 12, none⟩ = some (.slice (some ⟨qi, qc, none⟩) dyn nM) ∧ wx.cell? ⟨wr.heap.size, 0, none⟩ = some (.int .i64 t0) ∧ wx.cell? ⟨wr.heap.size, 1, none⟩ = some (.int .i64 t1)
       have cI : ∀ wx, Same (wr.alloc (.cells #[.int .i64 t0, .int .i64 t1] 60)) wx → Y16 wx := fun wx h => ⟨(fx.same h).cell 12, (fW.same h).cell 0, (fW.same h).cell 1⟩
       have hS : Y16 (wr.alloc (.cells #[.int .i64 t0, .int .i64 t1] 60)).drew := by exact cI _ (Kept.refl _ _).drew
       refine wp_region_V Y16 99 26 rfl (by kernel_rfl) ?_
       refine tk 0 87 hS ?_
       refine tkV 1 88 (.bool false) hS ?_
       refine tkV 2 89 (.bool false) hS ?_
       refine tkS 3 90 hS ?_
       refine tkS 4 91 hS ?_
       refine tkS 5 92 hS ?_
       refine tkS 6 93 hS ?_
       refine tkS 7 94 hS ?_
       refine tkS 8 95 hS ?_
       refine tkS 9 96 hS ?_
       refine tkS 10 97 hS ?_
       refine tkS 11 98 hS ?_
       refine tkS 12 99 hS ?_
       refine tkV 13 100 (.bool false) hS ?_
       refine tkV 14 101 (.bool false) hS ?_
       refine tk 15 102 hS ?_
       refine tk 16 103 hS ?_
       refine wpAnyV_one (i := 17) (by kernel_rfl) rfl (fun K hK => ?_)
       go_simp
       have hc := ko ((wr.alloc (.cells #[.int .i64 t0, .int .i64 t1] 60)).drew)
       with_reducible refine hc.mono ?_
       clear hc
       rintro e iw ⟨rfl, bJ⟩
       have dN : Same (wr.alloc (.cells #[.int .i64 t0, .int .i64 t1] 60)) iw := Kept.trans ((Kept.refl _ _).drew) bJ
       clear bJ
       have hS : Y16 iw := cI _ dN
       refine hK.out _ _ (fun _ => hS) ?_
       clear hK K
       try simp only [Act.put, sA, s0, sS]
       refine tkV 18 105 (.bool true) hS ?_
       refine tkV 19 106 (.bool true) hS ?_
       refine tkV 20 107 (.bool true) hS ?_
       refine tkS 21 108 hS ?_
       refine tkS 22 109 hS ?_
       refine tkS 23 110 hS ?_
       refine tkS 24 111 hS ?_
       refine tkV 25 112 (.bool true) hS ?_
       refine wpAnyV_done (by kernel_rfl) ?_
       go_wp2
       go_ret
       exact ⟨by rw [tD.out k dh HF.out]; rfl, (HK.out.alloc _).trans dN⟩
      | true =>
       cases mf : inB t1 1 1099511627776 with
       | false =>
        have HF := (show Hid (atDirty kw k = false) from by rw [i3.out]; unfold oneDirty; rw [show (decide (1 ≤ t1) && decide (t1 ≤ 1099511627776)) = inB t1 1 1099511627776 from rfl, mf]; simp only [Bool.false_and, Bool.and_false]; exact trivial)
        rw [hq0] at ko
        rw [mf] at lX
        go_wp2_with fail
        let Y17 : World → Prop := fun wx : World => wx.cell? ⟨w.heap.size, 12, none⟩ = some (.slice (some ⟨qi, qc, none⟩) dyn nM) ∧ wx.cell? ⟨wr.heap.size, 0, none⟩ = some (.int .i64 t0) ∧ wx.cell? ⟨wr.heap.size, 1, none⟩ = some (.int .i64 t1)
        have cI : ∀ wx, Same (wr.alloc (.cells #[.int .i64 t0, .int .i64 t1] 60)) wx → Y17 wx := fun wx h => ⟨(fx.same h).cell 12, (fW.same h).cell 0, (fW.same h).cell 1⟩
        have hS : Y17 (wr.alloc (.cells #[.int .i64 t0, .int .i64 t1] 60)).drew := by exact cI _ (Kept.refl _ _).drew
        refine wp_region_V Y17 99 26 rfl (by kernel_rfl) ?_
        refine tk 0 87 hS ?_
        refine tkV 1 88 (.bool false) hS ?_
        refine tkV 2 89 (.bool false) hS ?_
        refine tkS 3 90 hS ?_
        refine tkS 4 91 hS ?_
        refine tkS 5 92 hS ?_
        refine tkS 6 93 hS ?_
        refine tkS 7 94 hS ?_
        refine tkS 8 95 hS ?_
        refine tkS 9 96 hS ?_
        refine tkS 10 97 hS ?_
        refine tkS 11 98 hS ?_
        refine tkS 12 99 hS ?_
        refine tkV 13 100 (.bool false) hS ?_
        refine tkV 14 101 (.bool false) hS ?_
        refine tk 15 102 hS ?_
        refine tk 16 103 hS ?_
        refine wpAnyV_one (i := 17) (by kernel_rfl) rfl (fun K hK => ?_)
        go_simp
        have hc := ko ((wr.alloc (.cells #[.int .i64 t0, .int .i64 t1] 60)).drew)
        with_reducible refine hc.mono ?_
        clear hc
        rintro e iw ⟨rfl, bJ⟩
        have dN : Same (wr.alloc (.cells #[.int .i64 t0, .int .i64 t1] 60)) iw := Kept.trans ((Kept.refl _ _).drew) bJ
        clear bJ
        have hS : Y17 iw := cI _ dN
        refine hK.out _ _ (fun _ => hS) ?_
        clear hK K
        try simp only [Act.put, sA, s0, sS]
        refine tkV 18 105 (.bool false) hS ?_
        refine tkV 19 106 (.bool false) hS ?_
        refine tkV 20 107 (.bool false) hS ?_
        refine tk 21 108 hS ?_
        refine tk 22 109 hS ?_
        refine wpAnyV_one (i := 23) (by kernel_rfl) rfl (fun K hK => ?_)
        go_simp
        have hc := lX (iw)
        with_reducible refine hc.mono ?_
        clear hc
        rintro e jP ⟨rfl, bJ⟩
        have eA : Same (wr.alloc (.cells #[.int .i64 t0, .int .i64 t1] 60)) jP := Kept.trans (dN) bJ
        clear bJ
        have hS : Y17 jP := cI _ eA
        refine hK.out _ _ (fun _ => hS) ?_
        clear hK K
        try simp only [Act.put, sA, s0, sS]
        refine tkV 24 111 (.bool true) hS ?_
        refine tkV 25 112 (.bool true) hS ?_
        refine wpAnyV_done (by kernel_rfl) ?_
        go_wp2
        go_ret
        exact ⟨by rw [tD.out k dh HF.out]; rfl, (HK.out.alloc _).trans eA⟩
       | true =>
        have mU := (show Hid (atDirty kw k = true) from by rw [i3.out]; unfold oneDirty; rw [decide_eq_true (show -1 < t0 from by have h := hq0; simp [inB] at h; omega), isPageB_in t0, hq0, show (decide (1 ≤ t1) && decide (t1 ≤ 1099511627776)) = inB t1 1 1099511627776 from rfl, mf]; simp only [Bool.and_true, Bool.and_self]; exact trivial)
        rw [hq0] at ko
        rw [mf] at lX
        go_wp2_with fail
        let Y18 : World → Prop := fun wx : World => wx.cell? ⟨w.heap.size, 12, none⟩ = some (.slice (some ⟨qi, qc, none⟩) dyn nM) ∧ wx.cell? ⟨wr.heap.size, 0, none⟩ = some (.int .i64 t0) ∧ wx.cell? ⟨wr.heap.size, 1, none⟩ = some (.int .i64 t1)
        have cI : ∀ wx, Same (wr.alloc (.cells #[.int .i64 t0, .int .i64 t1] 60)) wx → Y18 wx := fun wx h => ⟨(fx.same h).cell 12, (fW.same h).cell 0, (fW.same h).cell 1⟩
        have hS : Y18 (wr.alloc (.cells #[.int .i64 t0, .int .i64 t1] 60)).drew := by exact cI _ (Kept.refl _ _).drew
        refine wp_region_V Y18 99 26 rfl (by kernel_rfl) ?_
        refine tk 0 87 hS ?_
        refine tkV 1 88 (.bool false) hS ?_
        refine tkV 2 89 (.bool false) hS ?_
        refine tkS 3 90 hS ?_
        refine tkS 4 91 hS ?_
        refine tkS 5 92 hS ?_
        refine tkS 6 93 hS ?_
        refine tkS 7 94 hS ?_
        refine tkS 8 95 hS ?_
        refine tkS 9 96 hS ?_
        refine tkS 10 97 hS ?_
        refine tkS 11 98 hS ?_
        refine tkS 12 99 hS ?_
        refine tkV 13 100 (.bool false) hS ?_
        refine tkV 14 101 (.bool false) hS ?_
        refine tk 15 102 hS ?_
        refine tk 16 103 hS ?_
        refine wpAnyV_one (i := 17) (by kernel_rfl) rfl (fun K hK => ?_)
        go_simp
        have hc := ko ((wr.alloc (.cells #[.int .i64 t0, .int .i64 t1] 60)).drew)
        with_reducible refine hc.mono ?_
        clear hc
        rintro e iw ⟨rfl, bJ⟩
        have dN : Same (wr.alloc (.cells #[.int .i64 t0, .int .i64 t1] 60)) iw := Kept.trans ((Kept.refl _ _).drew) bJ
        clear bJ
        have hS : Y18 iw := cI _ dN
        refine hK.out _ _ (fun _ => hS) ?_
        clear hK K
        try simp only [Act.put, sA, s0, sS]
        refine tkV 18 105 (.bool false) hS ?_
        refine tkV 19 106 (.bool false) hS ?_
        refine tkV 20 107 (.bool false) hS ?_
        refine tk 21 108 hS ?_
        refine tk 22 109 hS ?_
        refine wpAnyV_one (i := 23) (by kernel_rfl) rfl (fun K hK => ?_)
        go_simp
        have hc := lX (iw)
        with_reducible refine hc.mono ?_
        clear hc
        rintro e jP ⟨rfl, bJ⟩
        have eA : Same (wr.alloc (.cells #[.int .i64 t0, .int .i64 t1] 60)) jP := Kept.trans (dN) bJ
        clear bJ
        have hS : Y18 jP := cI _ eA
        refine hK.out _ _ (fun _ => hS) ?_
        clear hK K
        try simp only [Act.put, sA, s0, sS]
        refine tkV 24 111 (.bool false) hS ?_
        refine tkV 25 112 (.bool false) hS ?_
        refine wpAnyV_done (by kernel_rfl) ?_
        go_wp2
        go_roundw
        case rel => exact ⟨k + 1, by omega, by go_num, fun i hi => (Nat.lt_succ_iff_lt_or_eq.1 hi).elim (qj.out i) (fun e => e ▸ mU.out), (HK.out.alloc _).trans eA, (fx.same eA)⟩
        case measure => simp [intOf]; omega
     ·obtain ⟨j, hj⟩ : ∃ j, k = j + 1 := ⟨k - 1, by omega⟩
      have qa := nY.out j hj
      generalize aheadDirty kw k = A at *
      have jy : (0 : Int) < (k : Int) := by omega
      have GB : IntKind.i64.wrap ((k : Int) - 1) = (j : Int) := by rw [show (k : Int) - 1 = (j : Int) from by omega]; exact wrap_nat j (by omega)
      have R8 : (j : Int) < dyn := by omega
      clear nY ep hj
      by_cases hc : t0 ≤ A
      ·have HF := (show Hid (atDirty kw k = false) from by rw [i3.out]; unfold oneDirty; rw [decide_eq_false (show ¬ (A < t0) from by omega)]; simp only [Bool.false_and]; exact trivial)
       go_wp2_with fail
       let Y12 : World → Prop := fun wx : World => wx.cell? ⟨w.heap.size, 12, none⟩ = some (.slice (some ⟨qi, qc, none⟩) dyn nM) ∧ wx.cell? ⟨wr.heap.size, 0, none⟩ = some (.int .i64 t0) ∧ wx.cell? ⟨wr.heap.size, 1, none⟩ = some (.int .i64 t1) ∧ wx.cell? ⟨qi, qc + j * 2, none⟩ = some (.int .i64 A)
       have cI : ∀ wx, Same (wr.alloc (.cells #[.int .i64 t0, .int .i64 t1] 60)) wx → Y12 wx := fun wx h => ⟨(fx.same h).cell 12, (fW.same h).cell 0, (fW.same h).cell 1, (((Kept.refl _ _).alloc _).trans h).cellOf qa id⟩
       have hS : Y12 (wr.alloc (.cells #[.int .i64 t0, .int .i64 t1] 60)).drew := by exact cI _ (Kept.refl _ _).drew
       refine wp_region_V Y12 99 26 rfl (by kernel_rfl) ?_
       refine tk 0 87 hS ?_
       refine tkV 1 88 (.bool true) hS ?_
       refine tkV 2 89 (.bool true) hS ?_
       refine tk 3 90 hS ?_
       refine tk 4 91 hS ?_
       refine tk 5 92 hS ?_
       refine wpAnyV_take (i := 6) (v := .int .i64 (j : Int)) (some 93) rfl rfl (by kernel_rfl) (by kernel_rfl) (by kernel_rfl) (by kernel_rfl) (fun _ _ _ h => h) (Or.inl ⟨by rfl, fun w lV => by (try dsimp (config := { zetaDelta := true }) only at lV); go_simp⟩) hS ?_
       try simp only [Act.put, sA, s0, sS]
       refine tk 7 94 hS ?_
       refine tk 8 95 hS ?_
       refine tk 9 96 hS ?_
       refine tk 10 97 hS ?_
       refine tk 11 98 hS ?_
       refine tkV 12 99 (.bool true) hS ?_
       refine tkV 13 100 (.bool true) hS ?_
       refine tkV 14 101 (.bool true) hS ?_
       refine tkS 15 102 hS ?_
       refine tkS 16 103 hS ?_
       refine tkS 17 104 hS ?_
       refine tkS 18 105 hS ?_
       refine tkV 19 106 (.bool true) hS ?_
       refine tkV 20 107 (.bool true) hS ?_
       refine tkS 21 108 hS ?_
       refine tkS 22 109 hS ?_
       refine tkS 23 110 hS ?_
       refine tkS 24 111 hS ?_
       refine tkV 25 112 (.bool true) hS ?_
       refine wpAnyV_done (by kernel_rfl) ?_
       go_wp2
       go_ret
       exact ⟨by rw [tD.out k dh HF.out]; rfl, (HK.out.alloc _).trans (Kept.refl _ _).drew⟩
      cases hq0 : inB t0 0 15 with
      | false =>
       have HF := (show Hid (atDirty kw k = false) from by rw [i3.out]; unfold oneDirty; rw [isPageB_in t0, hq0]; simp only [Bool.false_and, Bool.and_false]; exact trivial)
       rw [hq0] at ko
       go_wp2_with fail
       let Y13 : World → Prop := fun wx : World => wx.cell? ⟨w.heap.size, 12, none⟩ = some (.slice (some ⟨qi, qc, none⟩) dyn nM) ∧ wx.cell? ⟨wr.heap.size, 0, none⟩ = some (.int .i64 t0) ∧ wx.cell? ⟨wr.heap.size, 1, none⟩ = some (.int .i64 t1) ∧ wx.cell? ⟨qi, qc + j * 2, none⟩ = some (.int .i64 A)
       have cI : ∀ wx, Same (wr.alloc (.cells #[.int .i64 t0, .int .i64 t1] 60)) wx → Y13 wx := fun wx h => ⟨(fx.same h).cell 12, (fW.same h).cell 0, (fW.same h).cell 1, (((Kept.refl _ _).alloc _).trans h).cellOf qa id⟩
       have hS : Y13 (wr.alloc (.cells #[.int .i64 t0, .int .i64 t1] 60)).drew := by exact cI _ (Kept.refl _ _).drew
       refine wp_region_V Y13 99 26 rfl (by kernel_rfl) ?_
       refine tk 0 87 hS ?_
       refine tkV 1 88 (.bool true) hS ?_
       refine tkV 2 89 (.bool true) hS ?_
       refine tk 3 90 hS ?_
       refine tk 4 91 hS ?_
       refine tk 5 92 hS ?_
       refine wpAnyV_take (i := 6) (v := .int .i64 (j : Int)) (some 93) rfl rfl (by kernel_rfl) (by kernel_rfl) (by kernel_rfl) (by kernel_rfl) (fun _ _ _ h => h) (Or.inl ⟨by rfl, fun w lV => by (try dsimp (config := { zetaDelta := true }) only at lV); go_simp⟩) hS ?_
       try simp only [Act.put, sA, s0, sS]
       refine tk 7 94 hS ?_
       refine tk 8 95 hS ?_
       refine tk 9 96 hS ?_
       refine tk 10 97 hS ?_
       refine tk 11 98 hS ?_
       refine tkV 12 99 (.bool false) hS ?_
       refine tkV 13 100 (.bool false) hS ?_
       refine tkV 14 101 (.bool false) hS ?_
       refine tk 15 102 hS ?_
       refine tk 16 103 hS ?_
       refine wpAnyV_one (i := 17) (by kernel_rfl) rfl (fun K hK => ?_)
       go_simp
       have hc := ko ((wr.alloc (.cells #[.int .i64 t0, .int .i64 t1] 60)).drew)
       with_reducible refine hc.mono ?_
       clear hc
       rintro e iw ⟨rfl, bJ⟩
       have dN : Same (wr.alloc (.cells #[.int .i64 t0, .int .i64 t1] 60)) iw := Kept.trans ((Kept.refl _ _).drew) bJ
       clear bJ
       have hS : Y13 iw := cI _ dN
       refine hK.out _ _ (fun _ => hS) ?_
       clear hK K
       try simp only [Act.put, sA, s0, sS]
       refine tkV 18 105 (.bool true) hS ?_
       refine tkV 19 106 (.bool true) hS ?_
       refine tkV 20 107 (.bool true) hS ?_
       refine tkS 21 108 hS ?_
       refine tkS 22 109 hS ?_
       refine tkS 23 110 hS ?_
       refine tkS 24 111 hS ?_
       refine tkV 25 112 (.bool true) hS ?_
       refine wpAnyV_done (by kernel_rfl) ?_
       go_wp2
       go_ret
       exact ⟨by rw [tD.out k dh HF.out]; rfl, (HK.out.alloc _).trans dN⟩
      | true =>
       cases mf : inB t1 1 1099511627776 with
       | false =>
        have HF := (show Hid (atDirty kw k = false) from by rw [i3.out]; unfold oneDirty; rw [show (decide (1 ≤ t1) && decide (t1 ≤ 1099511627776)) = inB t1 1 1099511627776 from rfl, mf]; simp only [Bool.false_and, Bool.and_false]; exact trivial)
        rw [hq0] at ko
        rw [mf] at lX
        go_wp2_with fail
        let Y14 : World → Prop := fun wx : World => wx.cell? ⟨w.heap.size, 12, none⟩ = some (.slice (some ⟨qi, qc, none⟩) dyn nM) ∧ wx.cell? ⟨wr.heap.size, 0, none⟩ = some (.int .i64 t0) ∧ wx.cell? ⟨wr.heap.size, 1, none⟩ = some (.int .i64 t1) ∧ wx.cell? ⟨qi, qc + j * 2, none⟩ = some (.int .i64 A)
        have cI : ∀ wx, Same (wr.alloc (.cells #[.int .i64 t0, .int .i64 t1] 60)) wx → Y14 wx := fun wx h => ⟨(fx.same h).cell 12, (fW.same h).cell 0, (fW.same h).cell 1, (((Kept.refl _ _).alloc _).trans h).cellOf qa id⟩
        have hS : Y14 (wr.alloc (.cells #[.int .i64 t0, .int .i64 t1] 60)).drew := by exact cI _ (Kept.refl _ _).drew
        refine wp_region_V Y14 99 26 rfl (by kernel_rfl) ?_
        refine tk 0 87 hS ?_
        refine tkV 1 88 (.bool true) hS ?_
        refine tkV 2 89 (.bool true) hS ?_
        refine tk 3 90 hS ?_
        refine tk 4 91 hS ?_
        refine tk 5 92 hS ?_
        refine wpAnyV_take (i := 6) (v := .int .i64 (j : Int)) (some 93) rfl rfl (by kernel_rfl) (by kernel_rfl) (by kernel_rfl) (by kernel_rfl) (fun _ _ _ h => h) (Or.inl ⟨by rfl, fun w lV => by (try dsimp (config := { zetaDelta := true }) only at lV); go_simp⟩) hS ?_
        try simp only [Act.put, sA, s0, sS]
        refine tk 7 94 hS ?_
        refine tk 8 95 hS ?_
        refine tk 9 96 hS ?_
        refine tk 10 97 hS ?_
        refine tk 11 98 hS ?_
        refine tkV 12 99 (.bool false) hS ?_
        refine tkV 13 100 (.bool false) hS ?_
        refine tkV 14 101 (.bool false) hS ?_
        refine tk 15 102 hS ?_
        refine tk 16 103 hS ?_
        refine wpAnyV_one (i := 17) (by kernel_rfl) rfl (fun K hK => ?_)
        go_simp
        have hc := ko ((wr.alloc (.cells #[.int .i64 t0, .int .i64 t1] 60)).drew)
        with_reducible refine hc.mono ?_
        clear hc
        rintro e iw ⟨rfl, bJ⟩
        have dN : Same (wr.alloc (.cells #[.int .i64 t0, .int .i64 t1] 60)) iw := Kept.trans ((Kept.refl _ _).drew) bJ
        clear bJ
        have hS : Y14 iw := cI _ dN
        refine hK.out _ _ (fun _ => hS) ?_
        clear hK K
        try simp only [Act.put, sA, s0, sS]
        refine tkV 18 105 (.bool false) hS ?_
        refine tkV 19 106 (.bool false) hS ?_
        refine tkV 20 107 (.bool false) hS ?_
        refine tk 21 108 hS ?_
        refine tk 22 109 hS ?_
        refine wpAnyV_one (i := 23) (by kernel_rfl) rfl (fun K hK => ?_)
        go_simp
        have hc := lX (iw)
        with_reducible refine hc.mono ?_
        clear hc
        rintro e jP ⟨rfl, bJ⟩
        have eA : Same (wr.alloc (.cells #[.int .i64 t0, .int .i64 t1] 60)) jP := Kept.trans (dN) bJ
        clear bJ
        have hS : Y14 jP := cI _ eA
        refine hK.out _ _ (fun _ => hS) ?_
        clear hK K
        try simp only [Act.put, sA, s0, sS]
        refine tkV 24 111 (.bool true) hS ?_
        refine tkV 25 112 (.bool true) hS ?_
        refine wpAnyV_done (by kernel_rfl) ?_
        go_wp2
        go_ret
        exact ⟨by rw [tD.out k dh HF.out]; rfl, (HK.out.alloc _).trans eA⟩
       | true =>
        have mU := (show Hid (atDirty kw k = true) from by rw [i3.out]; unfold oneDirty; rw [decide_eq_true (show A < t0 from by omega), isPageB_in t0, hq0, show (decide (1 ≤ t1) && decide (t1 ≤ 1099511627776)) = inB t1 1 1099511627776 from rfl, mf]; simp only [Bool.and_true, Bool.and_self]; exact trivial)
        rw [hq0] at ko
        rw [mf] at lX
        go_wp2_with fail
        let Y15 : World → Prop := fun wx : World => wx.cell? ⟨w.heap.size, 12, none⟩ = some (.slice (some ⟨qi, qc, none⟩) dyn nM) ∧ wx.cell? ⟨wr.heap.size, 0, none⟩ = some (.int .i64 t0) ∧ wx.cell? ⟨wr.heap.size, 1, none⟩ = some (.int .i64 t1) ∧ wx.cell? ⟨qi, qc + j * 2, none⟩ = some (.int .i64 A)
        have cI : ∀ wx, Same (wr.alloc (.cells #[.int .i64 t0, .int .i64 t1] 60)) wx → Y15 wx := fun wx h => ⟨(fx.same h).cell 12, (fW.same h).cell 0, (fW.same h).cell 1, (((Kept.refl _ _).alloc _).trans h).cellOf qa id⟩
        have hS : Y15 (wr.alloc (.cells #[.int .i64 t0, .int .i64 t1] 60)).drew := by exact cI _ (Kept.refl _ _).drew
        refine wp_region_V Y15 99 26 rfl (by kernel_rfl) ?_
        refine tk 0 87 hS ?_
        refine tkV 1 88 (.bool true) hS ?_
        refine tkV 2 89 (.bool true) hS ?_
        refine tk 3 90 hS ?_
        refine tk 4 91 hS ?_
        refine tk 5 92 hS ?_
        refine wpAnyV_take (i := 6) (v := .int .i64 (j : Int)) (some 93) rfl rfl (by kernel_rfl) (by kernel_rfl) (by kernel_rfl) (by kernel_rfl) (fun _ _ _ h => h) (Or.inl ⟨by rfl, fun w lV => by (try dsimp (config := { zetaDelta := true }) only at lV); go_simp⟩) hS ?_
        try simp only [Act.put, sA, s0, sS]
        refine tk 7 94 hS ?_
        refine tk 8 95 hS ?_
        refine tk 9 96 hS ?_
        refine tk 10 97 hS ?_
        refine tk 11 98 hS ?_
        refine tkV 12 99 (.bool false) hS ?_
        refine tkV 13 100 (.bool false) hS ?_
        refine tkV 14 101 (.bool false) hS ?_
        refine tk 15 102 hS ?_
        refine tk 16 103 hS ?_
        refine wpAnyV_one (i := 17) (by kernel_rfl) rfl (fun K hK => ?_)
        go_simp
        have hc := ko ((wr.alloc (.cells #[.int .i64 t0, .int .i64 t1] 60)).drew)
        with_reducible refine hc.mono ?_
        clear hc
        rintro e iw ⟨rfl, bJ⟩
        have dN : Same (wr.alloc (.cells #[.int .i64 t0, .int .i64 t1] 60)) iw := Kept.trans ((Kept.refl _ _).drew) bJ
        clear bJ
        have hS : Y15 iw := cI _ dN
        refine hK.out _ _ (fun _ => hS) ?_
        clear hK K
        try simp only [Act.put, sA, s0, sS]
        refine tkV 18 105 (.bool false) hS ?_
        refine tkV 19 106 (.bool false) hS ?_
        refine tkV 20 107 (.bool false) hS ?_
        refine tk 21 108 hS ?_
        refine tk 22 109 hS ?_
        refine wpAnyV_one (i := 23) (by kernel_rfl) rfl (fun K hK => ?_)
        go_simp
        have hc := lX (iw)
        with_reducible refine hc.mono ?_
        clear hc
        rintro e jP ⟨rfl, bJ⟩
        have eA : Same (wr.alloc (.cells #[.int .i64 t0, .int .i64 t1] 60)) jP := Kept.trans (dN) bJ
        clear bJ
        have hS : Y15 jP := cI _ eA
        refine hK.out _ _ (fun _ => hS) ?_
        clear hK K
        try simp only [Act.put, sA, s0, sS]
        refine tkV 24 111 (.bool false) hS ?_
        refine tkV 25 112 (.bool false) hS ?_
        refine wpAnyV_done (by kernel_rfl) ?_
        go_wp2
        go_roundw
        case rel => exact ⟨k + 1, by omega, by go_num, fun i hi => (Nat.lt_succ_iff_lt_or_eq.1 hi).elim (qj.out i) (fun e => e ▸ mU.out), (HK.out.alloc _).trans eA, (fx.same eA)⟩
        case measure => simp [intOf]; omega
    ·go_wp2
     go_ret
     exact ⟨by rw [rT.out JW.out (fun i hi => qj.out i (by omega))]; rfl, HK.out⟩
end Go.Proofs.YtepdakgfioffgaaGreat
