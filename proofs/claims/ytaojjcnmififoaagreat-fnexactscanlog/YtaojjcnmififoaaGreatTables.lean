import Derived.Test.YtaojjcnmififoaaGreatG12
import Derived.Test.YtaojjcnmififoaaGreatInOrder
import Derived.Test.YtaojjcnmififoaaGreatG08
namespace Go.Proofs.YtaojjcnmififoaaGreat
set_option maxRecDepth 100000
set_option maxHeartbeats 16000000
set_option linter.unusedVariables false
set_option linter.unusedSimpArgs false
open Go.RowKit
theorem jbr (j : Nat) (h : (j : Int) ≤ 1000) : IntKind.i64.wrap (j : Int) = (j : Int) := by
 simp [IntKind.wrap, IntKind.bits, IntKind.signed]
 omega
theorem UM (x : Int) : SN x = inB x 0 15 := by
 unfold SN inB
 rw [show decide (x < 16) = decide (x ≤ 15) from decide_eq_decide.2 (by omega)]
theorem jaw (kind nx prev page slot : Int) (af : Bool) (ah : Option Addr) (ai ag : Nat) (ak : Bool) (ao : Option Addr) (ap al : Nat) (uN nT : Int) (ax : Option Addr) (aj ay : Nat) (tx dy : FR) (w : World) (hv : RdF 4 w tx) (wL : RdF 2 w dy) :
  Calls Tryz.prog 77 #[.agg #[.int .i64 kind, .int .i64 nx, .int .i64 prev, .int .i64 page, .int .i64 slot, .bool af, .slice ah ai ag, .bool ak, .slice ao ap al, .int .i64 uN, .int .i64 nT, tx.v, dy.v, .slice ax aj ay]] w fun e w' => e = .returned (.bool (inB nT 1 2147483648 && RL tx.bs tx.n && RA dy.bs dy.n)) ∧ Same w w' := by
 obtain ⟨m9, dR, fO⟩ := hv
 obtain ⟨xP, zk, pi⟩ := wL
 obtain ⟨Ll, nK, txn, jv, fv⟩ := tx
 obtain ⟨Oz, nP, dyn, kj, gD⟩ := dy
 dsimp only [FR.v] at *
 unfold maxLen at m9 xP
 have h1 := fun wx => Rm nT 1 2147483648 wx
 obtain ⟨aJ, bm⟩ := new1 w [.int .i64 kind, .int .i64 nx, .int .i64 prev, .int .i64 page, .int .i64 slot, .bool af, .slice ah ai ag, .bool ak, .slice ao ap al, .int .i64 uN, .int .i64 nT, .slice nK txn jv, .slice nP dyn kj, .slice ax aj ay] 50
 have qi := (show Hid (txn ≠ 0 → ∃ b off, nK = some ⟨b, off, none⟩ ∧ txn ≤ jv ∧ ∀ i, i < txn * 4 → w.cell? ⟨b, off + i, none⟩ = some (.int .i64 (fv.getD i 0))) from fun h => fO.resolve_left h)
 have rh := (show Hid (dyn ≠ 0 → ∃ b off, nP = some ⟨b, off, none⟩ ∧ dyn ≤ kj ∧ ∀ i, i < dyn * 2 → w.cell? ⟨b, off + i, none⟩ = some (.int .i64 (gD.getD i 0))) from fun h => pi.resolve_left h)
 clear fO pi dR zk
 cases jE : inB nT 1 2147483648 with
 | false =>
  rw [jE] at h1
  simp only [Bool.false_and]
  clear qi rh
  go_enter Tryz.func77, Tryz.ntmps77
  go_wp2_with (go_at_call 35; refine (h1 _).mono ?_; rintro e w1 ⟨rfl, aH⟩)
  go_ret
  exact ⟨rfl, aJ.out.trans aH⟩
 | true =>
 rw [jE] at h1
 simp only [Bool.true_and]
 have iR : ∀ w1, Same (w.alloc (.cells #[.int .i64 kind, .int .i64 nx, .int .i64 prev, .int .i64 page, .int .i64 slot, .bool af, .slice ah ai ag, .bool ak, .slice ao ap al, .int .i64 uN, .int .i64 nT, .slice nK txn jv, .slice nP dyn kj, .slice ax aj ay] 50)) w1 → w1.cell? ⟨w.heap.size, 0, none⟩ = some (.int .i64 kind) ∧ w1.cell? ⟨w.heap.size, 1, none⟩ = some (.int .i64 nx) ∧ w1.cell? ⟨w.heap.size, 2, none⟩ = some (.int .i64 prev) ∧ w1.cell? ⟨w.heap.size, 3, none⟩ = some (.int .i64 page) ∧ w1.cell? ⟨w.heap.size, 4, none⟩ = some (.int .i64 slot) ∧ w1.cell? ⟨w.heap.size, 5, none⟩ = some (.bool af) ∧ w1.cell? ⟨w.heap.size, 6, none⟩ = some (.slice ah ai ag) ∧ w1.cell? ⟨w.heap.size, 7, none⟩ = some (.bool ak) ∧ w1.cell? ⟨w.heap.size, 8, none⟩ = some (.slice ao ap al) ∧ w1.cell? ⟨w.heap.size, 9, none⟩ = some (.int .i64 uN) ∧ w1.cell? ⟨w.heap.size, 10, none⟩ = some (.int .i64 nT) ∧ w1.cell? ⟨w.heap.size, 11, none⟩ = some (.slice nK txn jv) ∧ w1.cell? ⟨w.heap.size, 12, none⟩ = some (.slice nP dyn kj) ∧ w1.cell? ⟨w.heap.size, 13, none⟩ = some (.slice ax aj ay) := fun w1 h => ⟨(bm.out.same h).cell 0, (bm.out.same h).cell 1, (bm.out.same h).cell 2, (bm.out.same h).cell 3, (bm.out.same h).cell 4, (bm.out.same h).cell 5, (bm.out.same h).cell 6, (bm.out.same h).cell 7, (bm.out.same h).cell 8, (bm.out.same h).cell 9, (bm.out.same h).cell 10, (bm.out.same h).cell 11, (bm.out.same h).cell 12, (bm.out.same h).cell 13⟩
 by_cases h8 : (8 : Int) < txn
 ·have hR : (RL fv txn && RA gD dyn) = false := by unfold RL; rw [decide_eq_false (show ¬ txn ≤ 8 from by omega)]; simp only [Bool.false_and]
  rw [hR]
  clear qi rh hR
  go_enter Tryz.func77, Tryz.ntmps77
  go_wp2_with (go_at_call 35; refine (h1 _).mono ?_; rintro e w1 ⟨rfl, aH⟩; obtain ⟨c0, c1, c2, c3, c4, c5, c6, c7, c8, c9, c10, c11, c12, c13⟩ := iR w1 aH)
  go_ret
  exact ⟨rfl, aJ.out.trans aH⟩
 by_cases h16 : (16 : Int) < dyn
 ·have hR : (RL fv txn && RA gD dyn) = false := by unfold RA; rw [decide_eq_false (show ¬ dyn ≤ 16 from by omega)]; simp only [Bool.false_and, Bool.and_false]
  rw [hR]
  clear qi rh hR
  go_enter Tryz.func77, Tryz.ntmps77
  go_wp2_with (go_at_call 35; refine (h1 _).mono ?_; rintro e w1 ⟨rfl, aH⟩; obtain ⟨c0, c1, c2, c3, c4, c5, c6, c7, c8, c9, c10, c11, c12, c13⟩ := iR w1 aH)
  go_ret
  exact ⟨rfl, aJ.out.trans aH⟩
 have jg := (show Hid (∀ k, k < txn → Sq fv k = false → (RL fv txn && RA gD dyn) = false) from fun k hk h => by rw [YM fv txn k hk h]; simp only [Bool.and_false, Bool.false_and])
 have pC := (show Hid (∀ k, k < dyn → Sj gD k = false → (RL fv txn && RA gD dyn) = false) from fun k hk h => by rw [XO gD dyn k hk h]; simp only [Bool.and_false, Bool.false_and])
 have oq := (show Hid ((∀ k, k < txn → Sq fv k = true) → (∀ k, k < dyn → Sj gD k = true) → (RL fv txn && RA gD dyn) = true) from fun h h' => by rw [XM fv txn (by omega) h, Xa gD dyn (by omega) h']; rfl)
 generalize (RL fv txn && RA gD dyn) = mx at *
 go_enter Tryz.func77, Tryz.ntmps77
 go_wp2_with fail
 refine (h1 _).mono ?_
 rintro e w1 ⟨rfl, aH⟩
 have aM := hid (aJ.out.trans aH)
 have bf := hid (bm.out.same aH)
 clear aH
 obtain ⟨c0, c1, c2, c3, c4, c5, c6, c7, c8, c9, c10, c11, c12, c13⟩ := bf.out.all14
 go_wp2
 go_loopw [3, 4] (fun i _ wr => ∃ (k : Nat), k ≤ txn ∧ i = .int .i64 k ∧ Hid (∀ j, j < k → Sq fv j = true) ∧ Hid (Same w wr) ∧ Hid (Blk wr w.heap.size 50 [.int .i64 kind, .int .i64 nx, .int .i64 prev, .int .i64 page, .int .i64 slot, .bool af, .slice ah ai ag, .bool ak, .slice ao ap al, .int .i64 uN, .int .i64 nT, .slice nK txn jv, .slice nP dyn kj, .slice ax aj ay])) (fun i _ _ => txn - (intOf i).toNat)
 case atStart => exact ⟨0, Nat.zero_le _, rfl, fun j hj => absurd hj (by omega), aM, bf⟩
 case round =>
  obtain ⟨k, hk, rfl, mD, HK, HB⟩ := hrel
  obtain ⟨d0, d1, d2, d3, d4, d5, d6, d7, d8, d9, cD, cw, cA, cC⟩ := HB.out.all14
  by_cases bH : k < txn
  ·obtain ⟨txB, jF, Fp, Ke, nj⟩ := qi.out (by omega)
   subst Fp
   have q0 : wr.cell? ⟨txB, jF + k * 4, none⟩ = some (.int .i64 (fv.getD (k * 4) 0)) := by have h := HK.out.cellOf (nj (k * 4) (by omega)) id; simpa only [Nat.add_assoc] using h
   have q1 : wr.cell? ⟨txB, jF + k * 4 + 1, none⟩ = some (.int .i64 (fv.getD (k * 4 + 1) 0)) := by have h := HK.out.cellOf (nj (k * 4 + 1) (by omega)) id; simpa only [Nat.add_assoc] using h
   have q2 : wr.cell? ⟨txB, jF + k * 4 + 2, none⟩ = some (.int .i64 (fv.getD (k * 4 + 2) 0)) := by have h := HK.out.cellOf (nj (k * 4 + 2) (by omega)) id; simpa only [Nat.add_assoc] using h
   have q3 : wr.cell? ⟨txB, jF + k * 4 + 3, none⟩ = some (.int .i64 (fv.getD (k * 4 + 3) 0)) := by have h := HK.out.cellOf (nj (k * 4 + 3) (by omega)) id; simpa only [Nat.add_assoc] using h
   have fA := (show Hid (Sq fv k = R7 (TJ fv k) (fv.getD (k * 4) 0) (fv.getD (k * 4 + 1) 0) (fv.getD (k * 4 + 2) 0) (fv.getD (k * 4 + 3) 0)) from rfl)
   have pd := (show Hid (∀ j, k = j + 1 → wr.cell? ⟨txB, jF + j * 4, none⟩ = some (.int .i64 (TJ fv k))) from fun j hj => by subst hj; exact HK.out.cellOf (nj (j * 4) (by omega)) id)
   clear nj
   generalize fv.getD (k * 4) 0 = t0 at *
   generalize fv.getD (k * 4 + 1) 0 = t1 at *
   generalize fv.getD (k * 4 + 2) 0 = t2 at *
   generalize fv.getD (k * 4 + 3) 0 = t3 at *
   have cN := HB.out.alloc (.cells #[.int .i64 t0, .int .i64 t1, .int .i64 t2, .int .i64 t3] 96)
   have dL := Blk.new wr #[.int .i64 t0, .int .i64 t1, .int .i64 t2, .int .i64 t3] 96
   have gv := fun wx => Rm t0 1 2147483647 wx
   have iW := fun wx => Rm t1 1 3 wx
   have nM := fun wx => Rm t2 1 1099511627776 wx
   have s9 := fun wx => Rm t3 0 t2 wx
   by_cases du : k = 0
   ·have iX : ¬ (0 : Int) < (k : Int) := by omega
    have hA : TJ fv k = 0 := by rw [du]; rfl
    rw [hA] at fA
    clear pd du
    cases gH : inB t0 1 2147483647 with
    | false =>
     have HF := (show Hid (Sq fv k = false) from by rw [fA.out]; unfold R7; rw [show Tq t0 = inB t0 1 2147483647 from rfl, gH]; simp only [Bool.false_and, Bool.and_false]; exact trivial)
     rw [gH] at gv
     go_wp2_with fail
     let Y7 : World → Prop := fun wx : World => wx.cell? ⟨w.heap.size, 11, none⟩ = some (.slice (some ⟨txB, jF, none⟩) txn jv) ∧ wx.cell? ⟨wr.heap.size, 0, none⟩ = some (.int .i64 t0) ∧ wx.cell? ⟨wr.heap.size, 1, none⟩ = some (.int .i64 t1) ∧ wx.cell? ⟨wr.heap.size, 2, none⟩ = some (.int .i64 t2) ∧ wx.cell? ⟨wr.heap.size, 3, none⟩ = some (.int .i64 t3)
     have bv : ∀ wx, Same (wr.alloc (.cells #[.int .i64 t0, .int .i64 t1, .int .i64 t2, .int .i64 t3] 96)) wx → Y7 wx := fun wx h => ⟨(cN.same h).cell 11, (dL.same h).cell 0, (dL.same h).cell 1, (dL.same h).cell 2, (dL.same h).cell 3⟩
     have hS : Y7 (wr.alloc (.cells #[.int .i64 t0, .int .i64 t1, .int .i64 t2, .int .i64 t3] 96)).drew := by exact bv _ kZ0.drew
     refine Q9 Y7 99 40 rfl (by kernel_rfl) ?_
     refine tk 0 35 hS ?_
     refine tkV 1 36 (.bool false) hS ?_
     refine tkV 2 37 (.bool false) hS ?_
     refine tkS 3 38 hS ?_
     refine tkS 4 39 hS ?_
     refine tkS 5 40 hS ?_
     refine tkS 6 41 hS ?_
     refine tkS 7 42 hS ?_
     refine tkS 8 43 hS ?_
     refine tkS 9 44 hS ?_
     refine tkS 10 45 hS ?_
     refine tkS 11 46 hS ?_
     refine tkS 12 47 hS ?_
     refine tkV 13 48 (.bool false) hS ?_
     refine tkV 14 49 (.bool false) hS ?_
     refine tk 15 50 hS ?_
     refine tk 16 51 hS ?_
     refine o1Q 17 (fun K hK => ?_)
     go_simp
     have hc := gv ((wr.alloc (.cells #[.int .i64 t0, .int .i64 t1, .int .i64 t2, .int .i64 t3] 96)).drew)
     with_reducible refine hc.mono ?_
     clear hc
     rintro e eD ⟨rfl, aG⟩
     have cg : Same (wr.alloc (.cells #[.int .i64 t0, .int .i64 t1, .int .i64 t2, .int .i64 t3] 96)) eD := Kept.trans (kZ0.drew) aG
     clear aG
     have hS : Y7 eD := bv _ cg
     refine hK.out _ _ (fun _ => hS) ?_
     clear hK K
     try simp only [Act.put, sA, s0, sS]
     refine tkV 18 53 (.bool true) hS ?_
     refine tkV 19 54 (.bool true) hS ?_
     refine tkV 20 55 (.bool true) hS ?_
     refine tkS 21 56 hS ?_
     refine tkS 22 57 hS ?_
     refine tkS 23 58 hS ?_
     refine tkS 24 59 hS ?_
     refine tkV 25 60 (.bool true) hS ?_
     refine tkV 26 61 (.bool true) hS ?_
     refine tkS 27 62 hS ?_
     refine tkS 28 63 hS ?_
     refine tkS 29 64 hS ?_
     refine tkS 30 65 hS ?_
     refine tkV 31 66 (.bool true) hS ?_
     refine tkV 32 67 (.bool true) hS ?_
     refine tkS 33 68 hS ?_
     refine tkS 34 69 hS ?_
     refine tkS 35 70 hS ?_
     refine tkS 36 71 hS ?_
     refine tkS 37 72 hS ?_
     refine tkS 38 73 hS ?_
     refine tkV 39 74 (.bool true) hS ?_
     refine Q8 (by kernel_rfl) ?_
     go_wp2
     go_ret
     exact ⟨by rw [jg.out k bH HF.out]; rfl, (HK.out.alloc _).trans cg⟩
    | true =>
     cases iT : inB t1 1 3 with
     | false =>
      have HF := (show Hid (Sq fv k = false) from by rw [fA.out]; unfold R7; rw [show (decide (1 ≤ t1) && decide (t1 ≤ 3)) = inB t1 1 3 from rfl, iT]; simp only [Bool.false_and, Bool.and_false]; exact trivial)
      rw [gH] at gv
      rw [iT] at iW
      go_wp2_with fail
      let Y8 : World → Prop := fun wx : World => wx.cell? ⟨w.heap.size, 11, none⟩ = some (.slice (some ⟨txB, jF, none⟩) txn jv) ∧ wx.cell? ⟨wr.heap.size, 0, none⟩ = some (.int .i64 t0) ∧ wx.cell? ⟨wr.heap.size, 1, none⟩ = some (.int .i64 t1) ∧ wx.cell? ⟨wr.heap.size, 2, none⟩ = some (.int .i64 t2) ∧ wx.cell? ⟨wr.heap.size, 3, none⟩ = some (.int .i64 t3)
      have bv : ∀ wx, Same (wr.alloc (.cells #[.int .i64 t0, .int .i64 t1, .int .i64 t2, .int .i64 t3] 96)) wx → Y8 wx := fun wx h => ⟨(cN.same h).cell 11, (dL.same h).cell 0, (dL.same h).cell 1, (dL.same h).cell 2, (dL.same h).cell 3⟩
      have hS : Y8 (wr.alloc (.cells #[.int .i64 t0, .int .i64 t1, .int .i64 t2, .int .i64 t3] 96)).drew := by exact bv _ kZ0.drew
      refine Q9 Y8 99 40 rfl (by kernel_rfl) ?_
      refine tk 0 35 hS ?_
      refine tkV 1 36 (.bool false) hS ?_
      refine tkV 2 37 (.bool false) hS ?_
      refine tkS 3 38 hS ?_
      refine tkS 4 39 hS ?_
      refine tkS 5 40 hS ?_
      refine tkS 6 41 hS ?_
      refine tkS 7 42 hS ?_
      refine tkS 8 43 hS ?_
      refine tkS 9 44 hS ?_
      refine tkS 10 45 hS ?_
      refine tkS 11 46 hS ?_
      refine tkS 12 47 hS ?_
      refine tkV 13 48 (.bool false) hS ?_
      refine tkV 14 49 (.bool false) hS ?_
      refine tk 15 50 hS ?_
      refine tk 16 51 hS ?_
      refine o1Q 17 (fun K hK => ?_)
      go_simp
      have hc := gv ((wr.alloc (.cells #[.int .i64 t0, .int .i64 t1, .int .i64 t2, .int .i64 t3] 96)).drew)
      with_reducible refine hc.mono ?_
      clear hc
      rintro e eD ⟨rfl, aG⟩
      have cg : Same (wr.alloc (.cells #[.int .i64 t0, .int .i64 t1, .int .i64 t2, .int .i64 t3] 96)) eD := Kept.trans (kZ0.drew) aG
      clear aG
      have hS : Y8 eD := bv _ cg
      refine hK.out _ _ (fun _ => hS) ?_
      clear hK K
      try simp only [Act.put, sA, s0, sS]
      refine tkV 18 53 (.bool false) hS ?_
      refine tkV 19 54 (.bool false) hS ?_
      refine tkV 20 55 (.bool false) hS ?_
      refine tk 21 56 hS ?_
      refine tk 22 57 hS ?_
      refine o1Q 23 (fun K hK => ?_)
      go_simp
      have hc := iW (eD)
      with_reducible refine hc.mono ?_
      clear hc
      rintro e eu ⟨rfl, aG⟩
      have cJ : Same (wr.alloc (.cells #[.int .i64 t0, .int .i64 t1, .int .i64 t2, .int .i64 t3] 96)) eu := Kept.trans (cg) aG
      clear aG
      have hS : Y8 eu := bv _ cJ
      refine hK.out _ _ (fun _ => hS) ?_
      clear hK K
      try simp only [Act.put, sA, s0, sS]
      refine tkV 24 59 (.bool true) hS ?_
      refine tkV 25 60 (.bool true) hS ?_
      refine tkV 26 61 (.bool true) hS ?_
      refine tkS 27 62 hS ?_
      refine tkS 28 63 hS ?_
      refine tkS 29 64 hS ?_
      refine tkS 30 65 hS ?_
      refine tkV 31 66 (.bool true) hS ?_
      refine tkV 32 67 (.bool true) hS ?_
      refine tkS 33 68 hS ?_
      refine tkS 34 69 hS ?_
      refine tkS 35 70 hS ?_
      refine tkS 36 71 hS ?_
      refine tkS 37 72 hS ?_
      refine tkS 38 73 hS ?_
      refine tkV 39 74 (.bool true) hS ?_
      refine Q8 (by kernel_rfl) ?_
      go_wp2
      go_ret
      exact ⟨by rw [jg.out k bH HF.out]; rfl, (HK.out.alloc _).trans cJ⟩
     | true =>
      cases nH : inB t2 1 1099511627776 with
      | false =>
       have HF := (show Hid (Sq fv k = false) from by rw [fA.out]; unfold R7; rw [show (decide (1 ≤ t2) && decide (t2 ≤ 1099511627776)) = inB t2 1 1099511627776 from rfl, nH]; simp only [Bool.false_and, Bool.and_false]; exact trivial)
       rw [gH] at gv
       rw [iT] at iW
       rw [nH] at nM
       go_wp2_with fail
       let Y9 : World → Prop := fun wx : World => wx.cell? ⟨w.heap.size, 11, none⟩ = some (.slice (some ⟨txB, jF, none⟩) txn jv) ∧ wx.cell? ⟨wr.heap.size, 0, none⟩ = some (.int .i64 t0) ∧ wx.cell? ⟨wr.heap.size, 1, none⟩ = some (.int .i64 t1) ∧ wx.cell? ⟨wr.heap.size, 2, none⟩ = some (.int .i64 t2) ∧ wx.cell? ⟨wr.heap.size, 3, none⟩ = some (.int .i64 t3)
       have bv : ∀ wx, Same (wr.alloc (.cells #[.int .i64 t0, .int .i64 t1, .int .i64 t2, .int .i64 t3] 96)) wx → Y9 wx := fun wx h => ⟨(cN.same h).cell 11, (dL.same h).cell 0, (dL.same h).cell 1, (dL.same h).cell 2, (dL.same h).cell 3⟩
       have hS : Y9 (wr.alloc (.cells #[.int .i64 t0, .int .i64 t1, .int .i64 t2, .int .i64 t3] 96)).drew := by exact bv _ kZ0.drew
       refine Q9 Y9 99 40 rfl (by kernel_rfl) ?_
       refine tk 0 35 hS ?_
       refine tkV 1 36 (.bool false) hS ?_
       refine tkV 2 37 (.bool false) hS ?_
       refine tkS 3 38 hS ?_
       refine tkS 4 39 hS ?_
       refine tkS 5 40 hS ?_
       refine tkS 6 41 hS ?_
       refine tkS 7 42 hS ?_
       refine tkS 8 43 hS ?_
       refine tkS 9 44 hS ?_
       refine tkS 10 45 hS ?_
       refine tkS 11 46 hS ?_
       refine tkS 12 47 hS ?_
       refine tkV 13 48 (.bool false) hS ?_
       refine tkV 14 49 (.bool false) hS ?_
       refine tk 15 50 hS ?_
       refine tk 16 51 hS ?_
       refine o1Q 17 (fun K hK => ?_)
       go_simp
       have hc := gv ((wr.alloc (.cells #[.int .i64 t0, .int .i64 t1, .int .i64 t2, .int .i64 t3] 96)).drew)
       with_reducible refine hc.mono ?_
       clear hc
       rintro e eD ⟨rfl, aG⟩
       have cg : Same (wr.alloc (.cells #[.int .i64 t0, .int .i64 t1, .int .i64 t2, .int .i64 t3] 96)) eD := Kept.trans (kZ0.drew) aG
       clear aG
       have hS : Y9 eD := bv _ cg
       refine hK.out _ _ (fun _ => hS) ?_
       clear hK K
       try simp only [Act.put, sA, s0, sS]
       refine tkV 18 53 (.bool false) hS ?_
       refine tkV 19 54 (.bool false) hS ?_
       refine tkV 20 55 (.bool false) hS ?_
       refine tk 21 56 hS ?_
       refine tk 22 57 hS ?_
       refine o1Q 23 (fun K hK => ?_)
       go_simp
       have hc := iW (eD)
       with_reducible refine hc.mono ?_
       clear hc
       rintro e eu ⟨rfl, aG⟩
       have cJ : Same (wr.alloc (.cells #[.int .i64 t0, .int .i64 t1, .int .i64 t2, .int .i64 t3] 96)) eu := Kept.trans (cg) aG
       clear aG
       have hS : Y9 eu := bv _ cJ
       refine hK.out _ _ (fun _ => hS) ?_
       clear hK K
       try simp only [Act.put, sA, s0, sS]
       refine tkV 24 59 (.bool false) hS ?_
       refine tkV 25 60 (.bool false) hS ?_
       refine tkV 26 61 (.bool false) hS ?_
       refine tk 27 62 hS ?_
       refine tk 28 63 hS ?_
       refine o1Q 29 (fun K hK => ?_)
       go_simp
       have hc := nM (eu)
       with_reducible refine hc.mono ?_
       clear hc
       rintro e eV ⟨rfl, aG⟩
       have eN : Same (wr.alloc (.cells #[.int .i64 t0, .int .i64 t1, .int .i64 t2, .int .i64 t3] 96)) eV := Kept.trans (cJ) aG
       clear aG
       have hS : Y9 eV := bv _ eN
       refine hK.out _ _ (fun _ => hS) ?_
       clear hK K
       try simp only [Act.put, sA, s0, sS]
       refine tkV 30 65 (.bool true) hS ?_
       refine tkV 31 66 (.bool true) hS ?_
       refine tkV 32 67 (.bool true) hS ?_
       refine tkS 33 68 hS ?_
       refine tkS 34 69 hS ?_
       refine tkS 35 70 hS ?_
       refine tkS 36 71 hS ?_
       refine tkS 37 72 hS ?_
       refine tkS 38 73 hS ?_
       refine tkV 39 74 (.bool true) hS ?_
       refine Q8 (by kernel_rfl) ?_
       go_wp2
       go_ret
       exact ⟨by rw [jg.out k bH HF.out]; rfl, (HK.out.alloc _).trans eN⟩
      | true =>
       cases mP : inB t3 0 t2 with
       | false =>
        have HF := (show Hid (Sq fv k = false) from by rw [fA.out]; unfold R7; rw [show (decide (0 ≤ t3) && decide (t3 ≤ t2)) = inB t3 0 t2 from rfl, mP]; simp only [Bool.false_and, Bool.and_false]; exact trivial)
        rw [gH] at gv
        rw [iT] at iW
        rw [nH] at nM
        rw [mP] at s9
        go_wp2_with fail
        let Y10 : World → Prop := fun wx : World => wx.cell? ⟨w.heap.size, 11, none⟩ = some (.slice (some ⟨txB, jF, none⟩) txn jv) ∧ wx.cell? ⟨wr.heap.size, 0, none⟩ = some (.int .i64 t0) ∧ wx.cell? ⟨wr.heap.size, 1, none⟩ = some (.int .i64 t1) ∧ wx.cell? ⟨wr.heap.size, 2, none⟩ = some (.int .i64 t2) ∧ wx.cell? ⟨wr.heap.size, 3, none⟩ = some (.int .i64 t3)
        have bv : ∀ wx, Same (wr.alloc (.cells #[.int .i64 t0, .int .i64 t1, .int .i64 t2, .int .i64 t3] 96)) wx → Y10 wx := fun wx h => ⟨(cN.same h).cell 11, (dL.same h).cell 0, (dL.same h).cell 1, (dL.same h).cell 2, (dL.same h).cell 3⟩
        have hS : Y10 (wr.alloc (.cells #[.int .i64 t0, .int .i64 t1, .int .i64 t2, .int .i64 t3] 96)).drew := by exact bv _ kZ0.drew
        refine Q9 Y10 99 40 rfl (by kernel_rfl) ?_
        refine tk 0 35 hS ?_
        refine tkV 1 36 (.bool false) hS ?_
        refine tkV 2 37 (.bool false) hS ?_
        refine tkS 3 38 hS ?_
        refine tkS 4 39 hS ?_
        refine tkS 5 40 hS ?_
        refine tkS 6 41 hS ?_
        refine tkS 7 42 hS ?_
        refine tkS 8 43 hS ?_
        refine tkS 9 44 hS ?_
        refine tkS 10 45 hS ?_
        refine tkS 11 46 hS ?_
        refine tkS 12 47 hS ?_
        refine tkV 13 48 (.bool false) hS ?_
        refine tkV 14 49 (.bool false) hS ?_
        refine tk 15 50 hS ?_
        refine tk 16 51 hS ?_
        refine o1Q 17 (fun K hK => ?_)
        go_simp
        have hc := gv ((wr.alloc (.cells #[.int .i64 t0, .int .i64 t1, .int .i64 t2, .int .i64 t3] 96)).drew)
        with_reducible refine hc.mono ?_
        clear hc
        rintro e eD ⟨rfl, aG⟩
        have cg : Same (wr.alloc (.cells #[.int .i64 t0, .int .i64 t1, .int .i64 t2, .int .i64 t3] 96)) eD := Kept.trans (kZ0.drew) aG
        clear aG
        have hS : Y10 eD := bv _ cg
        refine hK.out _ _ (fun _ => hS) ?_
        clear hK K
        try simp only [Act.put, sA, s0, sS]
        refine tkV 18 53 (.bool false) hS ?_
        refine tkV 19 54 (.bool false) hS ?_
        refine tkV 20 55 (.bool false) hS ?_
        refine tk 21 56 hS ?_
        refine tk 22 57 hS ?_
        refine o1Q 23 (fun K hK => ?_)
        go_simp
        have hc := iW (eD)
        with_reducible refine hc.mono ?_
        clear hc
        rintro e eu ⟨rfl, aG⟩
        have cJ : Same (wr.alloc (.cells #[.int .i64 t0, .int .i64 t1, .int .i64 t2, .int .i64 t3] 96)) eu := Kept.trans (cg) aG
        clear aG
        have hS : Y10 eu := bv _ cJ
        refine hK.out _ _ (fun _ => hS) ?_
        clear hK K
        try simp only [Act.put, sA, s0, sS]
        refine tkV 24 59 (.bool false) hS ?_
        refine tkV 25 60 (.bool false) hS ?_
        refine tkV 26 61 (.bool false) hS ?_
        refine tk 27 62 hS ?_
        refine tk 28 63 hS ?_
        refine o1Q 29 (fun K hK => ?_)
        go_simp
        have hc := nM (eu)
        with_reducible refine hc.mono ?_
        clear hc
        rintro e eV ⟨rfl, aG⟩
        have eN : Same (wr.alloc (.cells #[.int .i64 t0, .int .i64 t1, .int .i64 t2, .int .i64 t3] 96)) eV := Kept.trans (cJ) aG
        clear aG
        have hS : Y10 eV := bv _ eN
        refine hK.out _ _ (fun _ => hS) ?_
        clear hK K
        try simp only [Act.put, sA, s0, sS]
        refine tkV 30 65 (.bool false) hS ?_
        refine tkV 31 66 (.bool false) hS ?_
        refine tkV 32 67 (.bool false) hS ?_
        refine tk 33 68 hS ?_
        refine tk 34 69 hS ?_
        refine tk 35 70 hS ?_
        refine tk 36 71 hS ?_
        refine o1Q 37 (fun K hK => ?_)
        go_simp
        have hc := s9 (eV)
        with_reducible refine hc.mono ?_
        clear hc
        rintro e jz ⟨rfl, aG⟩
        have fC : Same (wr.alloc (.cells #[.int .i64 t0, .int .i64 t1, .int .i64 t2, .int .i64 t3] 96)) jz := Kept.trans (eN) aG
        clear aG
        have hS : Y10 jz := bv _ fC
        refine hK.out _ _ (fun _ => hS) ?_
        clear hK K
        try simp only [Act.put, sA, s0, sS]
        refine tkV 38 73 (.bool true) hS ?_
        refine tkV 39 74 (.bool true) hS ?_
        refine Q8 (by kernel_rfl) ?_
        go_wp2
        go_ret
        exact ⟨by rw [jg.out k bH HF.out]; rfl, (HK.out.alloc _).trans fC⟩
       | true =>
        have gw := (show Hid (Sq fv k = true) from by rw [fA.out]; unfold R7; rw [decide_eq_true (show 0 < t0 from by have h := gH; simp [inB] at h; omega), show Tq t0 = inB t0 1 2147483647 from rfl, gH, show (decide (1 ≤ t1) && decide (t1 ≤ 3)) = inB t1 1 3 from rfl, iT, show (decide (1 ≤ t2) && decide (t2 ≤ 1099511627776)) = inB t2 1 1099511627776 from rfl, nH, show (decide (0 ≤ t3) && decide (t3 ≤ t2)) = inB t3 0 t2 from rfl, mP]; simp only [Bool.and_true, Bool.and_self]; exact trivial)
        rw [gH] at gv
        rw [iT] at iW
        rw [nH] at nM
        rw [mP] at s9
        go_wp2_with fail
        let Y11 : World → Prop := fun wx : World => wx.cell? ⟨w.heap.size, 11, none⟩ = some (.slice (some ⟨txB, jF, none⟩) txn jv) ∧ wx.cell? ⟨wr.heap.size, 0, none⟩ = some (.int .i64 t0) ∧ wx.cell? ⟨wr.heap.size, 1, none⟩ = some (.int .i64 t1) ∧ wx.cell? ⟨wr.heap.size, 2, none⟩ = some (.int .i64 t2) ∧ wx.cell? ⟨wr.heap.size, 3, none⟩ = some (.int .i64 t3)
        have bv : ∀ wx, Same (wr.alloc (.cells #[.int .i64 t0, .int .i64 t1, .int .i64 t2, .int .i64 t3] 96)) wx → Y11 wx := fun wx h => ⟨(cN.same h).cell 11, (dL.same h).cell 0, (dL.same h).cell 1, (dL.same h).cell 2, (dL.same h).cell 3⟩
        have hS : Y11 (wr.alloc (.cells #[.int .i64 t0, .int .i64 t1, .int .i64 t2, .int .i64 t3] 96)).drew := by exact bv _ kZ0.drew
        refine Q9 Y11 99 40 rfl (by kernel_rfl) ?_
        refine tk 0 35 hS ?_
        refine tkV 1 36 (.bool false) hS ?_
        refine tkV 2 37 (.bool false) hS ?_
        refine tkS 3 38 hS ?_
        refine tkS 4 39 hS ?_
        refine tkS 5 40 hS ?_
        refine tkS 6 41 hS ?_
        refine tkS 7 42 hS ?_
        refine tkS 8 43 hS ?_
        refine tkS 9 44 hS ?_
        refine tkS 10 45 hS ?_
        refine tkS 11 46 hS ?_
        refine tkS 12 47 hS ?_
        refine tkV 13 48 (.bool false) hS ?_
        refine tkV 14 49 (.bool false) hS ?_
        refine tk 15 50 hS ?_
        refine tk 16 51 hS ?_
        refine o1Q 17 (fun K hK => ?_)
        go_simp
        have hc := gv ((wr.alloc (.cells #[.int .i64 t0, .int .i64 t1, .int .i64 t2, .int .i64 t3] 96)).drew)
        with_reducible refine hc.mono ?_
        clear hc
        rintro e eD ⟨rfl, aG⟩
        have cg : Same (wr.alloc (.cells #[.int .i64 t0, .int .i64 t1, .int .i64 t2, .int .i64 t3] 96)) eD := Kept.trans (kZ0.drew) aG
        clear aG
        have hS : Y11 eD := bv _ cg
        refine hK.out _ _ (fun _ => hS) ?_
        clear hK K
        try simp only [Act.put, sA, s0, sS]
        refine tkV 18 53 (.bool false) hS ?_
        refine tkV 19 54 (.bool false) hS ?_
        refine tkV 20 55 (.bool false) hS ?_
        refine tk 21 56 hS ?_
        refine tk 22 57 hS ?_
        refine o1Q 23 (fun K hK => ?_)
        go_simp
        have hc := iW (eD)
        with_reducible refine hc.mono ?_
        clear hc
        rintro e eu ⟨rfl, aG⟩
        have cJ : Same (wr.alloc (.cells #[.int .i64 t0, .int .i64 t1, .int .i64 t2, .int .i64 t3] 96)) eu := Kept.trans (cg) aG
        clear aG
        have hS : Y11 eu := bv _ cJ
        refine hK.out _ _ (fun _ => hS) ?_
        clear hK K
        try simp only [Act.put, sA, s0, sS]
        refine tkV 24 59 (.bool false) hS ?_
        refine tkV 25 60 (.bool false) hS ?_
        refine tkV 26 61 (.bool false) hS ?_
        refine tk 27 62 hS ?_
        refine tk 28 63 hS ?_
        refine o1Q 29 (fun K hK => ?_)
        go_simp
        have hc := nM (eu)
        with_reducible refine hc.mono ?_
        clear hc
        rintro e eV ⟨rfl, aG⟩
        have eN : Same (wr.alloc (.cells #[.int .i64 t0, .int .i64 t1, .int .i64 t2, .int .i64 t3] 96)) eV := Kept.trans (cJ) aG
        clear aG
        have hS : Y11 eV := bv _ eN
        refine hK.out _ _ (fun _ => hS) ?_
        clear hK K
        try simp only [Act.put, sA, s0, sS]
        refine tkV 30 65 (.bool false) hS ?_
        refine tkV 31 66 (.bool false) hS ?_
        refine tkV 32 67 (.bool false) hS ?_
        refine tk 33 68 hS ?_
        refine tk 34 69 hS ?_
        refine tk 35 70 hS ?_
        refine tk 36 71 hS ?_
        refine o1Q 37 (fun K hK => ?_)
        go_simp
        have hc := s9 (eV)
        with_reducible refine hc.mono ?_
        clear hc
        rintro e jz ⟨rfl, aG⟩
        have fC : Same (wr.alloc (.cells #[.int .i64 t0, .int .i64 t1, .int .i64 t2, .int .i64 t3] 96)) jz := Kept.trans (eN) aG
        clear aG
        have hS : Y11 jz := bv _ fC
        refine hK.out _ _ (fun _ => hS) ?_
        clear hK K
        try simp only [Act.put, sA, s0, sS]
        refine tkV 38 73 (.bool false) hS ?_
        refine tkV 39 74 (.bool false) hS ?_
        refine Q8 (by kernel_rfl) ?_
        go_wp2
        go_roundw
        case rel => exact ⟨k + 1, by omega, by go_num, fun i hi => (Nat.lt_succ_iff_lt_or_eq.1 hi).elim (mD.out i) (fun e => e ▸ gw.out), (HK.out.alloc _).trans fC, (cN.same fC)⟩
        case measure => simp [intOf]; omega
   ·obtain ⟨j, hj⟩ : ∃ j, k = j + 1 := ⟨k - 1, by omega⟩
    have qa := pd.out j hj
    generalize TJ fv k = A at *
    have LU : (0 : Int) < (k : Int) := by omega
    have yW : IntKind.i64.wrap ((k : Int) - 1) = (j : Int) := by rw [show (k : Int) - 1 = (j : Int) from by omega]; exact jbr j (by omega)
    have OM : (j : Int) < txn := by omega
    clear pd du hj
    by_cases hc : t0 ≤ A
    ·have HF := (show Hid (Sq fv k = false) from by rw [fA.out]; unfold R7; rw [decide_eq_false (show ¬ (A < t0) from by omega)]; simp only [Bool.false_and]; exact trivial)
     go_wp2_with fail
     let Y1 : World → Prop := fun wx : World => wx.cell? ⟨w.heap.size, 11, none⟩ = some (.slice (some ⟨txB, jF, none⟩) txn jv) ∧ wx.cell? ⟨wr.heap.size, 0, none⟩ = some (.int .i64 t0) ∧ wx.cell? ⟨wr.heap.size, 1, none⟩ = some (.int .i64 t1) ∧ wx.cell? ⟨wr.heap.size, 2, none⟩ = some (.int .i64 t2) ∧ wx.cell? ⟨wr.heap.size, 3, none⟩ = some (.int .i64 t3) ∧ wx.cell? ⟨txB, jF + j * 4, none⟩ = some (.int .i64 A)
     have bv : ∀ wx, Same (wr.alloc (.cells #[.int .i64 t0, .int .i64 t1, .int .i64 t2, .int .i64 t3] 96)) wx → Y1 wx := fun wx h => ⟨(cN.same h).cell 11, (dL.same h).cell 0, (dL.same h).cell 1, (dL.same h).cell 2, (dL.same h).cell 3, ((kZ0.alloc _).trans h).cellOf qa id⟩
     have hS : Y1 (wr.alloc (.cells #[.int .i64 t0, .int .i64 t1, .int .i64 t2, .int .i64 t3] 96)).drew := by exact bv _ kZ0.drew
     refine Q9 Y1 99 40 rfl (by kernel_rfl) ?_
     refine tk 0 35 hS ?_
     refine tkV 1 36 (.bool true) hS ?_
     refine tkV 2 37 (.bool true) hS ?_
     refine tk 3 38 hS ?_
     refine tk 4 39 hS ?_
     refine tk 5 40 hS ?_
     refine RB (i := 6) (v := .int .i64 (j : Int)) (some 41) rfl rfl (by kernel_rfl) (by kernel_rfl) (by kernel_rfl) (by kernel_rfl) (fun _ _ _ h => h) (Or.inl ⟨by rfl, fun w jc => by (try dsimp (config := { zetaDelta := true }) only at jc); go_simp⟩) hS ?_
     try simp only [Act.put, sA, s0, sS]
     refine tk 7 42 hS ?_
     refine tk 8 43 hS ?_
     refine tk 9 44 hS ?_
     refine tk 10 45 hS ?_
     refine tk 11 46 hS ?_
     refine tkV 12 47 (.bool true) hS ?_
     refine tkV 13 48 (.bool true) hS ?_
     refine tkV 14 49 (.bool true) hS ?_
     refine tkS 15 50 hS ?_
     refine tkS 16 51 hS ?_
     refine tkS 17 52 hS ?_
     refine tkS 18 53 hS ?_
     refine tkV 19 54 (.bool true) hS ?_
     refine tkV 20 55 (.bool true) hS ?_
     refine tkS 21 56 hS ?_
     refine tkS 22 57 hS ?_
     refine tkS 23 58 hS ?_
     refine tkS 24 59 hS ?_
     refine tkV 25 60 (.bool true) hS ?_
     refine tkV 26 61 (.bool true) hS ?_
     refine tkS 27 62 hS ?_
     refine tkS 28 63 hS ?_
     refine tkS 29 64 hS ?_
     refine tkS 30 65 hS ?_
     refine tkV 31 66 (.bool true) hS ?_
     refine tkV 32 67 (.bool true) hS ?_
     refine tkS 33 68 hS ?_
     refine tkS 34 69 hS ?_
     refine tkS 35 70 hS ?_
     refine tkS 36 71 hS ?_
     refine tkS 37 72 hS ?_
     refine tkS 38 73 hS ?_
     refine tkV 39 74 (.bool true) hS ?_
     refine Q8 (by kernel_rfl) ?_
     go_wp2
     go_ret
     exact ⟨by rw [jg.out k bH HF.out]; rfl, (HK.out.alloc _).trans kZ0.drew⟩
    cases gH : inB t0 1 2147483647 with
    | false =>
     have HF := (show Hid (Sq fv k = false) from by rw [fA.out]; unfold R7; rw [show Tq t0 = inB t0 1 2147483647 from rfl, gH]; simp only [Bool.false_and, Bool.and_false]; exact trivial)
     rw [gH] at gv
     go_wp2_with fail
     let Y2 : World → Prop := fun wx : World => wx.cell? ⟨w.heap.size, 11, none⟩ = some (.slice (some ⟨txB, jF, none⟩) txn jv) ∧ wx.cell? ⟨wr.heap.size, 0, none⟩ = some (.int .i64 t0) ∧ wx.cell? ⟨wr.heap.size, 1, none⟩ = some (.int .i64 t1) ∧ wx.cell? ⟨wr.heap.size, 2, none⟩ = some (.int .i64 t2) ∧ wx.cell? ⟨wr.heap.size, 3, none⟩ = some (.int .i64 t3) ∧ wx.cell? ⟨txB, jF + j * 4, none⟩ = some (.int .i64 A)
     have bv : ∀ wx, Same (wr.alloc (.cells #[.int .i64 t0, .int .i64 t1, .int .i64 t2, .int .i64 t3] 96)) wx → Y2 wx := fun wx h => ⟨(cN.same h).cell 11, (dL.same h).cell 0, (dL.same h).cell 1, (dL.same h).cell 2, (dL.same h).cell 3, ((kZ0.alloc _).trans h).cellOf qa id⟩
     have hS : Y2 (wr.alloc (.cells #[.int .i64 t0, .int .i64 t1, .int .i64 t2, .int .i64 t3] 96)).drew := by exact bv _ kZ0.drew
     refine Q9 Y2 99 40 rfl (by kernel_rfl) ?_
     refine tk 0 35 hS ?_
     refine tkV 1 36 (.bool true) hS ?_
     refine tkV 2 37 (.bool true) hS ?_
     refine tk 3 38 hS ?_
     refine tk 4 39 hS ?_
     refine tk 5 40 hS ?_
     refine RB (i := 6) (v := .int .i64 (j : Int)) (some 41) rfl rfl (by kernel_rfl) (by kernel_rfl) (by kernel_rfl) (by kernel_rfl) (fun _ _ _ h => h) (Or.inl ⟨by rfl, fun w jc => by (try dsimp (config := { zetaDelta := true }) only at jc); go_simp⟩) hS ?_
     try simp only [Act.put, sA, s0, sS]
     refine tk 7 42 hS ?_
     refine tk 8 43 hS ?_
     refine tk 9 44 hS ?_
     refine tk 10 45 hS ?_
     refine tk 11 46 hS ?_
     refine tkV 12 47 (.bool false) hS ?_
     refine tkV 13 48 (.bool false) hS ?_
     refine tkV 14 49 (.bool false) hS ?_
     refine tk 15 50 hS ?_
     refine tk 16 51 hS ?_
     refine o1Q 17 (fun K hK => ?_)
     go_simp
     have hc := gv ((wr.alloc (.cells #[.int .i64 t0, .int .i64 t1, .int .i64 t2, .int .i64 t3] 96)).drew)
     with_reducible refine hc.mono ?_
     clear hc
     rintro e eD ⟨rfl, aG⟩
     have cg : Same (wr.alloc (.cells #[.int .i64 t0, .int .i64 t1, .int .i64 t2, .int .i64 t3] 96)) eD := Kept.trans (kZ0.drew) aG
     clear aG
     have hS : Y2 eD := bv _ cg
     refine hK.out _ _ (fun _ => hS) ?_
     clear hK K
     try simp only [Act.put, sA, s0, sS]
     refine tkV 18 53 (.bool true) hS ?_
     refine tkV 19 54 (.bool true) hS ?_
     refine tkV 20 55 (.bool true) hS ?_
     refine tkS 21 56 hS ?_
     refine tkS 22 57 hS ?_
     refine tkS 23 58 hS ?_
     refine tkS 24 59 hS ?_
     refine tkV 25 60 (.bool true) hS ?_
     refine tkV 26 61 (.bool true) hS ?_
     refine tkS 27 62 hS ?_
     refine tkS 28 63 hS ?_
     refine tkS 29 64 hS ?_
     refine tkS 30 65 hS ?_
     refine tkV 31 66 (.bool true) hS ?_
     refine tkV 32 67 (.bool true) hS ?_
     refine tkS 33 68 hS ?_
     refine tkS 34 69 hS ?_
     refine tkS 35 70 hS ?_
     refine tkS 36 71 hS ?_
     refine tkS 37 72 hS ?_
     refine tkS 38 73 hS ?_
     refine tkV 39 74 (.bool true) hS ?_
     refine Q8 (by kernel_rfl) ?_
     go_wp2
     go_ret
     exact ⟨by rw [jg.out k bH HF.out]; rfl, (HK.out.alloc _).trans cg⟩
    | true =>
     cases iT : inB t1 1 3 with
     | false =>
      have HF := (show Hid (Sq fv k = false) from by rw [fA.out]; unfold R7; rw [show (decide (1 ≤ t1) && decide (t1 ≤ 3)) = inB t1 1 3 from rfl, iT]; simp only [Bool.false_and, Bool.and_false]; exact trivial)
      rw [gH] at gv
      rw [iT] at iW
      go_wp2_with fail
      let Y3 : World → Prop := fun wx : World => wx.cell? ⟨w.heap.size, 11, none⟩ = some (.slice (some ⟨txB, jF, none⟩) txn jv) ∧ wx.cell? ⟨wr.heap.size, 0, none⟩ = some (.int .i64 t0) ∧ wx.cell? ⟨wr.heap.size, 1, none⟩ = some (.int .i64 t1) ∧ wx.cell? ⟨wr.heap.size, 2, none⟩ = some (.int .i64 t2) ∧ wx.cell? ⟨wr.heap.size, 3, none⟩ = some (.int .i64 t3) ∧ wx.cell? ⟨txB, jF + j * 4, none⟩ = some (.int .i64 A)
      have bv : ∀ wx, Same (wr.alloc (.cells #[.int .i64 t0, .int .i64 t1, .int .i64 t2, .int .i64 t3] 96)) wx → Y3 wx := fun wx h => ⟨(cN.same h).cell 11, (dL.same h).cell 0, (dL.same h).cell 1, (dL.same h).cell 2, (dL.same h).cell 3, ((kZ0.alloc _).trans h).cellOf qa id⟩
      have hS : Y3 (wr.alloc (.cells #[.int .i64 t0, .int .i64 t1, .int .i64 t2, .int .i64 t3] 96)).drew := by exact bv _ kZ0.drew
      refine Q9 Y3 99 40 rfl (by kernel_rfl) ?_
      refine tk 0 35 hS ?_
      refine tkV 1 36 (.bool true) hS ?_
      refine tkV 2 37 (.bool true) hS ?_
      refine tk 3 38 hS ?_
      refine tk 4 39 hS ?_
      refine tk 5 40 hS ?_
      refine RB (i := 6) (v := .int .i64 (j : Int)) (some 41) rfl rfl (by kernel_rfl) (by kernel_rfl) (by kernel_rfl) (by kernel_rfl) (fun _ _ _ h => h) (Or.inl ⟨by rfl, fun w jc => by (try dsimp (config := { zetaDelta := true }) only at jc); go_simp⟩) hS ?_
      try simp only [Act.put, sA, s0, sS]
      refine tk 7 42 hS ?_
      refine tk 8 43 hS ?_
      refine tk 9 44 hS ?_
      refine tk 10 45 hS ?_
      refine tk 11 46 hS ?_
      refine tkV 12 47 (.bool false) hS ?_
      refine tkV 13 48 (.bool false) hS ?_
      refine tkV 14 49 (.bool false) hS ?_
      refine tk 15 50 hS ?_
      refine tk 16 51 hS ?_
      refine o1Q 17 (fun K hK => ?_)
      go_simp
      have hc := gv ((wr.alloc (.cells #[.int .i64 t0, .int .i64 t1, .int .i64 t2, .int .i64 t3] 96)).drew)
      with_reducible refine hc.mono ?_
      clear hc
      rintro e eD ⟨rfl, aG⟩
      have cg : Same (wr.alloc (.cells #[.int .i64 t0, .int .i64 t1, .int .i64 t2, .int .i64 t3] 96)) eD := Kept.trans (kZ0.drew) aG
      clear aG
      have hS : Y3 eD := bv _ cg
      refine hK.out _ _ (fun _ => hS) ?_
      clear hK K
      try simp only [Act.put, sA, s0, sS]
      refine tkV 18 53 (.bool false) hS ?_
      refine tkV 19 54 (.bool false) hS ?_
      refine tkV 20 55 (.bool false) hS ?_
      refine tk 21 56 hS ?_
      refine tk 22 57 hS ?_
      refine o1Q 23 (fun K hK => ?_)
      go_simp
      have hc := iW (eD)
      with_reducible refine hc.mono ?_
      clear hc
      rintro e eu ⟨rfl, aG⟩
      have cJ : Same (wr.alloc (.cells #[.int .i64 t0, .int .i64 t1, .int .i64 t2, .int .i64 t3] 96)) eu := Kept.trans (cg) aG
      clear aG
      have hS : Y3 eu := bv _ cJ
      refine hK.out _ _ (fun _ => hS) ?_
      clear hK K
      try simp only [Act.put, sA, s0, sS]
      refine tkV 24 59 (.bool true) hS ?_
      refine tkV 25 60 (.bool true) hS ?_
      refine tkV 26 61 (.bool true) hS ?_
      refine tkS 27 62 hS ?_
      refine tkS 28 63 hS ?_
      refine tkS 29 64 hS ?_
      refine tkS 30 65 hS ?_
      refine tkV 31 66 (.bool true) hS ?_
      refine tkV 32 67 (.bool true) hS ?_
      refine tkS 33 68 hS ?_
      refine tkS 34 69 hS ?_
      refine tkS 35 70 hS ?_
      refine tkS 36 71 hS ?_
      refine tkS 37 72 hS ?_
      refine tkS 38 73 hS ?_
      refine tkV 39 74 (.bool true) hS ?_
      refine Q8 (by kernel_rfl) ?_
      go_wp2
      go_ret
      exact ⟨by rw [jg.out k bH HF.out]; rfl, (HK.out.alloc _).trans cJ⟩
     | true =>
      cases nH : inB t2 1 1099511627776 with
      | false =>
       have HF := (show Hid (Sq fv k = false) from by rw [fA.out]; unfold R7; rw [show (decide (1 ≤ t2) && decide (t2 ≤ 1099511627776)) = inB t2 1 1099511627776 from rfl, nH]; simp only [Bool.false_and, Bool.and_false]; exact trivial)
       rw [gH] at gv
       rw [iT] at iW
       rw [nH] at nM
       go_wp2_with fail
       let Y4 : World → Prop := fun wx : World => wx.cell? ⟨w.heap.size, 11, none⟩ = some (.slice (some ⟨txB, jF, none⟩) txn jv) ∧ wx.cell? ⟨wr.heap.size, 0, none⟩ = some (.int .i64 t0) ∧ wx.cell? ⟨wr.heap.size, 1, none⟩ = some (.int .i64 t1) ∧ wx.cell? ⟨wr.heap.size, 2, none⟩ = some (.int .i64 t2) ∧ wx.cell? ⟨wr.heap.size, 3, none⟩ = some (.int .i64 t3) ∧ wx.cell? ⟨txB, jF + j * 4, none⟩ = some (.int .i64 A)
       have bv : ∀ wx, Same (wr.alloc (.cells #[.int .i64 t0, .int .i64 t1, .int .i64 t2, .int .i64 t3] 96)) wx → Y4 wx := fun wx h => ⟨(cN.same h).cell 11, (dL.same h).cell 0, (dL.same h).cell 1, (dL.same h).cell 2, (dL.same h).cell 3, ((kZ0.alloc _).trans h).cellOf qa id⟩
       have hS : Y4 (wr.alloc (.cells #[.int .i64 t0, .int .i64 t1, .int .i64 t2, .int .i64 t3] 96)).drew := by exact bv _ kZ0.drew
       refine Q9 Y4 99 40 rfl (by kernel_rfl) ?_
       refine tk 0 35 hS ?_
       refine tkV 1 36 (.bool true) hS ?_
       refine tkV 2 37 (.bool true) hS ?_
       refine tk 3 38 hS ?_
       refine tk 4 39 hS ?_
       refine tk 5 40 hS ?_
       refine RB (i := 6) (v := .int .i64 (j : Int)) (some 41) rfl rfl (by kernel_rfl) (by kernel_rfl) (by kernel_rfl) (by kernel_rfl) (fun _ _ _ h => h) (Or.inl ⟨by rfl, fun w jc => by (try dsimp (config := { zetaDelta := true }) only at jc); go_simp⟩) hS ?_
       try simp only [Act.put, sA, s0, sS]
       refine tk 7 42 hS ?_
       refine tk 8 43 hS ?_
       refine tk 9 44 hS ?_
       refine tk 10 45 hS ?_
       refine tk 11 46 hS ?_
       refine tkV 12 47 (.bool false) hS ?_
       refine tkV 13 48 (.bool false) hS ?_
       refine tkV 14 49 (.bool false) hS ?_
       refine tk 15 50 hS ?_
       refine tk 16 51 hS ?_
       refine o1Q 17 (fun K hK => ?_)
       go_simp
       have hc := gv ((wr.alloc (.cells #[.int .i64 t0, .int .i64 t1, .int .i64 t2, .int .i64 t3] 96)).drew)
       with_reducible refine hc.mono ?_
       clear hc
       rintro e eD ⟨rfl, aG⟩
       have cg : Same (wr.alloc (.cells #[.int .i64 t0, .int .i64 t1, .int .i64 t2, .int .i64 t3] 96)) eD := Kept.trans (kZ0.drew) aG
       clear aG
       have hS : Y4 eD := bv _ cg
       refine hK.out _ _ (fun _ => hS) ?_
       clear hK K
       try simp only [Act.put, sA, s0, sS]
       refine tkV 18 53 (.bool false) hS ?_
       refine tkV 19 54 (.bool false) hS ?_
       refine tkV 20 55 (.bool false) hS ?_
       refine tk 21 56 hS ?_
       refine tk 22 57 hS ?_
       refine o1Q 23 (fun K hK => ?_)
       go_simp
       have hc := iW (eD)
       with_reducible refine hc.mono ?_
       clear hc
       rintro e eu ⟨rfl, aG⟩
       have cJ : Same (wr.alloc (.cells #[.int .i64 t0, .int .i64 t1, .int .i64 t2, .int .i64 t3] 96)) eu := Kept.trans (cg) aG
       clear aG
       have hS : Y4 eu := bv _ cJ
       refine hK.out _ _ (fun _ => hS) ?_
       clear hK K
       try simp only [Act.put, sA, s0, sS]
       refine tkV 24 59 (.bool false) hS ?_
       refine tkV 25 60 (.bool false) hS ?_
       refine tkV 26 61 (.bool false) hS ?_
       refine tk 27 62 hS ?_
       refine tk 28 63 hS ?_
       refine o1Q 29 (fun K hK => ?_)
       go_simp
       have hc := nM (eu)
       with_reducible refine hc.mono ?_
       clear hc
       rintro e eV ⟨rfl, aG⟩
       have eN : Same (wr.alloc (.cells #[.int .i64 t0, .int .i64 t1, .int .i64 t2, .int .i64 t3] 96)) eV := Kept.trans (cJ) aG
       clear aG
       have hS : Y4 eV := bv _ eN
       refine hK.out _ _ (fun _ => hS) ?_
       clear hK K
       try simp only [Act.put, sA, s0, sS]
       refine tkV 30 65 (.bool true) hS ?_
       refine tkV 31 66 (.bool true) hS ?_
       refine tkV 32 67 (.bool true) hS ?_
       refine tkS 33 68 hS ?_
       refine tkS 34 69 hS ?_
       refine tkS 35 70 hS ?_
       refine tkS 36 71 hS ?_
       refine tkS 37 72 hS ?_
       refine tkS 38 73 hS ?_
       refine tkV 39 74 (.bool true) hS ?_
       refine Q8 (by kernel_rfl) ?_
       go_wp2
       go_ret
       exact ⟨by rw [jg.out k bH HF.out]; rfl, (HK.out.alloc _).trans eN⟩
      | true =>
       cases mP : inB t3 0 t2 with
       | false =>
        have HF := (show Hid (Sq fv k = false) from by rw [fA.out]; unfold R7; rw [show (decide (0 ≤ t3) && decide (t3 ≤ t2)) = inB t3 0 t2 from rfl, mP]; simp only [Bool.false_and, Bool.and_false]; exact trivial)
        rw [gH] at gv
        rw [iT] at iW
        rw [nH] at nM
        rw [mP] at s9
        go_wp2_with fail
        let Y5 : World → Prop := fun wx : World => wx.cell? ⟨w.heap.size, 11, none⟩ = some (.slice (some ⟨txB, jF, none⟩) txn jv) ∧ wx.cell? ⟨wr.heap.size, 0, none⟩ = some (.int .i64 t0) ∧ wx.cell? ⟨wr.heap.size, 1, none⟩ = some (.int .i64 t1) ∧ wx.cell? ⟨wr.heap.size, 2, none⟩ = some (.int .i64 t2) ∧ wx.cell? ⟨wr.heap.size, 3, none⟩ = some (.int .i64 t3) ∧ wx.cell? ⟨txB, jF + j * 4, none⟩ = some (.int .i64 A)
        have bv : ∀ wx, Same (wr.alloc (.cells #[.int .i64 t0, .int .i64 t1, .int .i64 t2, .int .i64 t3] 96)) wx → Y5 wx := fun wx h => ⟨(cN.same h).cell 11, (dL.same h).cell 0, (dL.same h).cell 1, (dL.same h).cell 2, (dL.same h).cell 3, ((kZ0.alloc _).trans h).cellOf qa id⟩
        have hS : Y5 (wr.alloc (.cells #[.int .i64 t0, .int .i64 t1, .int .i64 t2, .int .i64 t3] 96)).drew := by exact bv _ kZ0.drew
        refine Q9 Y5 99 40 rfl (by kernel_rfl) ?_
        refine tk 0 35 hS ?_
        refine tkV 1 36 (.bool true) hS ?_
        refine tkV 2 37 (.bool true) hS ?_
        refine tk 3 38 hS ?_
        refine tk 4 39 hS ?_
        refine tk 5 40 hS ?_
        refine RB (i := 6) (v := .int .i64 (j : Int)) (some 41) rfl rfl (by kernel_rfl) (by kernel_rfl) (by kernel_rfl) (by kernel_rfl) (fun _ _ _ h => h) (Or.inl ⟨by rfl, fun w jc => by (try dsimp (config := { zetaDelta := true }) only at jc); go_simp⟩) hS ?_
        try simp only [Act.put, sA, s0, sS]
        refine tk 7 42 hS ?_
        refine tk 8 43 hS ?_
        refine tk 9 44 hS ?_
        refine tk 10 45 hS ?_
        refine tk 11 46 hS ?_
        refine tkV 12 47 (.bool false) hS ?_
        refine tkV 13 48 (.bool false) hS ?_
        refine tkV 14 49 (.bool false) hS ?_
        refine tk 15 50 hS ?_
        refine tk 16 51 hS ?_
        refine o1Q 17 (fun K hK => ?_)
        go_simp
        have hc := gv ((wr.alloc (.cells #[.int .i64 t0, .int .i64 t1, .int .i64 t2, .int .i64 t3] 96)).drew)
        with_reducible refine hc.mono ?_
        clear hc
        rintro e eD ⟨rfl, aG⟩
        have cg : Same (wr.alloc (.cells #[.int .i64 t0, .int .i64 t1, .int .i64 t2, .int .i64 t3] 96)) eD := Kept.trans (kZ0.drew) aG
        clear aG
        have hS : Y5 eD := bv _ cg
        refine hK.out _ _ (fun _ => hS) ?_
        clear hK K
        try simp only [Act.put, sA, s0, sS]
        refine tkV 18 53 (.bool false) hS ?_
        refine tkV 19 54 (.bool false) hS ?_
        refine tkV 20 55 (.bool false) hS ?_
        refine tk 21 56 hS ?_
        refine tk 22 57 hS ?_
        refine o1Q 23 (fun K hK => ?_)
        go_simp
        have hc := iW (eD)
        with_reducible refine hc.mono ?_
        clear hc
        rintro e eu ⟨rfl, aG⟩
        have cJ : Same (wr.alloc (.cells #[.int .i64 t0, .int .i64 t1, .int .i64 t2, .int .i64 t3] 96)) eu := Kept.trans (cg) aG
        clear aG
        have hS : Y5 eu := bv _ cJ
        refine hK.out _ _ (fun _ => hS) ?_
        clear hK K
        try simp only [Act.put, sA, s0, sS]
        refine tkV 24 59 (.bool false) hS ?_
        refine tkV 25 60 (.bool false) hS ?_
        refine tkV 26 61 (.bool false) hS ?_
        refine tk 27 62 hS ?_
        refine tk 28 63 hS ?_
        refine o1Q 29 (fun K hK => ?_)
        go_simp
        have hc := nM (eu)
        with_reducible refine hc.mono ?_
        clear hc
        rintro e eV ⟨rfl, aG⟩
        have eN : Same (wr.alloc (.cells #[.int .i64 t0, .int .i64 t1, .int .i64 t2, .int .i64 t3] 96)) eV := Kept.trans (cJ) aG
        clear aG
        have hS : Y5 eV := bv _ eN
        refine hK.out _ _ (fun _ => hS) ?_
        clear hK K
        try simp only [Act.put, sA, s0, sS]
        refine tkV 30 65 (.bool false) hS ?_
        refine tkV 31 66 (.bool false) hS ?_
        refine tkV 32 67 (.bool false) hS ?_
        refine tk 33 68 hS ?_
        refine tk 34 69 hS ?_
        refine tk 35 70 hS ?_
        refine tk 36 71 hS ?_
        refine o1Q 37 (fun K hK => ?_)
        go_simp
        have hc := s9 (eV)
        with_reducible refine hc.mono ?_
        clear hc
        rintro e jz ⟨rfl, aG⟩
        have fC : Same (wr.alloc (.cells #[.int .i64 t0, .int .i64 t1, .int .i64 t2, .int .i64 t3] 96)) jz := Kept.trans (eN) aG
        clear aG
        have hS : Y5 jz := bv _ fC
        refine hK.out _ _ (fun _ => hS) ?_
        clear hK K
        try simp only [Act.put, sA, s0, sS]
        refine tkV 38 73 (.bool true) hS ?_
        refine tkV 39 74 (.bool true) hS ?_
        refine Q8 (by kernel_rfl) ?_
        go_wp2
        go_ret
        exact ⟨by rw [jg.out k bH HF.out]; rfl, (HK.out.alloc _).trans fC⟩
       | true =>
        have gw := (show Hid (Sq fv k = true) from by rw [fA.out]; unfold R7; rw [decide_eq_true (show A < t0 from by omega), show Tq t0 = inB t0 1 2147483647 from rfl, gH, show (decide (1 ≤ t1) && decide (t1 ≤ 3)) = inB t1 1 3 from rfl, iT, show (decide (1 ≤ t2) && decide (t2 ≤ 1099511627776)) = inB t2 1 1099511627776 from rfl, nH, show (decide (0 ≤ t3) && decide (t3 ≤ t2)) = inB t3 0 t2 from rfl, mP]; simp only [Bool.and_true, Bool.and_self]; exact trivial)
        rw [gH] at gv
        rw [iT] at iW
        rw [nH] at nM
        rw [mP] at s9
        go_wp2_with fail
        let Y6 : World → Prop := fun wx : World => wx.cell? ⟨w.heap.size, 11, none⟩ = some (.slice (some ⟨txB, jF, none⟩) txn jv) ∧ wx.cell? ⟨wr.heap.size, 0, none⟩ = some (.int .i64 t0) ∧ wx.cell? ⟨wr.heap.size, 1, none⟩ = some (.int .i64 t1) ∧ wx.cell? ⟨wr.heap.size, 2, none⟩ = some (.int .i64 t2) ∧ wx.cell? ⟨wr.heap.size, 3, none⟩ = some (.int .i64 t3) ∧ wx.cell? ⟨txB, jF + j * 4, none⟩ = some (.int .i64 A)
        have bv : ∀ wx, Same (wr.alloc (.cells #[.int .i64 t0, .int .i64 t1, .int .i64 t2, .int .i64 t3] 96)) wx → Y6 wx := fun wx h => ⟨(cN.same h).cell 11, (dL.same h).cell 0, (dL.same h).cell 1, (dL.same h).cell 2, (dL.same h).cell 3, ((kZ0.alloc _).trans h).cellOf qa id⟩
        have hS : Y6 (wr.alloc (.cells #[.int .i64 t0, .int .i64 t1, .int .i64 t2, .int .i64 t3] 96)).drew := by exact bv _ kZ0.drew
        refine Q9 Y6 99 40 rfl (by kernel_rfl) ?_
        refine tk 0 35 hS ?_
        refine tkV 1 36 (.bool true) hS ?_
        refine tkV 2 37 (.bool true) hS ?_
        refine tk 3 38 hS ?_
        refine tk 4 39 hS ?_
        refine tk 5 40 hS ?_
        refine RB (i := 6) (v := .int .i64 (j : Int)) (some 41) rfl rfl (by kernel_rfl) (by kernel_rfl) (by kernel_rfl) (by kernel_rfl) (fun _ _ _ h => h) (Or.inl ⟨by rfl, fun w jc => by (try dsimp (config := { zetaDelta := true }) only at jc); go_simp⟩) hS ?_
        try simp only [Act.put, sA, s0, sS]
        refine tk 7 42 hS ?_
        refine tk 8 43 hS ?_
        refine tk 9 44 hS ?_
        refine tk 10 45 hS ?_
        refine tk 11 46 hS ?_
        refine tkV 12 47 (.bool false) hS ?_
        refine tkV 13 48 (.bool false) hS ?_
        refine tkV 14 49 (.bool false) hS ?_
        refine tk 15 50 hS ?_
        refine tk 16 51 hS ?_
        refine o1Q 17 (fun K hK => ?_)
        go_simp
        have hc := gv ((wr.alloc (.cells #[.int .i64 t0, .int .i64 t1, .int .i64 t2, .int .i64 t3] 96)).drew)
        with_reducible refine hc.mono ?_
        clear hc
        rintro e eD ⟨rfl, aG⟩
        have cg : Same (wr.alloc (.cells #[.int .i64 t0, .int .i64 t1, .int .i64 t2, .int .i64 t3] 96)) eD := Kept.trans (kZ0.drew) aG
        clear aG
        have hS : Y6 eD := bv _ cg
        refine hK.out _ _ (fun _ => hS) ?_
        clear hK K
        try simp only [Act.put, sA, s0, sS]
        refine tkV 18 53 (.bool false) hS ?_
        refine tkV 19 54 (.bool false) hS ?_
        refine tkV 20 55 (.bool false) hS ?_
        refine tk 21 56 hS ?_
        refine tk 22 57 hS ?_
        refine o1Q 23 (fun K hK => ?_)
        go_simp
        have hc := iW (eD)
        with_reducible refine hc.mono ?_
        clear hc
        rintro e eu ⟨rfl, aG⟩
        have cJ : Same (wr.alloc (.cells #[.int .i64 t0, .int .i64 t1, .int .i64 t2, .int .i64 t3] 96)) eu := Kept.trans (cg) aG
        clear aG
        have hS : Y6 eu := bv _ cJ
        refine hK.out _ _ (fun _ => hS) ?_
        clear hK K
        try simp only [Act.put, sA, s0, sS]
        refine tkV 24 59 (.bool false) hS ?_
        refine tkV 25 60 (.bool false) hS ?_
        refine tkV 26 61 (.bool false) hS ?_
        refine tk 27 62 hS ?_
        refine tk 28 63 hS ?_
        refine o1Q 29 (fun K hK => ?_)
        go_simp
        have hc := nM (eu)
        with_reducible refine hc.mono ?_
        clear hc
        rintro e eV ⟨rfl, aG⟩
        have eN : Same (wr.alloc (.cells #[.int .i64 t0, .int .i64 t1, .int .i64 t2, .int .i64 t3] 96)) eV := Kept.trans (cJ) aG
        clear aG
        have hS : Y6 eV := bv _ eN
        refine hK.out _ _ (fun _ => hS) ?_
        clear hK K
        try simp only [Act.put, sA, s0, sS]
        refine tkV 30 65 (.bool false) hS ?_
        refine tkV 31 66 (.bool false) hS ?_
        refine tkV 32 67 (.bool false) hS ?_
        refine tk 33 68 hS ?_
        refine tk 34 69 hS ?_
        refine tk 35 70 hS ?_
        refine tk 36 71 hS ?_
        refine o1Q 37 (fun K hK => ?_)
        go_simp
        have hc := s9 (eV)
        with_reducible refine hc.mono ?_
        clear hc
        rintro e jz ⟨rfl, aG⟩
        have fC : Same (wr.alloc (.cells #[.int .i64 t0, .int .i64 t1, .int .i64 t2, .int .i64 t3] 96)) jz := Kept.trans (eN) aG
        clear aG
        have hS : Y6 jz := bv _ fC
        refine hK.out _ _ (fun _ => hS) ?_
        clear hK K
        try simp only [Act.put, sA, s0, sS]
        refine tkV 38 73 (.bool false) hS ?_
        refine tkV 39 74 (.bool false) hS ?_
        refine Q8 (by kernel_rfl) ?_
        go_wp2
        go_roundw
        case rel => exact ⟨k + 1, by omega, by go_num, fun i hi => (Nat.lt_succ_iff_lt_or_eq.1 hi).elim (mD.out i) (fun e => e ▸ gw.out), (HK.out.alloc _).trans fC, (cN.same fC)⟩
        case measure => simp [intOf]; omega
  ·have Cg := (show Hid (∀ k, k < txn → Sq fv k = true) from fun i hi => mD.out i (by omega))
   go_wp2
   go_loopw [5, 6] (fun i _ wr => ∃ (k : Nat), k ≤ dyn ∧ i = .int .i64 k ∧ Hid (∀ j, j < k → Sj gD j = true) ∧ Hid (Same w wr) ∧ Hid (Blk wr w.heap.size 50 [.int .i64 kind, .int .i64 nx, .int .i64 prev, .int .i64 page, .int .i64 slot, .bool af, .slice ah ai ag, .bool ak, .slice ao ap al, .int .i64 uN, .int .i64 nT, .slice nK txn jv, .slice nP dyn kj, .slice ax aj ay])) (fun i _ _ => dyn - (intOf i).toNat)
   case atStart => exact ⟨0, Nat.zero_le _, rfl, fun j hj => absurd hj (by omega), HK, HB⟩
   case round =>
    clear mD HK HB d0 d1 d2 d3 d4 d5 d6 d7 d8 d9 cD cw cA cC hk bH
    obtain ⟨k, hk, rfl, mD, HK, HB⟩ := hrel
    obtain ⟨d0, d1, d2, d3, d4, d5, d6, d7, d8, d9, cD, cw, cA, cC⟩ := HB.out.all14
    by_cases bH : k < dyn
    ·obtain ⟨dyB, mO, Dl, Jk, qE⟩ := rh.out (by omega)
     subst Dl
     have q0 : wr.cell? ⟨dyB, mO + k * 2, none⟩ = some (.int .i64 (gD.getD (k * 2) 0)) := by have h := HK.out.cellOf (qE (k * 2) (by omega)) id; simpa only [Nat.add_assoc] using h
     have q1 : wr.cell? ⟨dyB, mO + k * 2 + 1, none⟩ = some (.int .i64 (gD.getD (k * 2 + 1) 0)) := by have h := HK.out.cellOf (qE (k * 2 + 1) (by omega)) id; simpa only [Nat.add_assoc] using h
     have fA := (show Hid (Sj gD k = Sy (Tp gD k) (gD.getD (k * 2) 0) (gD.getD (k * 2 + 1) 0)) from rfl)
     have pd := (show Hid (∀ j, k = j + 1 → wr.cell? ⟨dyB, mO + j * 2, none⟩ = some (.int .i64 (Tp gD k))) from fun j hj => by subst hj; exact HK.out.cellOf (qE (j * 2) (by omega)) id)
     clear qE
     generalize gD.getD (k * 2) 0 = t0 at *
     generalize gD.getD (k * 2 + 1) 0 = t1 at *
     have cN := HB.out.alloc (.cells #[.int .i64 t0, .int .i64 t1] 98)
     have dL := Blk.new wr #[.int .i64 t0, .int .i64 t1] 98
     have gv := fun wx => Rm t0 0 15 wx
     have iW := fun wx => Rm t1 1 1099511627776 wx
     by_cases du : k = 0
     ·have iX : ¬ (0 : Int) < (k : Int) := by omega
      have hA : Tp gD k = -1 := by rw [du]; rfl
      rw [hA] at fA
      clear pd du
      cases gH : inB t0 0 15 with
      | false =>
       have HF := (show Hid (Sj gD k = false) from by rw [fA.out]; unfold Sy; rw [UM t0, gH]; simp only [Bool.false_and, Bool.and_false]; exact trivial)
       rw [gH] at gv
       go_wp2_with fail
       let Y16 : World → Prop := fun wx : World => wx.cell? ⟨w.heap.size, 12, none⟩ = some (.slice (some ⟨dyB, mO, none⟩) dyn kj) ∧ wx.cell? ⟨wr.heap.size, 0, none⟩ = some (.int .i64 t0) ∧ wx.cell? ⟨wr.heap.size, 1, none⟩ = some (.int .i64 t1)
       have bv : ∀ wx, Same (wr.alloc (.cells #[.int .i64 t0, .int .i64 t1] 98)) wx → Y16 wx := fun wx h => ⟨(cN.same h).cell 12, (dL.same h).cell 0, (dL.same h).cell 1⟩
       have hS : Y16 (wr.alloc (.cells #[.int .i64 t0, .int .i64 t1] 98)).drew := by exact bv _ kZ0.drew
       refine Q9 Y16 99 26 rfl (by kernel_rfl) ?_
       refine tk 0 87 hS ?_
       refine tkV 1 88 (.bool false) hS ?_
       refine tkV 2 89 (.bool false) hS ?_
       refine tkS 3 90 hS ?_
       refine tkS 4 91 hS ?_
       refine tkS 5 92 hS ?_
       refine tkS 6 93 hS ?_
       refine tkS 7 94 hS ?_
       refine tkS 8 95 hS ?_
       refine tkS 9 96 hS ?_
       refine tkS 10 97 hS ?_
       refine tkS 11 98 hS ?_
       refine tkS 12 99 hS ?_
       refine tkV 13 100 (.bool false) hS ?_
       refine tkV 14 101 (.bool false) hS ?_
       refine tk 15 102 hS ?_
       refine tk 16 103 hS ?_
       refine o1Q 17 (fun K hK => ?_)
       go_simp
       have hc := gv ((wr.alloc (.cells #[.int .i64 t0, .int .i64 t1] 98)).drew)
       with_reducible refine hc.mono ?_
       clear hc
       rintro e eD ⟨rfl, aG⟩
       have cg : Same (wr.alloc (.cells #[.int .i64 t0, .int .i64 t1] 98)) eD := Kept.trans (kZ0.drew) aG
       clear aG
       have hS : Y16 eD := bv _ cg
       refine hK.out _ _ (fun _ => hS) ?_
       clear hK K
       try simp only [Act.put, sA, s0, sS]
       refine tkV 18 105 (.bool true) hS ?_
       refine tkV 19 106 (.bool true) hS ?_
       refine tkV 20 107 (.bool true) hS ?_
       refine tkS 21 108 hS ?_
       refine tkS 22 109 hS ?_
       refine tkS 23 110 hS ?_
       refine tkS 24 111 hS ?_
       refine tkV 25 112 (.bool true) hS ?_
       refine Q8 (by kernel_rfl) ?_
       go_wp2
       go_ret
       exact ⟨by rw [pC.out k bH HF.out]; rfl, (HK.out.alloc _).trans cg⟩
      | true =>
       cases iT : inB t1 1 1099511627776 with
       | false =>
        have HF := (show Hid (Sj gD k = false) from by rw [fA.out]; unfold Sy; rw [show (decide (1 ≤ t1) && decide (t1 ≤ 1099511627776)) = inB t1 1 1099511627776 from rfl, iT]; simp only [Bool.false_and, Bool.and_false]; exact trivial)
        rw [gH] at gv
        rw [iT] at iW
        go_wp2_with fail
        let Y17 : World → Prop := fun wx : World => wx.cell? ⟨w.heap.size, 12, none⟩ = some (.slice (some ⟨dyB, mO, none⟩) dyn kj) ∧ wx.cell? ⟨wr.heap.size, 0, none⟩ = some (.int .i64 t0) ∧ wx.cell? ⟨wr.heap.size, 1, none⟩ = some (.int .i64 t1)
        have bv : ∀ wx, Same (wr.alloc (.cells #[.int .i64 t0, .int .i64 t1] 98)) wx → Y17 wx := fun wx h => ⟨(cN.same h).cell 12, (dL.same h).cell 0, (dL.same h).cell 1⟩
        have hS : Y17 (wr.alloc (.cells #[.int .i64 t0, .int .i64 t1] 98)).drew := by exact bv _ kZ0.drew
        refine Q9 Y17 99 26 rfl (by kernel_rfl) ?_
        refine tk 0 87 hS ?_
        refine tkV 1 88 (.bool false) hS ?_
        refine tkV 2 89 (.bool false) hS ?_
        refine tkS 3 90 hS ?_
        refine tkS 4 91 hS ?_
        refine tkS 5 92 hS ?_
        refine tkS 6 93 hS ?_
        refine tkS 7 94 hS ?_
        refine tkS 8 95 hS ?_
        refine tkS 9 96 hS ?_
        refine tkS 10 97 hS ?_
        refine tkS 11 98 hS ?_
        refine tkS 12 99 hS ?_
        refine tkV 13 100 (.bool false) hS ?_
        refine tkV 14 101 (.bool false) hS ?_
        refine tk 15 102 hS ?_
        refine tk 16 103 hS ?_
        refine o1Q 17 (fun K hK => ?_)
        go_simp
        have hc := gv ((wr.alloc (.cells #[.int .i64 t0, .int .i64 t1] 98)).drew)
        with_reducible refine hc.mono ?_
        clear hc
        rintro e eD ⟨rfl, aG⟩
        have cg : Same (wr.alloc (.cells #[.int .i64 t0, .int .i64 t1] 98)) eD := Kept.trans (kZ0.drew) aG
        clear aG
        have hS : Y17 eD := bv _ cg
        refine hK.out _ _ (fun _ => hS) ?_
        clear hK K
        try simp only [Act.put, sA, s0, sS]
        refine tkV 18 105 (.bool false) hS ?_
        refine tkV 19 106 (.bool false) hS ?_
        refine tkV 20 107 (.bool false) hS ?_
        refine tk 21 108 hS ?_
        refine tk 22 109 hS ?_
        refine o1Q 23 (fun K hK => ?_)
        go_simp
        have hc := iW (eD)
        with_reducible refine hc.mono ?_
        clear hc
        rintro e eu ⟨rfl, aG⟩
        have cJ : Same (wr.alloc (.cells #[.int .i64 t0, .int .i64 t1] 98)) eu := Kept.trans (cg) aG
        clear aG
        have hS : Y17 eu := bv _ cJ
        refine hK.out _ _ (fun _ => hS) ?_
        clear hK K
        try simp only [Act.put, sA, s0, sS]
        refine tkV 24 111 (.bool true) hS ?_
        refine tkV 25 112 (.bool true) hS ?_
        refine Q8 (by kernel_rfl) ?_
        go_wp2
        go_ret
        exact ⟨by rw [pC.out k bH HF.out]; rfl, (HK.out.alloc _).trans cJ⟩
       | true =>
        have gw := (show Hid (Sj gD k = true) from by rw [fA.out]; unfold Sy; rw [decide_eq_true (show -1 < t0 from by have h := gH; simp [inB] at h; omega), UM t0, gH, show (decide (1 ≤ t1) && decide (t1 ≤ 1099511627776)) = inB t1 1 1099511627776 from rfl, iT]; simp only [Bool.and_true, Bool.and_self]; exact trivial)
        rw [gH] at gv
        rw [iT] at iW
        go_wp2_with fail
        let Y18 : World → Prop := fun wx : World => wx.cell? ⟨w.heap.size, 12, none⟩ = some (.slice (some ⟨dyB, mO, none⟩) dyn kj) ∧ wx.cell? ⟨wr.heap.size, 0, none⟩ = some (.int .i64 t0) ∧ wx.cell? ⟨wr.heap.size, 1, none⟩ = some (.int .i64 t1)
        have bv : ∀ wx, Same (wr.alloc (.cells #[.int .i64 t0, .int .i64 t1] 98)) wx → Y18 wx := fun wx h => ⟨(cN.same h).cell 12, (dL.same h).cell 0, (dL.same h).cell 1⟩
        have hS : Y18 (wr.alloc (.cells #[.int .i64 t0, .int .i64 t1] 98)).drew := by exact bv _ kZ0.drew
        refine Q9 Y18 99 26 rfl (by kernel_rfl) ?_
        refine tk 0 87 hS ?_
        refine tkV 1 88 (.bool false) hS ?_
        refine tkV 2 89 (.bool false) hS ?_
        refine tkS 3 90 hS ?_
        refine tkS 4 91 hS ?_
        refine tkS 5 92 hS ?_
        refine tkS 6 93 hS ?_
        refine tkS 7 94 hS ?_
        refine tkS 8 95 hS ?_
        refine tkS 9 96 hS ?_
        refine tkS 10 97 hS ?_
        refine tkS 11 98 hS ?_
        refine tkS 12 99 hS ?_
        refine tkV 13 100 (.bool false) hS ?_
        refine tkV 14 101 (.bool false) hS ?_
        refine tk 15 102 hS ?_
        refine tk 16 103 hS ?_
        refine o1Q 17 (fun K hK => ?_)
        go_simp
        have hc := gv ((wr.alloc (.cells #[.int .i64 t0, .int .i64 t1] 98)).drew)
        with_reducible refine hc.mono ?_
        clear hc
        rintro e eD ⟨rfl, aG⟩
        have cg : Same (wr.alloc (.cells #[.int .i64 t0, .int .i64 t1] 98)) eD := Kept.trans (kZ0.drew) aG
        clear aG
        have hS : Y18 eD := bv _ cg
        refine hK.out _ _ (fun _ => hS) ?_
        clear hK K
        try simp only [Act.put, sA, s0, sS]
        refine tkV 18 105 (.bool false) hS ?_
        refine tkV 19 106 (.bool false) hS ?_
        refine tkV 20 107 (.bool false) hS ?_
        refine tk 21 108 hS ?_
        refine tk 22 109 hS ?_
        refine o1Q 23 (fun K hK => ?_)
        go_simp
        have hc := iW (eD)
        with_reducible refine hc.mono ?_
        clear hc
        rintro e eu ⟨rfl, aG⟩
        have cJ : Same (wr.alloc (.cells #[.int .i64 t0, .int .i64 t1] 98)) eu := Kept.trans (cg) aG
        clear aG
        have hS : Y18 eu := bv _ cJ
        refine hK.out _ _ (fun _ => hS) ?_
        clear hK K
        try simp only [Act.put, sA, s0, sS]
        refine tkV 24 111 (.bool false) hS ?_
        refine tkV 25 112 (.bool false) hS ?_
        refine Q8 (by kernel_rfl) ?_
        go_wp2
        go_roundw
        case rel => exact ⟨k + 1, by omega, by go_num, fun i hi => (Nat.lt_succ_iff_lt_or_eq.1 hi).elim (mD.out i) (fun e => e ▸ gw.out), (HK.out.alloc _).trans cJ, (cN.same cJ)⟩
        case measure => simp [intOf]; omega
     ·obtain ⟨j, hj⟩ : ∃ j, k = j + 1 := ⟨k - 1, by omega⟩
      have qa := pd.out j hj
      generalize Tp gD k = A at *
      have LU : (0 : Int) < (k : Int) := by omega
      have yW : IntKind.i64.wrap ((k : Int) - 1) = (j : Int) := by rw [show (k : Int) - 1 = (j : Int) from by omega]; exact jbr j (by omega)
      have OM : (j : Int) < dyn := by omega
      clear pd du hj
      by_cases hc : t0 ≤ A
      ·have HF := (show Hid (Sj gD k = false) from by rw [fA.out]; unfold Sy; rw [decide_eq_false (show ¬ (A < t0) from by omega)]; simp only [Bool.false_and]; exact trivial)
       go_wp2_with fail
       let Y12 : World → Prop := fun wx : World => wx.cell? ⟨w.heap.size, 12, none⟩ = some (.slice (some ⟨dyB, mO, none⟩) dyn kj) ∧ wx.cell? ⟨wr.heap.size, 0, none⟩ = some (.int .i64 t0) ∧ wx.cell? ⟨wr.heap.size, 1, none⟩ = some (.int .i64 t1) ∧ wx.cell? ⟨dyB, mO + j * 2, none⟩ = some (.int .i64 A)
       have bv : ∀ wx, Same (wr.alloc (.cells #[.int .i64 t0, .int .i64 t1] 98)) wx → Y12 wx := fun wx h => ⟨(cN.same h).cell 12, (dL.same h).cell 0, (dL.same h).cell 1, ((kZ0.alloc _).trans h).cellOf qa id⟩
       have hS : Y12 (wr.alloc (.cells #[.int .i64 t0, .int .i64 t1] 98)).drew := by exact bv _ kZ0.drew
       refine Q9 Y12 99 26 rfl (by kernel_rfl) ?_
       refine tk 0 87 hS ?_
       refine tkV 1 88 (.bool true) hS ?_
       refine tkV 2 89 (.bool true) hS ?_
       refine tk 3 90 hS ?_
       refine tk 4 91 hS ?_
       refine tk 5 92 hS ?_
       refine RB (i := 6) (v := .int .i64 (j : Int)) (some 93) rfl rfl (by kernel_rfl) (by kernel_rfl) (by kernel_rfl) (by kernel_rfl) (fun _ _ _ h => h) (Or.inl ⟨by rfl, fun w jc => by (try dsimp (config := { zetaDelta := true }) only at jc); go_simp⟩) hS ?_
       try simp only [Act.put, sA, s0, sS]
       refine tk 7 94 hS ?_
       refine tk 8 95 hS ?_
       refine tk 9 96 hS ?_
       refine tk 10 97 hS ?_
       refine tk 11 98 hS ?_
       refine tkV 12 99 (.bool true) hS ?_
       refine tkV 13 100 (.bool true) hS ?_
       refine tkV 14 101 (.bool true) hS ?_
       refine tkS 15 102 hS ?_
       refine tkS 16 103 hS ?_
       refine tkS 17 104 hS ?_
       refine tkS 18 105 hS ?_
       refine tkV 19 106 (.bool true) hS ?_
       refine tkV 20 107 (.bool true) hS ?_
       refine tkS 21 108 hS ?_
       refine tkS 22 109 hS ?_
       refine tkS 23 110 hS ?_
       refine tkS 24 111 hS ?_
       refine tkV 25 112 (.bool true) hS ?_
       refine Q8 (by kernel_rfl) ?_
       go_wp2
       go_ret
       exact ⟨by rw [pC.out k bH HF.out]; rfl, (HK.out.alloc _).trans kZ0.drew⟩
      cases gH : inB t0 0 15 with
      | false =>
       have HF := (show Hid (Sj gD k = false) from by rw [fA.out]; unfold Sy; rw [UM t0, gH]; simp only [Bool.false_and, Bool.and_false]; exact trivial)
       rw [gH] at gv
       go_wp2_with fail
       let Y13 : World → Prop := fun wx : World => wx.cell? ⟨w.heap.size, 12, none⟩ = some (.slice (some ⟨dyB, mO, none⟩) dyn kj) ∧ wx.cell? ⟨wr.heap.size, 0, none⟩ = some (.int .i64 t0) ∧ wx.cell? ⟨wr.heap.size, 1, none⟩ = some (.int .i64 t1) ∧ wx.cell? ⟨dyB, mO + j * 2, none⟩ = some (.int .i64 A)
       have bv : ∀ wx, Same (wr.alloc (.cells #[.int .i64 t0, .int .i64 t1] 98)) wx → Y13 wx := fun wx h => ⟨(cN.same h).cell 12, (dL.same h).cell 0, (dL.same h).cell 1, ((kZ0.alloc _).trans h).cellOf qa id⟩
       have hS : Y13 (wr.alloc (.cells #[.int .i64 t0, .int .i64 t1] 98)).drew := by exact bv _ kZ0.drew
       refine Q9 Y13 99 26 rfl (by kernel_rfl) ?_
       refine tk 0 87 hS ?_
       refine tkV 1 88 (.bool true) hS ?_
       refine tkV 2 89 (.bool true) hS ?_
       refine tk 3 90 hS ?_
       refine tk 4 91 hS ?_
       refine tk 5 92 hS ?_
       refine RB (i := 6) (v := .int .i64 (j : Int)) (some 93) rfl rfl (by kernel_rfl) (by kernel_rfl) (by kernel_rfl) (by kernel_rfl) (fun _ _ _ h => h) (Or.inl ⟨by rfl, fun w jc => by (try dsimp (config := { zetaDelta := true }) only at jc); go_simp⟩) hS ?_
       try simp only [Act.put, sA, s0, sS]
       refine tk 7 94 hS ?_
       refine tk 8 95 hS ?_
       refine tk 9 96 hS ?_
       refine tk 10 97 hS ?_
       refine tk 11 98 hS ?_
       refine tkV 12 99 (.bool false) hS ?_
       refine tkV 13 100 (.bool false) hS ?_
       refine tkV 14 101 (.bool false) hS ?_
       refine tk 15 102 hS ?_
       refine tk 16 103 hS ?_
       refine o1Q 17 (fun K hK => ?_)
       go_simp
       have hc := gv ((wr.alloc (.cells #[.int .i64 t0, .int .i64 t1] 98)).drew)
       with_reducible refine hc.mono ?_
       clear hc
       rintro e eD ⟨rfl, aG⟩
       have cg : Same (wr.alloc (.cells #[.int .i64 t0, .int .i64 t1] 98)) eD := Kept.trans (kZ0.drew) aG
       clear aG
       have hS : Y13 eD := bv _ cg
       refine hK.out _ _ (fun _ => hS) ?_
       clear hK K
       try simp only [Act.put, sA, s0, sS]
       refine tkV 18 105 (.bool true) hS ?_
       refine tkV 19 106 (.bool true) hS ?_
       refine tkV 20 107 (.bool true) hS ?_
       refine tkS 21 108 hS ?_
       refine tkS 22 109 hS ?_
       refine tkS 23 110 hS ?_
       refine tkS 24 111 hS ?_
       refine tkV 25 112 (.bool true) hS ?_
       refine Q8 (by kernel_rfl) ?_
       go_wp2
       go_ret
       exact ⟨by rw [pC.out k bH HF.out]; rfl, (HK.out.alloc _).trans cg⟩
      | true =>
       cases iT : inB t1 1 1099511627776 with
       | false =>
        have HF := (show Hid (Sj gD k = false) from by rw [fA.out]; unfold Sy; rw [show (decide (1 ≤ t1) && decide (t1 ≤ 1099511627776)) = inB t1 1 1099511627776 from rfl, iT]; simp only [Bool.false_and, Bool.and_false]; exact trivial)
        rw [gH] at gv
        rw [iT] at iW
        go_wp2_with fail
        let Y14 : World → Prop := fun wx : World => wx.cell? ⟨w.heap.size, 12, none⟩ = some (.slice (some ⟨dyB, mO, none⟩) dyn kj) ∧ wx.cell? ⟨wr.heap.size, 0, none⟩ = some (.int .i64 t0) ∧ wx.cell? ⟨wr.heap.size, 1, none⟩ = some (.int .i64 t1) ∧ wx.cell? ⟨dyB, mO + j * 2, none⟩ = some (.int .i64 A)
        have bv : ∀ wx, Same (wr.alloc (.cells #[.int .i64 t0, .int .i64 t1] 98)) wx → Y14 wx := fun wx h => ⟨(cN.same h).cell 12, (dL.same h).cell 0, (dL.same h).cell 1, ((kZ0.alloc _).trans h).cellOf qa id⟩
        have hS : Y14 (wr.alloc (.cells #[.int .i64 t0, .int .i64 t1] 98)).drew := by exact bv _ kZ0.drew
        refine Q9 Y14 99 26 rfl (by kernel_rfl) ?_
        refine tk 0 87 hS ?_
        refine tkV 1 88 (.bool true) hS ?_
        refine tkV 2 89 (.bool true) hS ?_
        refine tk 3 90 hS ?_
        refine tk 4 91 hS ?_
        refine tk 5 92 hS ?_
        refine RB (i := 6) (v := .int .i64 (j : Int)) (some 93) rfl rfl (by kernel_rfl) (by kernel_rfl) (by kernel_rfl) (by kernel_rfl) (fun _ _ _ h => h) (Or.inl ⟨by rfl, fun w jc => by (try dsimp (config := { zetaDelta := true }) only at jc); go_simp⟩) hS ?_
        try simp only [Act.put, sA, s0, sS]
        refine tk 7 94 hS ?_
        refine tk 8 95 hS ?_
        refine tk 9 96 hS ?_
        refine tk 10 97 hS ?_
        refine tk 11 98 hS ?_
        refine tkV 12 99 (.bool false) hS ?_
        refine tkV 13 100 (.bool false) hS ?_
        refine tkV 14 101 (.bool false) hS ?_
        refine tk 15 102 hS ?_
        refine tk 16 103 hS ?_
        refine o1Q 17 (fun K hK => ?_)
        go_simp
        have hc := gv ((wr.alloc (.cells #[.int .i64 t0, .int .i64 t1] 98)).drew)
        with_reducible refine hc.mono ?_
        clear hc
        rintro e eD ⟨rfl, aG⟩
        have cg : Same (wr.alloc (.cells #[.int .i64 t0, .int .i64 t1] 98)) eD := Kept.trans (kZ0.drew) aG
        clear aG
        have hS : Y14 eD := bv _ cg
        refine hK.out _ _ (fun _ => hS) ?_
        clear hK K
        try simp only [Act.put, sA, s0, sS]
        refine tkV 18 105 (.bool false) hS ?_
        refine tkV 19 106 (.bool false) hS ?_
        refine tkV 20 107 (.bool false) hS ?_
        refine tk 21 108 hS ?_
        refine tk 22 109 hS ?_
        refine o1Q 23 (fun K hK => ?_)
        go_simp
        have hc := iW (eD)
        with_reducible refine hc.mono ?_
        clear hc
        rintro e eu ⟨rfl, aG⟩
        have cJ : Same (wr.alloc (.cells #[.int .i64 t0, .int .i64 t1] 98)) eu := Kept.trans (cg) aG
        clear aG
        have hS : Y14 eu := bv _ cJ
        refine hK.out _ _ (fun _ => hS) ?_
        clear hK K
        try simp only [Act.put, sA, s0, sS]
        refine tkV 24 111 (.bool true) hS ?_
        refine tkV 25 112 (.bool true) hS ?_
        refine Q8 (by kernel_rfl) ?_
        go_wp2
        go_ret
        exact ⟨by rw [pC.out k bH HF.out]; rfl, (HK.out.alloc _).trans cJ⟩
       | true =>
        have gw := (show Hid (Sj gD k = true) from by rw [fA.out]; unfold Sy; rw [decide_eq_true (show A < t0 from by omega), UM t0, gH, show (decide (1 ≤ t1) && decide (t1 ≤ 1099511627776)) = inB t1 1 1099511627776 from rfl, iT]; simp only [Bool.and_true, Bool.and_self]; exact trivial)
        rw [gH] at gv
        rw [iT] at iW
        go_wp2_with fail
        let Y15 : World → Prop := fun wx : World => wx.cell? ⟨w.heap.size, 12, none⟩ = some (.slice (some ⟨dyB, mO, none⟩) dyn kj) ∧ wx.cell? ⟨wr.heap.size, 0, none⟩ = some (.int .i64 t0) ∧ wx.cell? ⟨wr.heap.size, 1, none⟩ = some (.int .i64 t1) ∧ wx.cell? ⟨dyB, mO + j * 2, none⟩ = some (.int .i64 A)
        have bv : ∀ wx, Same (wr.alloc (.cells #[.int .i64 t0, .int .i64 t1] 98)) wx → Y15 wx := fun wx h => ⟨(cN.same h).cell 12, (dL.same h).cell 0, (dL.same h).cell 1, ((kZ0.alloc _).trans h).cellOf qa id⟩
        have hS : Y15 (wr.alloc (.cells #[.int .i64 t0, .int .i64 t1] 98)).drew := by exact bv _ kZ0.drew
        refine Q9 Y15 99 26 rfl (by kernel_rfl) ?_
        refine tk 0 87 hS ?_
        refine tkV 1 88 (.bool true) hS ?_
        refine tkV 2 89 (.bool true) hS ?_
        refine tk 3 90 hS ?_
        refine tk 4 91 hS ?_
        refine tk 5 92 hS ?_
        refine RB (i := 6) (v := .int .i64 (j : Int)) (some 93) rfl rfl (by kernel_rfl) (by kernel_rfl) (by kernel_rfl) (by kernel_rfl) (fun _ _ _ h => h) (Or.inl ⟨by rfl, fun w jc => by (try dsimp (config := { zetaDelta := true }) only at jc); go_simp⟩) hS ?_
        try simp only [Act.put, sA, s0, sS]
        refine tk 7 94 hS ?_
        refine tk 8 95 hS ?_
        refine tk 9 96 hS ?_
        refine tk 10 97 hS ?_
        refine tk 11 98 hS ?_
        refine tkV 12 99 (.bool false) hS ?_
        refine tkV 13 100 (.bool false) hS ?_
        refine tkV 14 101 (.bool false) hS ?_
        refine tk 15 102 hS ?_
        refine tk 16 103 hS ?_
        refine o1Q 17 (fun K hK => ?_)
        go_simp
        have hc := gv ((wr.alloc (.cells #[.int .i64 t0, .int .i64 t1] 98)).drew)
        with_reducible refine hc.mono ?_
        clear hc
        rintro e eD ⟨rfl, aG⟩
        have cg : Same (wr.alloc (.cells #[.int .i64 t0, .int .i64 t1] 98)) eD := Kept.trans (kZ0.drew) aG
        clear aG
        have hS : Y15 eD := bv _ cg
        refine hK.out _ _ (fun _ => hS) ?_
        clear hK K
        try simp only [Act.put, sA, s0, sS]
        refine tkV 18 105 (.bool false) hS ?_
        refine tkV 19 106 (.bool false) hS ?_
        refine tkV 20 107 (.bool false) hS ?_
        refine tk 21 108 hS ?_
        refine tk 22 109 hS ?_
        refine o1Q 23 (fun K hK => ?_)
        go_simp
        have hc := iW (eD)
        with_reducible refine hc.mono ?_
        clear hc
        rintro e eu ⟨rfl, aG⟩
        have cJ : Same (wr.alloc (.cells #[.int .i64 t0, .int .i64 t1] 98)) eu := Kept.trans (cg) aG
        clear aG
        have hS : Y15 eu := bv _ cJ
        refine hK.out _ _ (fun _ => hS) ?_
        clear hK K
        try simp only [Act.put, sA, s0, sS]
        refine tkV 24 111 (.bool false) hS ?_
        refine tkV 25 112 (.bool false) hS ?_
        refine Q8 (by kernel_rfl) ?_
        go_wp2
        go_roundw
        case rel => exact ⟨k + 1, by omega, by go_num, fun i hi => (Nat.lt_succ_iff_lt_or_eq.1 hi).elim (mD.out i) (fun e => e ▸ gw.out), (HK.out.alloc _).trans cJ, (cN.same cJ)⟩
        case measure => simp [intOf]; omega
    ·go_wp2
     go_ret
     exact ⟨by rw [oq.out Cg.out (fun i hi => mD.out i (by omega))]; rfl, HK.out⟩
end Go.Proofs.YtaojjcnmififoaaGreat
