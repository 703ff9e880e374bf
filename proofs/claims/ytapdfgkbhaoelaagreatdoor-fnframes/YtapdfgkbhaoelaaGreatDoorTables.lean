import Derived.Test.YtapdfgkbhaoelaaGreatDoorSpecSmall4
import Derived.Test.YtapdfgkbhaoelaaGreatDoorG09
namespace Go.Proofs.YtapdfgkbhaoelaaGreatDoor
set_option maxRecDepth 100000
set_option maxHeartbeats 16000000
set_option linter.unusedVariables false
set_option linter.unusedSimpArgs false
open Go.RowKit
theorem jal (j : Nat) (h : (j : Int) ≤ 1000) : IntKind.i64.wrap (j : Int) = (j : Int) := by
 simp [IntKind.wrap, IntKind.bits, IntKind.signed];omega
theorem Xq (x : Int) : Rm x = inB x 0 15 := by
 unfold Rm inB;rw [show decide (x < 16) = decide (x ≤ 15) from decide_eq_decide.2 (by omega)]
theorem Y8 (kind lj prev page slot : Int) (ez : Bool) (ew : Option Addr) (eA eG : Nat) (fP : Bool) (fS : Option Addr) (fL fJ : Nat) (uN nT : Int) (fK : Option Addr) (fR fM : Nat) (tx dy : FR) (w : World) (hv : RdF 4 w tx) (lQ : RdF 2 w dy) :
  Calls Tryz.prog 35 #[.agg #[Q1 kind, Q1 lj, Q1 prev, Q1 page, Q1 slot, .bool ez, .slice ew eA eG, .bool fP, .slice fS fL fJ, Q1 uN, Q1 nT, tx.v, dy.v, .slice fK fR fM]] w fun e w' => e = .returned (.bool (inB nT 1 2147483648 && PY tx.bs tx.n && PE dy.bs dy.n)) ∧ Same w w' := by
 obtain ⟨g7, cg, cB⟩ := hv;obtain ⟨zo, uW, nf⟩ := lQ;obtain ⟨J8, mg, txn, li, eN⟩ := tx;obtain ⟨KS, lV, dyn, lD, gk⟩ := dy;dsimp only [FR.v] at *;unfold maxLen at g7 zo;have h1 := fun wx => Qh nT 1 2147483648 wx;obtain ⟨aP, dO⟩ := new1 w [Q1 kind, Q1 lj, Q1 prev, Q1 page, Q1 slot, .bool ez, .slice ew eA eG, .bool fP, .slice fS fL fJ, Q1 uN, Q1 nT, .slice mg txn li, .slice lV dyn lD, .slice fK fR fM] 28;have oV := (show Hid (txn ≠ 0 → ∃ b off, mg = some ⟨b, off, none⟩ ∧ txn ≤ li ∧ ∀ i, i < txn * 4 → w.cell? ⟨b, off + i, none⟩ = some (Q1 (eN.getD i 0))) from fun h => cB.resolve_left h);have pn := (show Hid (dyn ≠ 0 → ∃ b off, lV = some ⟨b, off, none⟩ ∧ dyn ≤ lD ∧ ∀ i, i < dyn * 2 → w.cell? ⟨b, off + i, none⟩ = some (Q1 (gk.getD i 0))) from fun h => nf.resolve_left h);clear cB nf cg uW
 cases vB : inB nT 1 2147483648 with
 | false =>
  rw [vB] at h1;simp only [Bool.false_and];clear oV pn
  go_enter Tryz.func35, Tryz.ntmps35
  go_wp2_with (go_at_call 32; refine (h1 _).mono ?_; rintro e w1 ⟨rfl, ah⟩)
  go_ret;exact ⟨rfl, aP.out.trans ah⟩
 | true =>
 rw [vB] at h1;simp only [Bool.true_and];have i5 : ∀ w1, Same (w.alloc (.cells #[Q1 kind, Q1 lj, Q1 prev, Q1 page, Q1 slot, .bool ez, .slice ew eA eG, .bool fP, .slice fS fL fJ, Q1 uN, Q1 nT, .slice mg txn li, .slice lV dyn lD, .slice fK fR fM] 28)) w1 → w1.cell? ⟨w.heap.size, 0, none⟩ = some (Q1 kind) ∧ w1.cell? ⟨w.heap.size, 1, none⟩ = some (Q1 lj) ∧ w1.cell? ⟨w.heap.size, 2, none⟩ = some (Q1 prev) ∧ w1.cell? ⟨w.heap.size, 3, none⟩ = some (Q1 page) ∧ w1.cell? ⟨w.heap.size, 4, none⟩ = some (Q1 slot) ∧ w1.cell? ⟨w.heap.size, 5, none⟩ = some (.bool ez) ∧ w1.cell? ⟨w.heap.size, 6, none⟩ = some (.slice ew eA eG) ∧ w1.cell? ⟨w.heap.size, 7, none⟩ = some (.bool fP) ∧ w1.cell? ⟨w.heap.size, 8, none⟩ = some (.slice fS fL fJ) ∧ w1.cell? ⟨w.heap.size, 9, none⟩ = some (Q1 uN) ∧ w1.cell? ⟨w.heap.size, 10, none⟩ = some (Q1 nT) ∧ w1.cell? ⟨w.heap.size, 11, none⟩ = some (.slice mg txn li) ∧ w1.cell? ⟨w.heap.size, 12, none⟩ = some (.slice lV dyn lD) ∧ w1.cell? ⟨w.heap.size, 13, none⟩ = some (.slice fK fR fM) := fun w1 h => ⟨(dO.out.same h).cell 0, (dO.out.same h).cell 1, (dO.out.same h).cell 2, (dO.out.same h).cell 3, (dO.out.same h).cell 4, (dO.out.same h).cell 5, (dO.out.same h).cell 6, (dO.out.same h).cell 7, (dO.out.same h).cell 8, (dO.out.same h).cell 9, (dO.out.same h).cell 10, (dO.out.same h).cell 11, (dO.out.same h).cell 12, (dO.out.same h).cell 13⟩
 by_cases h8 : (8 : Int) < txn
 ·have hR : (PY eN txn && PE gk dyn) = false := by unfold PY; rw [decide_eq_false (show ¬ txn ≤ 8 from by omega)]; simp only [Bool.false_and]
  rw [hR];clear oV pn hR
  go_enter Tryz.func35, Tryz.ntmps35
  go_wp2_with (go_at_call 32; refine (h1 _).mono ?_; rintro e w1 ⟨rfl, ah⟩; obtain ⟨c0, c1, c2, c3, c4, c5, c6, c7, c8, c9, c10, c11, c12, c13⟩ := i5 w1 ah)
  go_ret;exact ⟨rfl, aP.out.trans ah⟩
 by_cases h16 : (16 : Int) < dyn
 ·have hR : (PY eN txn && PE gk dyn) = false := by unfold PE; rw [decide_eq_false (show ¬ dyn ≤ 16 from by omega)]; simp only [Bool.false_and, Bool.and_false]
  rw [hR];clear oV pn hR
  go_enter Tryz.func35, Tryz.ntmps35
  go_wp2_with (go_at_call 32; refine (h1 _).mono ?_; rintro e w1 ⟨rfl, ah⟩; obtain ⟨c0, c1, c2, c3, c4, c5, c6, c7, c8, c9, c10, c11, c12, c13⟩ := i5 w1 ah)
  go_ret;exact ⟨rfl, aP.out.trans ah⟩
 have jY := (show Hid (∀ k, k < txn → Ro eN k = false → (PY eN txn && PE gk dyn) = false) from fun k hk h => by rw [WT eN txn k hk h]; simp only [Bool.and_false, Bool.false_and]);have AO := (show Hid (∀ k, k < dyn → QZ gk k = false → (PY eN txn && PE gk dyn) = false) from fun k hk h => by rw [VF gk dyn k hk h]; simp only [Bool.and_false, Bool.false_and]);have mr := (show Hid ((∀ k, k < txn → Ro eN k = true) → (∀ k, k < dyn → QZ gk k = true) → (PY eN txn && PE gk dyn) = true) from fun h h' => by rw [VE eN txn (by omega) h, UZ gk dyn (by omega) h']; rfl);generalize (PY eN txn && PE gk dyn) = kK at *
 go_enter Tryz.func35, Tryz.ntmps35
 go_wp2_with fail
 refine (h1 _).mono ?_;rintro e w1 ⟨rfl, ah⟩;have aN := hid (aP.out.trans ah);have bQ := hid (dO.out.same ah);clear ah;obtain ⟨c0, c1, c2, c3, c4, c5, c6, c7, c8, c9, c10, c11, c12, c13⟩ := bQ.out.all14;go_wp2
 go_loopw [3, 4] (fun i _ wr => ∃ (k : Nat), k ≤ txn ∧ i = Q1 k ∧ Hid (∀ j, j < k → Ro eN j = true) ∧ Hid (Same w wr) ∧ Hid (Blk wr w.heap.size 28 [Q1 kind, Q1 lj, Q1 prev, Q1 page, Q1 slot, .bool ez, .slice ew eA eG, .bool fP, .slice fS fL fJ, Q1 uN, Q1 nT, .slice mg txn li, .slice lV dyn lD, .slice fK fR fM])) (fun i _ _ => txn - (intOf i).toNat)
 case atStart => exact ⟨0, Nat.zero_le _, rfl, fun j hj => absurd hj (by omega), aN, bQ⟩
 case round =>
 obtain ⟨k, hk, rfl, mn, HK, HB⟩ := hrel;obtain ⟨d0, d1, d2, d3, d4, d5, d6, d7, d8, d9, ef, ek, dW, eu⟩ := HB.out.all14
 by_cases bg : k < txn
 case pos =>
  obtain ⟨txB, td, Fb, G7, lC⟩ := oV.out (by omega);subst Fb;obtain ⟨J, hJ⟩ : ∃ J, k - 1 = J := ⟨_, rfl⟩
  have q0 : wr.cell? ⟨txB, td + k * 4, none⟩ = some (Q1 (eN.getD (k * 4) 0)) := by have h := HK.out.cellOf (lC (k * 4) (by omega)) id; simpa only [Nat.add_assoc] using h
  have q1 : wr.cell? ⟨txB, td + k * 4 + 1, none⟩ = some (Q1 (eN.getD (k * 4 + 1) 0)) := by have h := HK.out.cellOf (lC (k * 4 + 1) (by omega)) id; simpa only [Nat.add_assoc] using h
  have q2 : wr.cell? ⟨txB, td + k * 4 + 2, none⟩ = some (Q1 (eN.getD (k * 4 + 2) 0)) := by have h := HK.out.cellOf (lC (k * 4 + 2) (by omega)) id; simpa only [Nat.add_assoc] using h
  have q3 : wr.cell? ⟨txB, td + k * 4 + 3, none⟩ = some (Q1 (eN.getD (k * 4 + 3) 0)) := by have h := HK.out.cellOf (lC (k * 4 + 3) (by omega)) id; simpa only [Nat.add_assoc] using h
  have qa : wr.cell? ⟨txB, td + J * 4, none⟩ = some (Q1 (eN.getD (J * 4) 0)) := HK.out.cellOf (lC (J * 4) (by omega)) id
  have gp := (show Hid (Ro eN k = Rf (if k = 0 then 0 else eN.getD (J * 4) 0) (eN.getD (k * 4) 0) (eN.getD (k * 4 + 1) 0) (eN.getD (k * 4 + 2) 0) (eN.getD (k * 4 + 3) 0)) from by
   cases k with
   | zero => rfl
   | succ i => subst hJ; rfl)
  have kg : (0 : Int) < (k : Int) → IntKind.i64.wrap ((k : Int) - 1) = (J : Int) := fun h => by rw [show (k : Int) - 1 = (J : Int) from by omega]; exact jal J (by omega)
  have J9 : (J : Int) < txn := by omega
  clear lC hJ;generalize eN.getD (k * 4) 0 = t0 at *;generalize eN.getD (k * 4 + 1) 0 = t1 at *;generalize eN.getD (k * 4 + 2) 0 = t2 at *;generalize eN.getD (k * 4 + 3) 0 = t3 at *;generalize eN.getD (J * 4) 0 = A at *;obtain ⟨I0, tR⟩ : ∃ b, inB t0 1 2147483647 = b := ⟨_, rfl⟩;obtain ⟨I1, tF⟩ : ∃ b, inB t1 1 3 = b := ⟨_, rfl⟩;obtain ⟨I2, uu⟩ : ∃ b, inB t2 1 1099511627776 = b := ⟨_, rfl⟩;obtain ⟨I3, E3⟩ : ∃ b, inB t3 0 t2 = b := ⟨_, rfl⟩;obtain ⟨p, hp⟩ : ∃ b, decide (t0 ≤ A) = b := ⟨_, rfl⟩;obtain ⟨cc, i5⟩ : ∃ b, Ro eN k = b := ⟨_, rfl⟩
  have HC := (show Hid ((!(decide ((0 : Int) < (k : Int)) && p) && I0 && I1 && I2 && I3) = cc) from by
   unfold Hid;rw [← i5, gp.out, ← hp, ← tR, ← tF, ← uu, ← E3];unfold Rf SX;rw [show decide (t0 ≤ A) = !decide (A < t0) from by rw [← decide_not]; exact decide_eq_decide.2 (by omega)]
   by_cases aW : k = 0
   ·subst aW
    unfold inB
    by_cases h0 : 0 < t0
    ·simp [h0]
    ·simp [h0]; omega
   ·rw [if_neg aW, decide_eq_true (show (0 : Int) < (k : Int) from by omega)]
    unfold inB
    simp [Bool.and_assoc])
  have uZ := hid i5;clear i5 gp;obtain ⟨pk, sY⟩ : ∃ b, decide ((0 : Int) < (k : Int)) = b := ⟨_, rfl⟩;rw [sY] at HC;have wS := hid sY;clear sY;have iV := fun wx => Qh t0 1 2147483647 wx;rw [tR] at iV;have j0 := fun wx => Qh t1 1 3 wx;rw [tF] at j0;have sU := fun wx => Qh t2 1 1099511627776 wx;rw [uu] at sU;have yV := fun wx => Qh t3 0 t2 wx;rw [E3] at yV;clear tR tF uu E3;have aY := HB.out.alloc (.cells #[Q1 t0, Q1 t1, Q1 t2, Q1 t3] 79);have dJ := Blk.new wr #[Q1 t0, Q1 t1, Q1 t2, Q1 t3] 79;have ja := (Kept.refl (fun _ => False) wr).alloc (.cells #[Q1 t0, Q1 t1, Q1 t2, Q1 t3] 79)
  go_upto_region 7 with fail
  obtain ⟨w7, gZ⟩ : ∃ z, wr.alloc (.cells #[Q1 t0, Q1 t1, Q1 t2, Q1 t3] 79) = z := ⟨_, rfl⟩;rw [gZ] at aY dJ ja ⊢;have qa := ja.cellOf qa id;clear gZ q0 q1 q2 q3
  go_cut [74] (fun v wx => v = .bool !cc ∧ Hid (Same w7 wx))
  case first =>
   let Y1 : World → Prop := fun wx => D0 wx w.heap.size 11 (.slice (some ⟨txB, td, none⟩) txn li) ∧ D0 wx wr.heap.size 0 (Q1 t0) ∧ D0 wx wr.heap.size 1 (Q1 t1) ∧ D0 wx wr.heap.size 2 (Q1 t2) ∧ D0 wx wr.heap.size 3 (Q1 t3) ∧ D0 wx txB (td + J * 4) (Q1 A)
   have aR : ∀ wx, Same w7 wx → Y1 wx := fun wx h => ⟨(aY.same h).cell 11, (dJ.same h).cell 0, (dJ.same h).cell 1, (dJ.same h).cell 2, (dJ.same h).cell 3, h.cellOf qa id⟩;have hq : Same w7 w7.drew := kZ0.drew;have hS := aR _ hq;refine O0 Y1 99 40 ?_
   have five : (I0 = false) ∨ (I0 = true ∧ I1 = false) ∨ (I0 = true ∧ I1 = true ∧ I2 = false) ∨ (I0 = true ∧ I1 = true ∧ I2 = true ∧ I3 = false) ∨ (I0 = true ∧ I1 = true ∧ I2 = true ∧ I3 = true) := by cases I0 <;> cases I1 <;> cases I2 <;> cases I3 <;> simp
   by_cases hz : (0 : Int) < (k : Int)
   rotate_left
   ·clear kg
    obtain rfl : pk = false := by rw [← wS.out]; exact decide_eq_false hz
    rcases five with e0 | ⟨e0, e1⟩ | ⟨e0, e1, e2⟩ | ⟨e0, e1, e2, e3⟩ | ⟨e0, e1, e2, e3⟩
    ·subst e0
     refine tk 0 35 hS ?_;refine tkV 1 36 (.bool false) hS ?_;refine tkV 2 37 (.bool false) hS ?_;refine tkS 3 38 hS ?_;refine tkS 4 39 hS ?_;refine tkS 5 40 hS ?_;refine tkS 6 41 hS ?_;refine tkS 7 42 hS ?_;refine tkS 8 43 hS ?_;refine tkS 9 44 hS ?_;refine tkS 10 45 hS ?_;refine tkS 11 46 hS ?_;refine tkS 12 47 hS ?_;refine tkV 13 48 (.bool false) hS ?_;refine tkV 14 49 (.bool false) hS ?_;refine tk 15 50 hS ?_;refine tk 16 51 hS ?_;refine tkC 17 iV aR hq (fun wq hq hS => ?_);refine tkV 18 53 (.bool true) hS ?_;refine tkV 19 54 (.bool true) hS ?_;refine tkV 20 55 (.bool true) hS ?_;refine tkS 21 56 hS ?_;refine tkS 22 57 hS ?_;refine tkS 23 58 hS ?_;refine tkS 24 59 hS ?_;refine tkV 25 60 (.bool true) hS ?_;refine tkV 26 61 (.bool true) hS ?_;refine tkS 27 62 hS ?_;refine tkS 28 63 hS ?_;refine tkS 29 64 hS ?_;refine tkS 30 65 hS ?_;refine tkV 31 66 (.bool true) hS ?_;refine tkV 32 67 (.bool true) hS ?_;refine tkS 33 68 hS ?_;refine tkS 34 69 hS ?_;refine tkS 35 70 hS ?_;refine tkS 36 71 hS ?_;refine tkS 37 72 hS ?_;refine tkS 38 73 hS ?_;refine tkV 39 74 (.bool true) hS ?_;refine OZ ?_;go_wp2
     go_meet
     case rel => exact ⟨by rw [← HC.out]; rfl, hid hq⟩
    ·subst e0 e1
     refine tk 0 35 hS ?_;refine tkV 1 36 (.bool false) hS ?_;refine tkV 2 37 (.bool false) hS ?_;refine tkS 3 38 hS ?_;refine tkS 4 39 hS ?_;refine tkS 5 40 hS ?_;refine tkS 6 41 hS ?_;refine tkS 7 42 hS ?_;refine tkS 8 43 hS ?_;refine tkS 9 44 hS ?_;refine tkS 10 45 hS ?_;refine tkS 11 46 hS ?_;refine tkS 12 47 hS ?_;refine tkV 13 48 (.bool false) hS ?_;refine tkV 14 49 (.bool false) hS ?_;refine tk 15 50 hS ?_;refine tk 16 51 hS ?_;refine tkC 17 iV aR hq (fun wq hq hS => ?_);refine tkV 18 53 (.bool false) hS ?_;refine tkV 19 54 (.bool false) hS ?_;refine tkV 20 55 (.bool false) hS ?_;refine tk 21 56 hS ?_;refine tk 22 57 hS ?_;refine tkC 23 j0 aR hq (fun wq hq hS => ?_);refine tkV 24 59 (.bool true) hS ?_;refine tkV 25 60 (.bool true) hS ?_;refine tkV 26 61 (.bool true) hS ?_;refine tkS 27 62 hS ?_;refine tkS 28 63 hS ?_;refine tkS 29 64 hS ?_;refine tkS 30 65 hS ?_;refine tkV 31 66 (.bool true) hS ?_;refine tkV 32 67 (.bool true) hS ?_;refine tkS 33 68 hS ?_;refine tkS 34 69 hS ?_;refine tkS 35 70 hS ?_;refine tkS 36 71 hS ?_;refine tkS 37 72 hS ?_;refine tkS 38 73 hS ?_;refine tkV 39 74 (.bool true) hS ?_;refine OZ ?_;go_wp2
     go_meet
     case rel => exact ⟨by rw [← HC.out]; rfl, hid hq⟩
    ·subst e0 e1 e2
     refine tk 0 35 hS ?_;refine tkV 1 36 (.bool false) hS ?_;refine tkV 2 37 (.bool false) hS ?_;refine tkS 3 38 hS ?_;refine tkS 4 39 hS ?_;refine tkS 5 40 hS ?_;refine tkS 6 41 hS ?_;refine tkS 7 42 hS ?_;refine tkS 8 43 hS ?_;refine tkS 9 44 hS ?_;refine tkS 10 45 hS ?_;refine tkS 11 46 hS ?_;refine tkS 12 47 hS ?_;refine tkV 13 48 (.bool false) hS ?_;refine tkV 14 49 (.bool false) hS ?_;refine tk 15 50 hS ?_;refine tk 16 51 hS ?_;refine tkC 17 iV aR hq (fun wq hq hS => ?_);refine tkV 18 53 (.bool false) hS ?_;refine tkV 19 54 (.bool false) hS ?_;refine tkV 20 55 (.bool false) hS ?_;refine tk 21 56 hS ?_;refine tk 22 57 hS ?_;refine tkC 23 j0 aR hq (fun wq hq hS => ?_);refine tkV 24 59 (.bool false) hS ?_;refine tkV 25 60 (.bool false) hS ?_;refine tkV 26 61 (.bool false) hS ?_;refine tk 27 62 hS ?_;refine tk 28 63 hS ?_;refine tkC 29 sU aR hq (fun wq hq hS => ?_);refine tkV 30 65 (.bool true) hS ?_;refine tkV 31 66 (.bool true) hS ?_;refine tkV 32 67 (.bool true) hS ?_;refine tkS 33 68 hS ?_;refine tkS 34 69 hS ?_;refine tkS 35 70 hS ?_;refine tkS 36 71 hS ?_;refine tkS 37 72 hS ?_;refine tkS 38 73 hS ?_;refine tkV 39 74 (.bool true) hS ?_;refine OZ ?_;go_wp2
     go_meet
     case rel => exact ⟨by rw [← HC.out]; rfl, hid hq⟩
    ·subst e0 e1 e2 e3
     refine tk 0 35 hS ?_;refine tkV 1 36 (.bool false) hS ?_;refine tkV 2 37 (.bool false) hS ?_;refine tkS 3 38 hS ?_;refine tkS 4 39 hS ?_;refine tkS 5 40 hS ?_;refine tkS 6 41 hS ?_;refine tkS 7 42 hS ?_;refine tkS 8 43 hS ?_;refine tkS 9 44 hS ?_;refine tkS 10 45 hS ?_;refine tkS 11 46 hS ?_;refine tkS 12 47 hS ?_;refine tkV 13 48 (.bool false) hS ?_;refine tkV 14 49 (.bool false) hS ?_;refine tk 15 50 hS ?_;refine tk 16 51 hS ?_;refine tkC 17 iV aR hq (fun wq hq hS => ?_);refine tkV 18 53 (.bool false) hS ?_;refine tkV 19 54 (.bool false) hS ?_;refine tkV 20 55 (.bool false) hS ?_;refine tk 21 56 hS ?_;refine tk 22 57 hS ?_;refine tkC 23 j0 aR hq (fun wq hq hS => ?_);refine tkV 24 59 (.bool false) hS ?_;refine tkV 25 60 (.bool false) hS ?_;refine tkV 26 61 (.bool false) hS ?_;refine tk 27 62 hS ?_;refine tk 28 63 hS ?_;refine tkC 29 sU aR hq (fun wq hq hS => ?_);refine tkV 30 65 (.bool false) hS ?_;refine tkV 31 66 (.bool false) hS ?_;refine tkV 32 67 (.bool false) hS ?_;refine tk 33 68 hS ?_;refine tk 34 69 hS ?_;refine tk 35 70 hS ?_;refine tk 36 71 hS ?_;refine tkC 37 yV aR hq (fun wq hq hS => ?_);refine tkV 38 73 (.bool true) hS ?_;refine tkV 39 74 (.bool true) hS ?_;refine OZ ?_;go_wp2
     go_meet
     case rel => exact ⟨by rw [← HC.out]; rfl, hid hq⟩
    ·subst e0 e1 e2 e3
     refine tk 0 35 hS ?_;refine tkV 1 36 (.bool false) hS ?_;refine tkV 2 37 (.bool false) hS ?_;refine tkS 3 38 hS ?_;refine tkS 4 39 hS ?_;refine tkS 5 40 hS ?_;refine tkS 6 41 hS ?_;refine tkS 7 42 hS ?_;refine tkS 8 43 hS ?_;refine tkS 9 44 hS ?_;refine tkS 10 45 hS ?_;refine tkS 11 46 hS ?_;refine tkS 12 47 hS ?_;refine tkV 13 48 (.bool false) hS ?_;refine tkV 14 49 (.bool false) hS ?_;refine tk 15 50 hS ?_;refine tk 16 51 hS ?_;refine tkC 17 iV aR hq (fun wq hq hS => ?_);refine tkV 18 53 (.bool false) hS ?_;refine tkV 19 54 (.bool false) hS ?_;refine tkV 20 55 (.bool false) hS ?_;refine tk 21 56 hS ?_;refine tk 22 57 hS ?_;refine tkC 23 j0 aR hq (fun wq hq hS => ?_);refine tkV 24 59 (.bool false) hS ?_;refine tkV 25 60 (.bool false) hS ?_;refine tkV 26 61 (.bool false) hS ?_;refine tk 27 62 hS ?_;refine tk 28 63 hS ?_;refine tkC 29 sU aR hq (fun wq hq hS => ?_);refine tkV 30 65 (.bool false) hS ?_;refine tkV 31 66 (.bool false) hS ?_;refine tkV 32 67 (.bool false) hS ?_;refine tk 33 68 hS ?_;refine tk 34 69 hS ?_;refine tk 35 70 hS ?_;refine tk 36 71 hS ?_;refine tkC 37 yV aR hq (fun wq hq hS => ?_);refine tkV 38 73 (.bool false) hS ?_;refine tkV 39 74 (.bool false) hS ?_;refine OZ ?_;go_wp2
     go_meet
     case rel => exact ⟨by rw [← HC.out]; rfl, hid hq⟩
   replace kg := kg hz
   obtain rfl : pk = true := by rw [← wS.out]; exact decide_eq_true hz
   cases p
   rotate_left
   ·clear five
    refine tk 0 35 hS ?_;refine tkV 1 36 (.bool true) hS ?_;refine tkV 2 37 (.bool true) hS ?_;refine tk 3 38 hS ?_;refine tk 4 39 hS ?_;refine tk 5 40 hS ?_;refine Pz (i := 6) (v := Q1 (J : Int)) (some 41) rfl rfl (by kernel_rfl) (by kernel_rfl) (by kernel_rfl) (by kernel_rfl) (fun _ _ _ h => h) (.inl ⟨by rfl, fun w gH => by (try dsimp (config := { zetaDelta := true }) only [D0] at gH); go_simp⟩) hS ?_
    try simp only [Sp]
    refine tk 7 42 hS ?_;refine tk 8 43 hS ?_;refine tk 9 44 hS ?_;refine tk 10 45 hS ?_;refine tk 11 46 hS ?_;refine tkV 12 47 (.bool true) hS ?_;refine tkV 13 48 (.bool true) hS ?_;refine tkV 14 49 (.bool true) hS ?_;refine tkS 15 50 hS ?_;refine tkS 16 51 hS ?_;refine tkS 17 52 hS ?_;refine tkS 18 53 hS ?_;refine tkV 19 54 (.bool true) hS ?_;refine tkV 20 55 (.bool true) hS ?_;refine tkS 21 56 hS ?_;refine tkS 22 57 hS ?_;refine tkS 23 58 hS ?_;refine tkS 24 59 hS ?_;refine tkV 25 60 (.bool true) hS ?_;refine tkV 26 61 (.bool true) hS ?_;refine tkS 27 62 hS ?_;refine tkS 28 63 hS ?_;refine tkS 29 64 hS ?_;refine tkS 30 65 hS ?_;refine tkV 31 66 (.bool true) hS ?_;refine tkV 32 67 (.bool true) hS ?_;refine tkS 33 68 hS ?_;refine tkS 34 69 hS ?_;refine tkS 35 70 hS ?_;refine tkS 36 71 hS ?_;refine tkS 37 72 hS ?_;refine tkS 38 73 hS ?_;refine tkV 39 74 (.bool true) hS ?_;refine OZ ?_;go_wp2
    go_meet
    case rel => exact ⟨by rw [← HC.out]; rfl, hid hq⟩
   rcases five with e0 | ⟨e0, e1⟩ | ⟨e0, e1, e2⟩ | ⟨e0, e1, e2, e3⟩ | ⟨e0, e1, e2, e3⟩
   ·subst e0
    refine tk 0 35 hS ?_;refine tkV 1 36 (.bool true) hS ?_;refine tkV 2 37 (.bool true) hS ?_;refine tk 3 38 hS ?_;refine tk 4 39 hS ?_;refine tk 5 40 hS ?_;refine Pz (i := 6) (v := Q1 (J : Int)) (some 41) rfl rfl (by kernel_rfl) (by kernel_rfl) (by kernel_rfl) (by kernel_rfl) (fun _ _ _ h => h) (.inl ⟨by rfl, fun w gH => by (try dsimp (config := { zetaDelta := true }) only [D0] at gH); go_simp⟩) hS ?_
    try simp only [Sp]
    refine tk 7 42 hS ?_;refine tk 8 43 hS ?_;refine tk 9 44 hS ?_;refine tk 10 45 hS ?_;refine tk 11 46 hS ?_;refine tkV 12 47 (.bool false) hS ?_;refine tkV 13 48 (.bool false) hS ?_;refine tkV 14 49 (.bool false) hS ?_;refine tk 15 50 hS ?_;refine tk 16 51 hS ?_;refine tkC 17 iV aR hq (fun wq hq hS => ?_);refine tkV 18 53 (.bool true) hS ?_;refine tkV 19 54 (.bool true) hS ?_;refine tkV 20 55 (.bool true) hS ?_;refine tkS 21 56 hS ?_;refine tkS 22 57 hS ?_;refine tkS 23 58 hS ?_;refine tkS 24 59 hS ?_;refine tkV 25 60 (.bool true) hS ?_;refine tkV 26 61 (.bool true) hS ?_;refine tkS 27 62 hS ?_;refine tkS 28 63 hS ?_;refine tkS 29 64 hS ?_;refine tkS 30 65 hS ?_;refine tkV 31 66 (.bool true) hS ?_;refine tkV 32 67 (.bool true) hS ?_;refine tkS 33 68 hS ?_;refine tkS 34 69 hS ?_;refine tkS 35 70 hS ?_;refine tkS 36 71 hS ?_;refine tkS 37 72 hS ?_;refine tkS 38 73 hS ?_;refine tkV 39 74 (.bool true) hS ?_;refine OZ ?_;go_wp2
    go_meet
    case rel => exact ⟨by rw [← HC.out]; rfl, hid hq⟩
   ·subst e0 e1
    refine tk 0 35 hS ?_;refine tkV 1 36 (.bool true) hS ?_;refine tkV 2 37 (.bool true) hS ?_;refine tk 3 38 hS ?_;refine tk 4 39 hS ?_;refine tk 5 40 hS ?_;refine Pz (i := 6) (v := Q1 (J : Int)) (some 41) rfl rfl (by kernel_rfl) (by kernel_rfl) (by kernel_rfl) (by kernel_rfl) (fun _ _ _ h => h) (.inl ⟨by rfl, fun w gH => by (try dsimp (config := { zetaDelta := true }) only [D0] at gH); go_simp⟩) hS ?_
    try simp only [Sp]
    refine tk 7 42 hS ?_;refine tk 8 43 hS ?_;refine tk 9 44 hS ?_;refine tk 10 45 hS ?_;refine tk 11 46 hS ?_;refine tkV 12 47 (.bool false) hS ?_;refine tkV 13 48 (.bool false) hS ?_;refine tkV 14 49 (.bool false) hS ?_;refine tk 15 50 hS ?_;refine tk 16 51 hS ?_;refine tkC 17 iV aR hq (fun wq hq hS => ?_);refine tkV 18 53 (.bool false) hS ?_;refine tkV 19 54 (.bool false) hS ?_;refine tkV 20 55 (.bool false) hS ?_;refine tk 21 56 hS ?_;refine tk 22 57 hS ?_;refine tkC 23 j0 aR hq (fun wq hq hS => ?_);refine tkV 24 59 (.bool true) hS ?_;refine tkV 25 60 (.bool true) hS ?_;refine tkV 26 61 (.bool true) hS ?_;refine tkS 27 62 hS ?_;refine tkS 28 63 hS ?_;refine tkS 29 64 hS ?_;refine tkS 30 65 hS ?_;refine tkV 31 66 (.bool true) hS ?_;refine tkV 32 67 (.bool true) hS ?_;refine tkS 33 68 hS ?_;refine tkS 34 69 hS ?_;refine tkS 35 70 hS ?_;refine tkS 36 71 hS ?_;refine tkS 37 72 hS ?_;refine tkS 38 73 hS ?_;refine tkV 39 74 (.bool true) hS ?_;refine OZ ?_;go_wp2
    go_meet
    case rel => exact ⟨by rw [← HC.out]; rfl, hid hq⟩
   ·subst e0 e1 e2
    refine tk 0 35 hS ?_;refine tkV 1 36 (.bool true) hS ?_;refine tkV 2 37 (.bool true) hS ?_;refine tk 3 38 hS ?_;refine tk 4 39 hS ?_;refine tk 5 40 hS ?_;refine Pz (i := 6) (v := Q1 (J : Int)) (some 41) rfl rfl (by kernel_rfl) (by kernel_rfl) (by kernel_rfl) (by kernel_rfl) (fun _ _ _ h => h) (.inl ⟨by rfl, fun w gH => by (try dsimp (config := { zetaDelta := true }) only [D0] at gH); go_simp⟩) hS ?_
    try simp only [Sp]
    refine tk 7 42 hS ?_;refine tk 8 43 hS ?_;refine tk 9 44 hS ?_;refine tk 10 45 hS ?_;refine tk 11 46 hS ?_;refine tkV 12 47 (.bool false) hS ?_;refine tkV 13 48 (.bool false) hS ?_;refine tkV 14 49 (.bool false) hS ?_;refine tk 15 50 hS ?_;refine tk 16 51 hS ?_;refine tkC 17 iV aR hq (fun wq hq hS => ?_);refine tkV 18 53 (.bool false) hS ?_;refine tkV 19 54 (.bool false) hS ?_;refine tkV 20 55 (.bool false) hS ?_;refine tk 21 56 hS ?_;refine tk 22 57 hS ?_;refine tkC 23 j0 aR hq (fun wq hq hS => ?_);refine tkV 24 59 (.bool false) hS ?_;refine tkV 25 60 (.bool false) hS ?_;refine tkV 26 61 (.bool false) hS ?_;refine tk 27 62 hS ?_;refine tk 28 63 hS ?_;refine tkC 29 sU aR hq (fun wq hq hS => ?_);refine tkV 30 65 (.bool true) hS ?_;refine tkV 31 66 (.bool true) hS ?_;refine tkV 32 67 (.bool true) hS ?_;refine tkS 33 68 hS ?_;refine tkS 34 69 hS ?_;refine tkS 35 70 hS ?_;refine tkS 36 71 hS ?_;refine tkS 37 72 hS ?_;refine tkS 38 73 hS ?_;refine tkV 39 74 (.bool true) hS ?_;refine OZ ?_;go_wp2
    go_meet
    case rel => exact ⟨by rw [← HC.out]; rfl, hid hq⟩
   ·subst e0 e1 e2 e3
    refine tk 0 35 hS ?_;refine tkV 1 36 (.bool true) hS ?_;refine tkV 2 37 (.bool true) hS ?_;refine tk 3 38 hS ?_;refine tk 4 39 hS ?_;refine tk 5 40 hS ?_;refine Pz (i := 6) (v := Q1 (J : Int)) (some 41) rfl rfl (by kernel_rfl) (by kernel_rfl) (by kernel_rfl) (by kernel_rfl) (fun _ _ _ h => h) (.inl ⟨by rfl, fun w gH => by (try dsimp (config := { zetaDelta := true }) only [D0] at gH); go_simp⟩) hS ?_
    try simp only [Sp]
    refine tk 7 42 hS ?_;refine tk 8 43 hS ?_;refine tk 9 44 hS ?_;refine tk 10 45 hS ?_;refine tk 11 46 hS ?_;refine tkV 12 47 (.bool false) hS ?_;refine tkV 13 48 (.bool false) hS ?_;refine tkV 14 49 (.bool false) hS ?_;refine tk 15 50 hS ?_;refine tk 16 51 hS ?_;refine tkC 17 iV aR hq (fun wq hq hS => ?_);refine tkV 18 53 (.bool false) hS ?_;refine tkV 19 54 (.bool false) hS ?_;refine tkV 20 55 (.bool false) hS ?_;refine tk 21 56 hS ?_;refine tk 22 57 hS ?_;refine tkC 23 j0 aR hq (fun wq hq hS => ?_);refine tkV 24 59 (.bool false) hS ?_;refine tkV 25 60 (.bool false) hS ?_;refine tkV 26 61 (.bool false) hS ?_;refine tk 27 62 hS ?_;refine tk 28 63 hS ?_;refine tkC 29 sU aR hq (fun wq hq hS => ?_);refine tkV 30 65 (.bool false) hS ?_;refine tkV 31 66 (.bool false) hS ?_;refine tkV 32 67 (.bool false) hS ?_;refine tk 33 68 hS ?_;refine tk 34 69 hS ?_;refine tk 35 70 hS ?_;refine tk 36 71 hS ?_;refine tkC 37 yV aR hq (fun wq hq hS => ?_);refine tkV 38 73 (.bool true) hS ?_;refine tkV 39 74 (.bool true) hS ?_;refine OZ ?_;go_wp2
    go_meet
    case rel => exact ⟨by rw [← HC.out]; rfl, hid hq⟩
   ·subst e0 e1 e2 e3
    refine tk 0 35 hS ?_;refine tkV 1 36 (.bool true) hS ?_;refine tkV 2 37 (.bool true) hS ?_;refine tk 3 38 hS ?_;refine tk 4 39 hS ?_;refine tk 5 40 hS ?_;refine Pz (i := 6) (v := Q1 (J : Int)) (some 41) rfl rfl (by kernel_rfl) (by kernel_rfl) (by kernel_rfl) (by kernel_rfl) (fun _ _ _ h => h) (.inl ⟨by rfl, fun w gH => by (try dsimp (config := { zetaDelta := true }) only [D0] at gH); go_simp⟩) hS ?_
    try simp only [Sp]
    refine tk 7 42 hS ?_;refine tk 8 43 hS ?_;refine tk 9 44 hS ?_;refine tk 10 45 hS ?_;refine tk 11 46 hS ?_;refine tkV 12 47 (.bool false) hS ?_;refine tkV 13 48 (.bool false) hS ?_;refine tkV 14 49 (.bool false) hS ?_;refine tk 15 50 hS ?_;refine tk 16 51 hS ?_;refine tkC 17 iV aR hq (fun wq hq hS => ?_);refine tkV 18 53 (.bool false) hS ?_;refine tkV 19 54 (.bool false) hS ?_;refine tkV 20 55 (.bool false) hS ?_;refine tk 21 56 hS ?_;refine tk 22 57 hS ?_;refine tkC 23 j0 aR hq (fun wq hq hS => ?_);refine tkV 24 59 (.bool false) hS ?_;refine tkV 25 60 (.bool false) hS ?_;refine tkV 26 61 (.bool false) hS ?_;refine tk 27 62 hS ?_;refine tk 28 63 hS ?_;refine tkC 29 sU aR hq (fun wq hq hS => ?_);refine tkV 30 65 (.bool false) hS ?_;refine tkV 31 66 (.bool false) hS ?_;refine tkV 32 67 (.bool false) hS ?_;refine tk 33 68 hS ?_;refine tk 34 69 hS ?_;refine tk 35 70 hS ?_;refine tk 36 71 hS ?_;refine tkC 37 yV aR hq (fun wq hq hS => ?_);refine tkV 38 73 (.bool false) hS ?_;refine tkV 39 74 (.bool false) hS ?_;refine OZ ?_;go_wp2
    go_meet
    case rel => exact ⟨by rw [← HC.out]; rfl, hid hq⟩
  case rest =>
  obtain ⟨rfl, hq⟩ := hcut
  cases cc
  ·go_wp2
   go_ret;exact ⟨by rw [jY.out k bg uZ.out]; rfl, (HK.out.trans ja).trans hq.out⟩
  go_wp2;go_roundw
  case rel => exact ⟨k + 1, by omega, by go_num, fun i hi => (Nat.lt_succ_iff_lt_or_eq.1 hi).elim (mn.out i) (fun e => e ▸ uZ.out), (HK.out.trans ja).trans hq.out, aY.same hq.out⟩
  case measure => simp [intOf]; omega
 have BL := (show Hid (∀ k, k < txn → Ro eN k = true) from fun i hi => mn.out i (by omega));go_wp2
 go_loopw [5, 6] (fun i _ wr => ∃ (k : Nat), k ≤ dyn ∧ i = Q1 k ∧ Hid (∀ j, j < k → QZ gk j = true) ∧ Hid (Same w wr) ∧ Hid (Blk wr w.heap.size 28 [Q1 kind, Q1 lj, Q1 prev, Q1 page, Q1 slot, .bool ez, .slice ew eA eG, .bool fP, .slice fS fL fJ, Q1 uN, Q1 nT, .slice mg txn li, .slice lV dyn lD, .slice fK fR fM])) (fun i _ _ => dyn - (intOf i).toNat)
 case atStart => exact ⟨0, Nat.zero_le _, rfl, fun j hj => absurd hj (by omega), HK, HB⟩
 case round =>
 clear mn HK HB d0 d1 d2 d3 d4 d5 d6 d7 d8 d9 ef ek dW eu hk bg;obtain ⟨k, hk, rfl, mn, HK, HB⟩ := hrel;obtain ⟨d0, d1, d2, d3, d4, d5, d6, d7, d8, d9, ef, ek, dW, eu⟩ := HB.out.all14
 by_cases bg : k < dyn
 case pos =>
  obtain ⟨dyB, xK, CG, Gq, pd⟩ := pn.out (by omega);subst CG;obtain ⟨J, hJ⟩ : ∃ J, k - 1 = J := ⟨_, rfl⟩
  have q0 : wr.cell? ⟨dyB, xK + k * 2, none⟩ = some (Q1 (gk.getD (k * 2) 0)) := by have h := HK.out.cellOf (pd (k * 2) (by omega)) id; simpa only [Nat.add_assoc] using h
  have q1 : wr.cell? ⟨dyB, xK + k * 2 + 1, none⟩ = some (Q1 (gk.getD (k * 2 + 1) 0)) := by have h := HK.out.cellOf (pd (k * 2 + 1) (by omega)) id; simpa only [Nat.add_assoc] using h
  have qa : wr.cell? ⟨dyB, xK + J * 2, none⟩ = some (Q1 (gk.getD (J * 2) 0)) := HK.out.cellOf (pd (J * 2) (by omega)) id
  have gp := (show Hid (QZ gk k = Rs (if k = 0 then -1 else gk.getD (J * 2) 0) (gk.getD (k * 2) 0) (gk.getD (k * 2 + 1) 0)) from by
   cases k with
   | zero => rfl
   | succ i => subst hJ; rfl)
  have kg : (0 : Int) < (k : Int) → IntKind.i64.wrap ((k : Int) - 1) = (J : Int) := fun h => by rw [show (k : Int) - 1 = (J : Int) from by omega]; exact jal J (by omega)
  have J9 : (J : Int) < dyn := by omega
  clear pd hJ;generalize gk.getD (k * 2) 0 = t0 at *;generalize gk.getD (k * 2 + 1) 0 = t1 at *;generalize gk.getD (J * 2) 0 = A at *;obtain ⟨I0, tR⟩ : ∃ b, inB t0 0 15 = b := ⟨_, rfl⟩;obtain ⟨I1, tF⟩ : ∃ b, inB t1 1 1099511627776 = b := ⟨_, rfl⟩;obtain ⟨p, hp⟩ : ∃ b, decide (t0 ≤ A) = b := ⟨_, rfl⟩;obtain ⟨cc, i5⟩ : ∃ b, QZ gk k = b := ⟨_, rfl⟩
  have HC := (show Hid ((!(decide ((0 : Int) < (k : Int)) && p) && I0 && I1) = cc) from by
   unfold Hid;rw [← i5, gp.out, ← hp, ← tR, ← tF];unfold Rs;rw [Xq t0];rw [show decide (t0 ≤ A) = !decide (A < t0) from by rw [← decide_not]; exact decide_eq_decide.2 (by omega)]
   by_cases aW : k = 0
   ·subst aW
    unfold inB
    by_cases h0 : -1 < t0
    ·simp [h0]
    ·simp [h0]; omega
   ·rw [if_neg aW, decide_eq_true (show (0 : Int) < (k : Int) from by omega)]
    unfold inB
    simp [Bool.and_assoc])
  have uZ := hid i5;clear i5 gp;obtain ⟨pk, sY⟩ : ∃ b, decide ((0 : Int) < (k : Int)) = b := ⟨_, rfl⟩;rw [sY] at HC;have wS := hid sY;clear sY;have iV := fun wx => Qh t0 0 15 wx;rw [tR] at iV;have j0 := fun wx => Qh t1 1 1099511627776 wx;rw [tF] at j0;clear tR tF;have aY := HB.out.alloc (.cells #[Q1 t0, Q1 t1] 81);have dJ := Blk.new wr #[Q1 t0, Q1 t1] 81;have ja := (Kept.refl (fun _ => False) wr).alloc (.cells #[Q1 t0, Q1 t1] 81)
  go_upto_region 13 with fail
  obtain ⟨w7, gZ⟩ : ∃ z, wr.alloc (.cells #[Q1 t0, Q1 t1] 81) = z := ⟨_, rfl⟩;rw [gZ] at aY dJ ja ⊢;have qa := ja.cellOf qa id;clear gZ q0 q1
  go_cut [112] (fun v wx => v = .bool !cc ∧ Hid (Same w7 wx))
  case first =>
   let Y2 : World → Prop := fun wx => D0 wx w.heap.size 12 (.slice (some ⟨dyB, xK, none⟩) dyn lD) ∧ D0 wx wr.heap.size 0 (Q1 t0) ∧ D0 wx wr.heap.size 1 (Q1 t1) ∧ D0 wx dyB (xK + J * 2) (Q1 A)
   have aR : ∀ wx, Same w7 wx → Y2 wx := fun wx h => ⟨(aY.same h).cell 12, (dJ.same h).cell 0, (dJ.same h).cell 1, h.cellOf qa id⟩;have hq : Same w7 w7.drew := kZ0.drew;have hS := aR _ hq;refine O0 Y2 99 26 ?_
   have five : (I0 = false) ∨ (I0 = true ∧ I1 = false) ∨ (I0 = true ∧ I1 = true) := by cases I0 <;> cases I1 <;> simp
   by_cases hz : (0 : Int) < (k : Int)
   rotate_left
   ·clear kg
    obtain rfl : pk = false := by rw [← wS.out]; exact decide_eq_false hz
    rcases five with e0 | ⟨e0, e1⟩ | ⟨e0, e1⟩
    ·subst e0
     refine tk 0 87 hS ?_;refine tkV 1 88 (.bool false) hS ?_;refine tkV 2 89 (.bool false) hS ?_;refine tkS 3 90 hS ?_;refine tkS 4 91 hS ?_;refine tkS 5 92 hS ?_;refine tkS 6 93 hS ?_;refine tkS 7 94 hS ?_;refine tkS 8 95 hS ?_;refine tkS 9 96 hS ?_;refine tkS 10 97 hS ?_;refine tkS 11 98 hS ?_;refine tkS 12 99 hS ?_;refine tkV 13 100 (.bool false) hS ?_;refine tkV 14 101 (.bool false) hS ?_;refine tk 15 102 hS ?_;refine tk 16 103 hS ?_;refine tkC 17 iV aR hq (fun wq hq hS => ?_);refine tkV 18 105 (.bool true) hS ?_;refine tkV 19 106 (.bool true) hS ?_;refine tkV 20 107 (.bool true) hS ?_;refine tkS 21 108 hS ?_;refine tkS 22 109 hS ?_;refine tkS 23 110 hS ?_;refine tkS 24 111 hS ?_;refine tkV 25 112 (.bool true) hS ?_;refine OZ ?_;go_wp2
     go_meet
     case rel => exact ⟨by rw [← HC.out]; rfl, hid hq⟩
    ·subst e0 e1
     refine tk 0 87 hS ?_;refine tkV 1 88 (.bool false) hS ?_;refine tkV 2 89 (.bool false) hS ?_;refine tkS 3 90 hS ?_;refine tkS 4 91 hS ?_;refine tkS 5 92 hS ?_;refine tkS 6 93 hS ?_;refine tkS 7 94 hS ?_;refine tkS 8 95 hS ?_;refine tkS 9 96 hS ?_;refine tkS 10 97 hS ?_;refine tkS 11 98 hS ?_;refine tkS 12 99 hS ?_;refine tkV 13 100 (.bool false) hS ?_;refine tkV 14 101 (.bool false) hS ?_;refine tk 15 102 hS ?_;refine tk 16 103 hS ?_;refine tkC 17 iV aR hq (fun wq hq hS => ?_);refine tkV 18 105 (.bool false) hS ?_;refine tkV 19 106 (.bool false) hS ?_;refine tkV 20 107 (.bool false) hS ?_;refine tk 21 108 hS ?_;refine tk 22 109 hS ?_;refine tkC 23 j0 aR hq (fun wq hq hS => ?_);refine tkV 24 111 (.bool true) hS ?_;refine tkV 25 112 (.bool true) hS ?_;refine OZ ?_;go_wp2
     go_meet
     case rel => exact ⟨by rw [← HC.out]; rfl, hid hq⟩
    ·subst e0 e1
     refine tk 0 87 hS ?_;refine tkV 1 88 (.bool false) hS ?_;refine tkV 2 89 (.bool false) hS ?_;refine tkS 3 90 hS ?_;refine tkS 4 91 hS ?_;refine tkS 5 92 hS ?_;refine tkS 6 93 hS ?_;refine tkS 7 94 hS ?_;refine tkS 8 95 hS ?_;refine tkS 9 96 hS ?_;refine tkS 10 97 hS ?_;refine tkS 11 98 hS ?_;refine tkS 12 99 hS ?_;refine tkV 13 100 (.bool false) hS ?_;refine tkV 14 101 (.bool false) hS ?_;refine tk 15 102 hS ?_;refine tk 16 103 hS ?_;refine tkC 17 iV aR hq (fun wq hq hS => ?_);refine tkV 18 105 (.bool false) hS ?_;refine tkV 19 106 (.bool false) hS ?_;refine tkV 20 107 (.bool false) hS ?_;refine tk 21 108 hS ?_;refine tk 22 109 hS ?_;refine tkC 23 j0 aR hq (fun wq hq hS => ?_);refine tkV 24 111 (.bool false) hS ?_;refine tkV 25 112 (.bool false) hS ?_;refine OZ ?_;go_wp2
     go_meet
     case rel => exact ⟨by rw [← HC.out]; rfl, hid hq⟩
   replace kg := kg hz
   obtain rfl : pk = true := by rw [← wS.out]; exact decide_eq_true hz
   cases p
   rotate_left
   ·clear five
    refine tk 0 87 hS ?_;refine tkV 1 88 (.bool true) hS ?_;refine tkV 2 89 (.bool true) hS ?_;refine tk 3 90 hS ?_;refine tk 4 91 hS ?_;refine tk 5 92 hS ?_;refine Pz (i := 6) (v := Q1 (J : Int)) (some 93) rfl rfl (by kernel_rfl) (by kernel_rfl) (by kernel_rfl) (by kernel_rfl) (fun _ _ _ h => h) (.inl ⟨by rfl, fun w gH => by (try dsimp (config := { zetaDelta := true }) only [D0] at gH); go_simp⟩) hS ?_
    try simp only [Sp]
    refine tk 7 94 hS ?_;refine tk 8 95 hS ?_;refine tk 9 96 hS ?_;refine tk 10 97 hS ?_;refine tk 11 98 hS ?_;refine tkV 12 99 (.bool true) hS ?_;refine tkV 13 100 (.bool true) hS ?_;refine tkV 14 101 (.bool true) hS ?_;refine tkS 15 102 hS ?_;refine tkS 16 103 hS ?_;refine tkS 17 104 hS ?_;refine tkS 18 105 hS ?_;refine tkV 19 106 (.bool true) hS ?_;refine tkV 20 107 (.bool true) hS ?_;refine tkS 21 108 hS ?_;refine tkS 22 109 hS ?_;refine tkS 23 110 hS ?_;refine tkS 24 111 hS ?_;refine tkV 25 112 (.bool true) hS ?_;refine OZ ?_;go_wp2
    go_meet
    case rel => exact ⟨by rw [← HC.out]; rfl, hid hq⟩
   rcases five with e0 | ⟨e0, e1⟩ | ⟨e0, e1⟩
   ·subst e0
    refine tk 0 87 hS ?_;refine tkV 1 88 (.bool true) hS ?_;refine tkV 2 89 (.bool true) hS ?_;refine tk 3 90 hS ?_;refine tk 4 91 hS ?_;refine tk 5 92 hS ?_;refine Pz (i := 6) (v := Q1 (J : Int)) (some 93) rfl rfl (by kernel_rfl) (by kernel_rfl) (by kernel_rfl) (by kernel_rfl) (fun _ _ _ h => h) (.inl ⟨by rfl, fun w gH => by (try dsimp (config := { zetaDelta := true }) only [D0] at gH); go_simp⟩) hS ?_
    try simp only [Sp]
    refine tk 7 94 hS ?_;refine tk 8 95 hS ?_;refine tk 9 96 hS ?_;refine tk 10 97 hS ?_;refine tk 11 98 hS ?_;refine tkV 12 99 (.bool false) hS ?_;refine tkV 13 100 (.bool false) hS ?_;refine tkV 14 101 (.bool false) hS ?_;refine tk 15 102 hS ?_;refine tk 16 103 hS ?_;refine tkC 17 iV aR hq (fun wq hq hS => ?_);refine tkV 18 105 (.bool true) hS ?_;refine tkV 19 106 (.bool true) hS ?_;refine tkV 20 107 (.bool true) hS ?_;refine tkS 21 108 hS ?_;refine tkS 22 109 hS ?_;refine tkS 23 110 hS ?_;refine tkS 24 111 hS ?_;refine tkV 25 112 (.bool true) hS ?_;refine OZ ?_;go_wp2
    go_meet
    case rel => exact ⟨by rw [← HC.out]; rfl, hid hq⟩
   ·subst e0 e1
    refine tk 0 87 hS ?_;refine tkV 1 88 (.bool true) hS ?_;refine tkV 2 89 (.bool true) hS ?_;refine tk 3 90 hS ?_;refine tk 4 91 hS ?_;refine tk 5 92 hS ?_;refine Pz (i := 6) (v := Q1 (J : Int)) (some 93) rfl rfl (by kernel_rfl) (by kernel_rfl) (by kernel_rfl) (by kernel_rfl) (fun _ _ _ h => h) (.inl ⟨by rfl, fun w gH => by (try dsimp (config := { zetaDelta := true }) only [D0] at gH); go_simp⟩) hS ?_
    try simp only [Sp]
    refine tk 7 94 hS ?_;refine tk 8 95 hS ?_;refine tk 9 96 hS ?_;refine tk 10 97 hS ?_;refine tk 11 98 hS ?_;refine tkV 12 99 (.bool false) hS ?_;refine tkV 13 100 (.bool false) hS ?_;refine tkV 14 101 (.bool false) hS ?_;refine tk 15 102 hS ?_;refine tk 16 103 hS ?_;refine tkC 17 iV aR hq (fun wq hq hS => ?_);refine tkV 18 105 (.bool false) hS ?_;refine tkV 19 106 (.bool false) hS ?_;refine tkV 20 107 (.bool false) hS ?_;refine tk 21 108 hS ?_;refine tk 22 109 hS ?_;refine tkC 23 j0 aR hq (fun wq hq hS => ?_);refine tkV 24 111 (.bool true) hS ?_;refine tkV 25 112 (.bool true) hS ?_;refine OZ ?_;go_wp2
    go_meet
    case rel => exact ⟨by rw [← HC.out]; rfl, hid hq⟩
   ·subst e0 e1
    refine tk 0 87 hS ?_;refine tkV 1 88 (.bool true) hS ?_;refine tkV 2 89 (.bool true) hS ?_;refine tk 3 90 hS ?_;refine tk 4 91 hS ?_;refine tk 5 92 hS ?_;refine Pz (i := 6) (v := Q1 (J : Int)) (some 93) rfl rfl (by kernel_rfl) (by kernel_rfl) (by kernel_rfl) (by kernel_rfl) (fun _ _ _ h => h) (.inl ⟨by rfl, fun w gH => by (try dsimp (config := { zetaDelta := true }) only [D0] at gH); go_simp⟩) hS ?_
    try simp only [Sp]
    refine tk 7 94 hS ?_;refine tk 8 95 hS ?_;refine tk 9 96 hS ?_;refine tk 10 97 hS ?_;refine tk 11 98 hS ?_;refine tkV 12 99 (.bool false) hS ?_;refine tkV 13 100 (.bool false) hS ?_;refine tkV 14 101 (.bool false) hS ?_;refine tk 15 102 hS ?_;refine tk 16 103 hS ?_;refine tkC 17 iV aR hq (fun wq hq hS => ?_);refine tkV 18 105 (.bool false) hS ?_;refine tkV 19 106 (.bool false) hS ?_;refine tkV 20 107 (.bool false) hS ?_;refine tk 21 108 hS ?_;refine tk 22 109 hS ?_;refine tkC 23 j0 aR hq (fun wq hq hS => ?_);refine tkV 24 111 (.bool false) hS ?_;refine tkV 25 112 (.bool false) hS ?_;refine OZ ?_;go_wp2
    go_meet
    case rel => exact ⟨by rw [← HC.out]; rfl, hid hq⟩
  case rest =>
  obtain ⟨rfl, hq⟩ := hcut
  cases cc
  ·go_wp2
   go_ret;exact ⟨by rw [AO.out k bg uZ.out]; rfl, (HK.out.trans ja).trans hq.out⟩
  go_wp2;go_roundw
  case rel => exact ⟨k + 1, by omega, by go_num, fun i hi => (Nat.lt_succ_iff_lt_or_eq.1 hi).elim (mn.out i) (fun e => e ▸ uZ.out), (HK.out.trans ja).trans hq.out, aY.same hq.out⟩
  case measure => simp [intOf]; omega
 go_wp2;go_ret;exact ⟨by rw [mr.out BL.out (fun i hi => mn.out i (by omega))]; rfl, HK.out⟩
end Go.Proofs.YtapdfgkbhaoelaaGreatDoor
