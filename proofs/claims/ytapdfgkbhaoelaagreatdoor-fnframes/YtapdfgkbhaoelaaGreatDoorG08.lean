import Derived.Test.YtapdfgkbhaoelaaGreatDoorG06
namespace Go.Proofs.YtapdfgkbhaoelaaGreatDoor
set_option maxRecDepth 100000
set_option maxHeartbeats 16000000
set_option linter.unusedVariables false
set_option linter.unusedSimpArgs false
open Go.RowKit
def Tj (bs : List Int) : Nat → Int
 | 0 => 0
 | k + 1 => bs.getD (k * 4) 0
def Rf (A t0 t1 t2 t3 : Int) : Bool := decide (A < t0) && SX t0 && (decide (1 ≤ t1) && decide (t1 ≤ 3)) && (decide (1 ≤ t2) && decide (t2 ≤ 1099511627776)) && (decide (0 ≤ t3) && decide (t3 ≤ t2))
def Ro (bs : List Int) (k : Nat) : Bool := Rf (Tj bs k) (bs.getD (k * 4) 0) (bs.getD (k * 4 + 1) 0) (bs.getD (k * 4 + 2) 0) (bs.getD (k * 4 + 3) 0)
def PY (bs : List Int) (n : Nat) : Bool := decide (n ≤ 8) && (List.range n).all (Ro bs)
theorem WT (bs : List Int) (n k : Nat) (hk : k < n) (h : Ro bs k = false) : PY bs n = false := by
 unfold PY
 have : (List.range n).all (Ro bs) = false := by
  rw [List.all_eq_false];exact ⟨k, List.mem_range.2 hk, by simp [h]⟩
 rw [this, Bool.and_false]
theorem VE (bs : List Int) (n : Nat) (hn : n ≤ 8) (h : ∀ k < n, Ro bs k = true) : PY bs n = true := by
 unfold PY;rw [decide_eq_true hn, Bool.true_and, List.all_eq_true];exact fun k hk => h k (List.mem_range.1 hk)
theorem jcG (x : FR) (w : World) (hv : RdF 4 w x) : Calls Tryz.prog 172 #[x.v] w fun e w' => e = .returned (.bool (PY x.bs x.n)) ∧ Same w w' := by
 obtain ⟨g7, cg, cB⟩ := hv;obtain ⟨xe, xa, len, xc, bs⟩ := x;dsimp only [FR.v] at *;unfold maxLen at g7
 by_cases hbig : (8 : Int) < len
 ·have hR : PY bs len = false := by unfold PY; rw [decide_eq_false (by omega)]; rfl
  rw [hR];clear hR cB
  go_enter Tryz.func172, Tryz.ntmps172
  go_wp2;go_ret;exact ⟨rfl, kZ0⟩
 by_cases h0 : len = 0
 ·subst h0
  have hR : PY bs 0 = true := rfl;rw [hR];clear cB
  go_enter Tryz.func172, Tryz.ntmps172
  go_wp2;refine wp_loop_rounds 1 ?_;rw [rounds_succ];go_wp2;go_ret;exact ⟨rfl, kZ0⟩
 ·obtain ⟨b, off, rfl, ji, hc⟩ := cB.resolve_left h0
  have HC : Hid (∀ i, i < len * 4 → w.cell? ⟨b, off + i, none⟩ = some (Q1 (bs.getD i 0))) := hc
  have CB : len ≤ 8 := by omega
  have jY := (show Hid (∀ k, k < len → Ro bs k = false → PY bs len = false) from fun k hk h => WT bs len k hk h);have mr := (show Hid ((∀ k, k < len → Ro bs k = true) → PY bs len = true) from fun h => VE bs len CB h);generalize PY bs len = kK at *;clear hc cB cg
  go_enter Tryz.func172, Tryz.ntmps172
  go_wp2
  go_loopw [3, 5, 11] (fun a _ i wr => ∃ (k : Nat), k ≤ len ∧ i = Q1 k ∧ a = Q1 (Tj bs k) ∧ Hid (∀ j, j < k → Ro bs j = true) ∧ Hid (Same w wr)) (fun _ _ i _ => len - (intOf i).toNat)
  case atStart => exact ⟨0, Nat.zero_le _, rfl, rfl, fun j hj => absurd hj (by omega), kZ0⟩
  case round =>
   obtain ⟨k, hk, rfl, rfl, mn, HK⟩ := hrel
   by_cases bg : k < len
   ·have q0 : wr.cell? ⟨b, off + k * 4, none⟩ = some (Q1 (bs.getD (k * 4) 0)) := by have h := HK.out.cellOf (HC.out (k * 4) (by omega)) id; simpa only [Nat.add_assoc] using h
    have q1 : wr.cell? ⟨b, off + k * 4 + 1, none⟩ = some (Q1 (bs.getD (k * 4 + 1) 0)) := by have h := HK.out.cellOf (HC.out (k * 4 + 1) (by omega)) id; simpa only [Nat.add_assoc] using h
    have q2 : wr.cell? ⟨b, off + k * 4 + 2, none⟩ = some (Q1 (bs.getD (k * 4 + 2) 0)) := by have h := HK.out.cellOf (HC.out (k * 4 + 2) (by omega)) id; simpa only [Nat.add_assoc] using h
    have q3 : wr.cell? ⟨b, off + k * 4 + 3, none⟩ = some (Q1 (bs.getD (k * 4 + 3) 0)) := by have h := HK.out.cellOf (HC.out (k * 4 + 3) (by omega)) id; simpa only [Nat.add_assoc] using h
    have gp : Hid (Ro bs k = Rf (Tj bs k) (bs.getD (k * 4) 0) (bs.getD (k * 4 + 1) 0) (bs.getD (k * 4 + 2) 0) (bs.getD (k * 4 + 3) 0)) := rfl;have E8 : Hid (Tj bs (k + 1) = bs.getD (k * 4) 0) := rfl;generalize Tj bs k = A at *;generalize bs.getD (k * 4) 0 = t0 at *;generalize bs.getD (k * 4 + 1) 0 = t1 at *;generalize bs.getD (k * 4 + 2) 0 = t2 at *;generalize bs.getD (k * 4 + 3) 0 = t3 at *;have hb := Blk.new wr #[Q1 t0, Q1 t1, Q1 t2, Q1 t3] 79;have bI := fun wx => X4 t0 wx
    by_cases lY : t0 ≤ A
    ·have HF : Hid (kK = false) := jY.out k bg (by rw [gp.out]; unfold Rf; rw [decide_eq_false (show ¬ (A < t0) from by omega)]; simp only [Bool.false_and, Bool.and_false])
     go_wp2;go_ret;exact ⟨by rw [HF.out]; rfl, HK.out.alloc _⟩
    by_cases lP : SX t0 = false
    ·have HF : Hid (kK = false) := jY.out k bg (by rw [gp.out]; unfold Rf; rw [lP]; simp only [Bool.false_and, Bool.and_false])
     rw [lP] at bI
     go_wp2_with (go_at_call 156; refine (bI _).mono ?_; rintro e wx ⟨rfl, bi⟩; have e0 : D0 wx wr.heap.size 0 (Q1 t0) := (hb.same bi).cell 0; have e1 : D0 wx wr.heap.size 1 (Q1 t1) := (hb.same bi).cell 1; have e2 : D0 wx wr.heap.size 2 (Q1 t2) := (hb.same bi).cell 2; have e3 : D0 wx wr.heap.size 3 (Q1 t3) := (hb.same bi).cell 3)
     go_ret;exact ⟨by rw [HF.out]; rfl, (HK.out.alloc _).trans bi⟩
    have dM := eq_true_of_ne_false lP
    by_cases lM : t1 < 1
    ·have HF : Hid (kK = false) := jY.out k bg (by rw [gp.out]; unfold Rf; rw [decide_eq_false (show ¬ (1 ≤ t1) from by omega)]; simp only [Bool.false_and, Bool.and_false])
     rw [dM] at bI
     go_wp2_with (go_at_call 156; refine (bI _).mono ?_; rintro e wx ⟨rfl, bi⟩; have e0 : D0 wx wr.heap.size 0 (Q1 t0) := (hb.same bi).cell 0; have e1 : D0 wx wr.heap.size 1 (Q1 t1) := (hb.same bi).cell 1; have e2 : D0 wx wr.heap.size 2 (Q1 t2) := (hb.same bi).cell 2; have e3 : D0 wx wr.heap.size 3 (Q1 t3) := (hb.same bi).cell 3)
     go_ret;exact ⟨by rw [HF.out]; rfl, (HK.out.alloc _).trans bi⟩
    by_cases FD : 3 < t1
    ·have HF : Hid (kK = false) := jY.out k bg (by rw [gp.out]; unfold Rf; rw [decide_eq_false (show ¬ (t1 ≤ 3) from by omega)]; simp only [Bool.false_and, Bool.and_false])
     rw [dM] at bI
     go_wp2_with (go_at_call 156; refine (bI _).mono ?_; rintro e wx ⟨rfl, bi⟩; have e0 : D0 wx wr.heap.size 0 (Q1 t0) := (hb.same bi).cell 0; have e1 : D0 wx wr.heap.size 1 (Q1 t1) := (hb.same bi).cell 1; have e2 : D0 wx wr.heap.size 2 (Q1 t2) := (hb.same bi).cell 2; have e3 : D0 wx wr.heap.size 3 (Q1 t3) := (hb.same bi).cell 3)
     go_ret;exact ⟨by rw [HF.out]; rfl, (HK.out.alloc _).trans bi⟩
    by_cases AA : t2 < 1
    ·have HF : Hid (kK = false) := jY.out k bg (by rw [gp.out]; unfold Rf; rw [decide_eq_false (show ¬ (1 ≤ t2) from by omega)]; simp only [Bool.false_and, Bool.and_false])
     rw [dM] at bI
     go_wp2_with (go_at_call 156; refine (bI _).mono ?_; rintro e wx ⟨rfl, bi⟩; have e0 : D0 wx wr.heap.size 0 (Q1 t0) := (hb.same bi).cell 0; have e1 : D0 wx wr.heap.size 1 (Q1 t1) := (hb.same bi).cell 1; have e2 : D0 wx wr.heap.size 2 (Q1 t2) := (hb.same bi).cell 2; have e3 : D0 wx wr.heap.size 3 (Q1 t3) := (hb.same bi).cell 3)
     go_ret;exact ⟨by rw [HF.out]; rfl, (HK.out.alloc _).trans bi⟩
    by_cases FN : 1099511627776 < t2
    ·have HF : Hid (kK = false) := jY.out k bg (by rw [gp.out]; unfold Rf; rw [decide_eq_false (show ¬ (t2 ≤ 1099511627776) from by omega)]; simp only [Bool.false_and, Bool.and_false])
     rw [dM] at bI
     go_wp2_with (go_at_call 156; refine (bI _).mono ?_; rintro e wx ⟨rfl, bi⟩; have e0 : D0 wx wr.heap.size 0 (Q1 t0) := (hb.same bi).cell 0; have e1 : D0 wx wr.heap.size 1 (Q1 t1) := (hb.same bi).cell 1; have e2 : D0 wx wr.heap.size 2 (Q1 t2) := (hb.same bi).cell 2; have e3 : D0 wx wr.heap.size 3 (Q1 t3) := (hb.same bi).cell 3)
     go_ret;exact ⟨by rw [HF.out]; rfl, (HK.out.alloc _).trans bi⟩
    by_cases HH : t3 < 0
    ·have HF : Hid (kK = false) := jY.out k bg (by rw [gp.out]; unfold Rf; rw [decide_eq_false (show ¬ (0 ≤ t3) from by omega)]; simp only [Bool.false_and, Bool.and_false])
     rw [dM] at bI
     go_wp2_with (go_at_call 156; refine (bI _).mono ?_; rintro e wx ⟨rfl, bi⟩; have e0 : D0 wx wr.heap.size 0 (Q1 t0) := (hb.same bi).cell 0; have e1 : D0 wx wr.heap.size 1 (Q1 t1) := (hb.same bi).cell 1; have e2 : D0 wx wr.heap.size 2 (Q1 t2) := (hb.same bi).cell 2; have e3 : D0 wx wr.heap.size 3 (Q1 t3) := (hb.same bi).cell 3)
     go_ret;exact ⟨by rw [HF.out]; rfl, (HK.out.alloc _).trans bi⟩
    by_cases hc7 : t2 < t3
    ·have HF : Hid (kK = false) := jY.out k bg (by rw [gp.out]; unfold Rf; rw [decide_eq_false (show ¬ (t3 ≤ t2) from by omega)]; simp only [Bool.false_and, Bool.and_false])
     rw [dM] at bI
     go_wp2_with (go_at_call 156; refine (bI _).mono ?_; rintro e wx ⟨rfl, bi⟩; have e0 : D0 wx wr.heap.size 0 (Q1 t0) := (hb.same bi).cell 0; have e1 : D0 wx wr.heap.size 1 (Q1 t1) := (hb.same bi).cell 1; have e2 : D0 wx wr.heap.size 2 (Q1 t2) := (hb.same bi).cell 2; have e3 : D0 wx wr.heap.size 3 (Q1 t3) := (hb.same bi).cell 3)
     go_ret;exact ⟨by rw [HF.out]; rfl, (HK.out.alloc _).trans bi⟩
    rw [dM] at bI;have nQ : Hid (Ro bs k = true) := by rw [gp.out]; unfold Rf; simp only [dM, decide_eq_true (show A < t0 from by omega), decide_eq_true (show 1 ≤ t1 from by omega), decide_eq_true (show t1 ≤ 3 from by omega), decide_eq_true (show 1 ≤ t2 from by omega), decide_eq_true (show t2 ≤ 1099511627776 from by omega), decide_eq_true (show 0 ≤ t3 from by omega), decide_eq_true (show t3 ≤ t2 from by omega), Bool.and_true, Bool.and_self]; exact trivial
    go_wp2_with (go_at_call 156; refine (bI _).mono ?_; rintro e wx ⟨rfl, bi⟩; have e0 : D0 wx wr.heap.size 0 (Q1 t0) := (hb.same bi).cell 0; have e1 : D0 wx wr.heap.size 1 (Q1 t1) := (hb.same bi).cell 1; have e2 : D0 wx wr.heap.size 2 (Q1 t2) := (hb.same bi).cell 2; have e3 : D0 wx wr.heap.size 3 (Q1 t3) := (hb.same bi).cell 3)
    go_roundw
    case rel => exact ⟨k + 1, by omega, by go_num, by rw [E8.out], fun j hj => (Nat.lt_succ_iff_lt_or_eq.1 hj).elim (mn.out j) (fun e => e ▸ nQ.out), (HK.out.alloc _).trans bi⟩
    case measure => simp [intOf]; omega
   ·obtain rfl : k = len := by omega
    go_wp2;go_ret;exact ⟨by rw [mr.out mn.out]; rfl, HK.out⟩
def Sr (bs : List Int) : Nat → Int
 | 0 => -1
 | k + 1 => bs.getD (k * 2) 0
def Rs (A t0 t1 : Int) : Bool := decide (A < t0) && Rm t0 && (decide (1 ≤ t1) && decide (t1 ≤ 1099511627776))
def QZ (bs : List Int) (k : Nat) : Bool := Rs (Sr bs k) (bs.getD (k * 2) 0) (bs.getD (k * 2 + 1) 0)
def PE (bs : List Int) (n : Nat) : Bool := decide (n ≤ 16) && (List.range n).all (QZ bs)
theorem VF (bs : List Int) (n k : Nat) (hk : k < n) (h : QZ bs k = false) : PE bs n = false := by
 unfold PE
 have : (List.range n).all (QZ bs) = false := by
  rw [List.all_eq_false];exact ⟨k, List.mem_range.2 hk, by simp [h]⟩
 rw [this, Bool.and_false]
theorem UZ (bs : List Int) (n : Nat) (hn : n ≤ 16) (h : ∀ k < n, QZ bs k = true) : PE bs n = true := by
 unfold PE;rw [decide_eq_true hn, Bool.true_and, List.all_eq_true];exact fun k hk => h k (List.mem_range.1 hk)
theorem jbB (x : FR) (w : World) (hv : RdF 2 w x) : Calls Tryz.prog 173 #[x.v] w fun e w' => e = .returned (.bool (PE x.bs x.n)) ∧ Same w w' := by
 obtain ⟨g7, cg, cB⟩ := hv;obtain ⟨xe, xa, len, xc, bs⟩ := x;dsimp only [FR.v] at *;unfold maxLen at g7
 by_cases hbig : (16 : Int) < len
 ·have hR : PE bs len = false := by unfold PE; rw [decide_eq_false (by omega)]; rfl
  rw [hR];clear hR cB
  go_enter Tryz.func173, Tryz.ntmps173
  go_wp2;go_ret;exact ⟨rfl, kZ0⟩
 by_cases h0 : len = 0
 ·subst h0
  have hR : PE bs 0 = true := rfl;rw [hR];clear cB
  go_enter Tryz.func173, Tryz.ntmps173
  go_wp2;refine wp_loop_rounds 1 ?_;rw [rounds_succ];go_wp2;go_ret;exact ⟨rfl, kZ0⟩
 ·obtain ⟨b, off, rfl, ji, hc⟩ := cB.resolve_left h0
  have HC : Hid (∀ i, i < len * 2 → w.cell? ⟨b, off + i, none⟩ = some (Q1 (bs.getD i 0))) := hc
  have CB : len ≤ 16 := by omega
  have jY := (show Hid (∀ k, k < len → QZ bs k = false → PE bs len = false) from fun k hk h => VF bs len k hk h);have mr := (show Hid ((∀ k, k < len → QZ bs k = true) → PE bs len = true) from fun h => UZ bs len CB h);generalize PE bs len = kK at *;clear hc cB cg
  go_enter Tryz.func173, Tryz.ntmps173
  go_wp2
  go_loopw [3, 5, 11] (fun a _ i wr => ∃ (k : Nat), k ≤ len ∧ i = Q1 k ∧ a = Q1 (Sr bs k) ∧ Hid (∀ j, j < k → QZ bs j = true) ∧ Hid (Same w wr)) (fun _ _ i _ => len - (intOf i).toNat)
  case atStart => exact ⟨0, Nat.zero_le _, rfl, rfl, fun j hj => absurd hj (by omega), kZ0⟩
  case round =>
   obtain ⟨k, hk, rfl, rfl, mn, HK⟩ := hrel
   by_cases bg : k < len
   ·have q0 : wr.cell? ⟨b, off + k * 2, none⟩ = some (Q1 (bs.getD (k * 2) 0)) := by have h := HK.out.cellOf (HC.out (k * 2) (by omega)) id; simpa only [Nat.add_assoc] using h
    have q1 : wr.cell? ⟨b, off + k * 2 + 1, none⟩ = some (Q1 (bs.getD (k * 2 + 1) 0)) := by have h := HK.out.cellOf (HC.out (k * 2 + 1) (by omega)) id; simpa only [Nat.add_assoc] using h
    have gp : Hid (QZ bs k = Rs (Sr bs k) (bs.getD (k * 2) 0) (bs.getD (k * 2 + 1) 0)) := rfl;have E8 : Hid (Sr bs (k + 1) = bs.getD (k * 2) 0) := rfl;generalize Sr bs k = A at *;generalize bs.getD (k * 2) 0 = t0 at *;generalize bs.getD (k * 2 + 1) 0 = t1 at *;have hb := Blk.new wr #[Q1 t0, Q1 t1] 81;have bI := fun wx => UF t0 wx
    by_cases lY : t0 ≤ A
    ·have HF : Hid (kK = false) := jY.out k bg (by rw [gp.out]; unfold Rs; rw [decide_eq_false (show ¬ (A < t0) from by omega)]; simp only [Bool.false_and, Bool.and_false])
     go_wp2;go_ret;exact ⟨by rw [HF.out]; rfl, HK.out.alloc _⟩
    by_cases lP : Rm t0 = false
    ·have HF : Hid (kK = false) := jY.out k bg (by rw [gp.out]; unfold Rs; rw [lP]; simp only [Bool.false_and, Bool.and_false])
     rw [lP] at bI
     go_wp2_with (go_at_call 159; refine (bI _).mono ?_; rintro e wx ⟨rfl, bi⟩; have e0 : D0 wx wr.heap.size 0 (Q1 t0) := (hb.same bi).cell 0; have e1 : D0 wx wr.heap.size 1 (Q1 t1) := (hb.same bi).cell 1)
     go_ret;exact ⟨by rw [HF.out]; rfl, (HK.out.alloc _).trans bi⟩
    have dM := eq_true_of_ne_false lP
    by_cases lM : t1 < 1
    ·have HF : Hid (kK = false) := jY.out k bg (by rw [gp.out]; unfold Rs; rw [decide_eq_false (show ¬ (1 ≤ t1) from by omega)]; simp only [Bool.false_and, Bool.and_false])
     rw [dM] at bI
     go_wp2_with (go_at_call 159; refine (bI _).mono ?_; rintro e wx ⟨rfl, bi⟩; have e0 : D0 wx wr.heap.size 0 (Q1 t0) := (hb.same bi).cell 0; have e1 : D0 wx wr.heap.size 1 (Q1 t1) := (hb.same bi).cell 1)
     go_ret;exact ⟨by rw [HF.out]; rfl, (HK.out.alloc _).trans bi⟩
    by_cases FD : 1099511627776 < t1
    ·have HF : Hid (kK = false) := jY.out k bg (by rw [gp.out]; unfold Rs; rw [decide_eq_false (show ¬ (t1 ≤ 1099511627776) from by omega)]; simp only [Bool.false_and, Bool.and_false])
     rw [dM] at bI
     go_wp2_with (go_at_call 159; refine (bI _).mono ?_; rintro e wx ⟨rfl, bi⟩; have e0 : D0 wx wr.heap.size 0 (Q1 t0) := (hb.same bi).cell 0; have e1 : D0 wx wr.heap.size 1 (Q1 t1) := (hb.same bi).cell 1)
     go_ret;exact ⟨by rw [HF.out]; rfl, (HK.out.alloc _).trans bi⟩
    rw [dM] at bI;have nQ : Hid (QZ bs k = true) := by rw [gp.out]; unfold Rs; simp only [dM, decide_eq_true (show A < t0 from by omega), decide_eq_true (show 1 ≤ t1 from by omega), decide_eq_true (show t1 ≤ 1099511627776 from by omega), Bool.and_true, Bool.and_self]; exact trivial
    go_wp2_with (go_at_call 159; refine (bI _).mono ?_; rintro e wx ⟨rfl, bi⟩; have e0 : D0 wx wr.heap.size 0 (Q1 t0) := (hb.same bi).cell 0; have e1 : D0 wx wr.heap.size 1 (Q1 t1) := (hb.same bi).cell 1)
    go_roundw
    case rel => exact ⟨k + 1, by omega, by go_num, by rw [E8.out], fun j hj => (Nat.lt_succ_iff_lt_or_eq.1 hj).elim (mn.out j) (fun e => e ▸ nQ.out), (HK.out.alloc _).trans bi⟩
    case measure => simp [intOf]; omega
   ·obtain rfl : k = len := by omega
    go_wp2;go_ret;exact ⟨by rw [mr.out mn.out]; rfl, HK.out⟩
theorem XA (v : Value) (raw : List Int) (number : Int) (w : World) (hB : IsB raw) (hn : raw.length ≤ 1099511627776) (hv : Rd .u8 w v raw) :
  Calls Tryz.prog 176 #[v, Q1 number] w fun e w' => e = .returned (Q1 (Pm raw number)) ∧ Same w w' := by
 obtain ⟨a, c, rfl⟩ := hv.form
 by_cases hl : raw.length = 4096
 ·have hR : Pm raw number = RD (raw.take 4) (O4 raw 4 8) (O4 raw 12 4) (O4 raw 16 2) (slotsOf raw) raw number := by unfold Pm; rw [if_neg (by simp [hl])]
  obtain ⟨b, off, rfl, hc⟩ := rd_some hv (by omega);have FF := Zm hv (by omega)
  have hI : (Tryz.prog.info? 211).map (·.size) = some (vals .u8 raw).length := by rw [O1, hl]; exact Te
  have hT := Xx raw w hB hl;have pO := Rq raw hB 12 4 (by decide) (by decide) (by omega);have gm := Rq raw hB 16 2 (by decide) (by decide) (by omega)
  have hF := fun P wx (h : SP wx P (raw.take 4) (O4 raw 4 8) (O4 raw 12 4) (O4 raw 16 2) (slotsOf raw) raw) => jbw P (raw.take 4) (O4 raw 4 8) (O4 raw 12 4) (O4 raw 16 2) (slotsOf raw) raw number wx h (Qv raw hB hl) ⟨pO.1, by omega⟩ ⟨gm.1, by omega⟩
  rw [hR, hl];obtain ⟨F, vl⟩ : ∃ F, RD (raw.take 4) (O4 raw 4 8) (O4 raw 12 4) (O4 raw 16 2) (slotsOf raw) raw number = F := ⟨_, rfl⟩;rw [vl] at hF ⊢;obtain ⟨cs, ey⟩ : ∃ cs : List Value, vals .u8 raw = cs := ⟨_, rfl⟩;rw [ey] at hT FF hI;have mY := jav;clear ey hv hB hn hR hl vl pO gm
  go_enter Tryz.func176, Tryz.ntmps176
  go_wp2_with (first
   | (go_at_call 177; refine hT.mono ?_; rintro e w1 ⟨P, rfl, hP, ou, ah⟩)
   | (go_at_call 178; refine (hF P _ ou).mono ?_; rintro e w2 ⟨rfl, aj⟩)
   | (refine wpList_load_mid rfl 211 _ rfl b off rfl cs _ FF Tryz.underlying211 rfl hI ?_))
  go_ret;exact ⟨rfl, ah.trans aj⟩
 ·have hR : Pm raw number = 1 := by unfold Pm; rw [if_pos hl]
  rw [hR]
  have ry : ¬ (raw.length : Int) = 4096 := by omega
  clear hv hB
  go_enter Tryz.func176, Tryz.ntmps176
  go_wp2;go_ret;exact ⟨rfl, kZ0⟩
end Go.Proofs.YtapdfgkbhaoelaaGreatDoor
