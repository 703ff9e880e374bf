import Derived.Test.YtepdakgfioffgaaGreatG07
import Derived.Test.YtepdakgfioffgaaGreatKindFault
namespace Go.Proofs.YtepdakgfioffgaaGreat
set_option maxRecDepth 100000
set_option maxHeartbeats 16000000
set_option linter.unusedVariables false
set_option linter.unusedSimpArgs false
open Go.RowKit
def aheadTxns (bs : List Int) : Nat → Int
 | 0 => 0
 | k + 1 => bs.getD (k * 4) 0
def oneTxns (A t0 t1 t2 t3 : Int) : Bool := decide (A < t0) && isTxnB t0 && (decide (1 ≤ t1) && decide (t1 ≤ 3)) && (decide (1 ≤ t2) && decide (t2 ≤ 1099511627776)) && (decide (0 ≤ t3) && decide (t3 ≤ t2))
def atTxns (bs : List Int) (k : Nat) : Bool := oneTxns (aheadTxns bs k) (bs.getD (k * 4) 0) (bs.getD (k * 4 + 1) 0) (bs.getD (k * 4 + 2) 0) (bs.getD (k * 4 + 3) 0)
def allTxns (bs : List Int) (n : Nat) : Bool := decide (n ≤ 8) && (List.range n).all (atTxns bs)
theorem allTxns_no (bs : List Int) (n k : Nat) (hk : k < n) (h : atTxns bs k = false) : allTxns bs n = false := by
 unfold allTxns
 have : (List.range n).all (atTxns bs) = false := by
  rw [List.all_eq_false]
  exact ⟨k, List.mem_range.2 hk, by simp [h]⟩
 rw [this, Bool.and_false]
theorem allTxns_yes (bs : List Int) (n : Nat) (hn : n ≤ 8) (h : ∀ k < n, atTxns bs k = true) : allTxns bs n = true := by
 unfold allTxns
 rw [decide_eq_true hn, Bool.true_and, List.all_eq_true]
 exact fun k hk => h k (List.mem_range.1 hk)
theorem Txns_any (x : FR) (w : World) (hv : RdF 4 w x) : Calls Tryz.prog 164 #[x.v] w fun e w' => e = .returned (.bool (allTxns x.bs x.n)) ∧ Same w w' := by
 obtain ⟨lC, gN, fR⟩ := hv
 obtain ⟨xe, xa, len, xc, bs⟩ := x
 dsimp only [FR.v] at *
 unfold maxLen at lC
 by_cases hbig : (8 : Int) < len
 ·have hR : allTxns bs len = false := by unfold allTxns; rw [decide_eq_false (by omega)]; rfl
  rw [hR]
  clear hR fR
  go_enter Tryz.func164, Tryz.ntmps164
  go_wp2
  go_ret
  exact ⟨rfl, Kept.refl _ _⟩
 by_cases h0 : len = 0
 ·subst h0
  have hR : allTxns bs 0 = true := rfl
  rw [hR]
  clear fR
  go_enter Tryz.func164, Tryz.ntmps164
  go_wp2
  refine wp_loop_rounds 1 ?_
  rw [rounds_succ]
  go_wp2
  go_ret
  exact ⟨rfl, Kept.refl _ _⟩
 ·obtain ⟨b, off, rfl, mj, hc⟩ := fR.resolve_left h0
  have HC := (show Hid (∀ i, i < len * 4 → w.cell? ⟨b, off + i, none⟩ = some (.int .i64 (bs.getD i 0))) from hc)
  have Iz : len ≤ 8 := by omega
  have lL := (show Hid (∀ k, k < len → atTxns bs k = false → allTxns bs len = false) from fun k hk h => allTxns_no bs len k hk h)
  have rT := (show Hid ((∀ k, k < len → atTxns bs k = true) → allTxns bs len = true) from fun h => allTxns_yes bs len Iz h)
  generalize allTxns bs len = ql at *
  clear hc fR gN
  go_enter Tryz.func164, Tryz.ntmps164
  go_wp2
  go_loopw [3, 5, 11] (fun a _ i wr => ∃ (k : Nat), k ≤ len ∧ i = .int .i64 k ∧ a = .int .i64 (aheadTxns bs k) ∧ Hid (∀ j, j < k → atTxns bs j = true) ∧ Hid (Same w wr)) (fun _ _ i _ => len - (intOf i).toNat)
  case atStart => exact ⟨0, Nat.zero_le _, rfl, rfl, fun j hj => absurd hj (by omega), Kept.refl _ _⟩
  case round =>
   obtain ⟨k, hk, rfl, rfl, qj, HK⟩ := hrel
   by_cases dh : k < len
   ·have q0 : wr.cell? ⟨b, off + k * 4, none⟩ = some (.int .i64 (bs.getD (k * 4) 0)) := by have h := HK.out.cellOf (HC.out (k * 4) (by omega)) id; simpa only [Nat.add_assoc] using h
    have q1 : wr.cell? ⟨b, off + k * 4 + 1, none⟩ = some (.int .i64 (bs.getD (k * 4 + 1) 0)) := by have h := HK.out.cellOf (HC.out (k * 4 + 1) (by omega)) id; simpa only [Nat.add_assoc] using h
    have q2 : wr.cell? ⟨b, off + k * 4 + 2, none⟩ = some (.int .i64 (bs.getD (k * 4 + 2) 0)) := by have h := HK.out.cellOf (HC.out (k * 4 + 2) (by omega)) id; simpa only [Nat.add_assoc] using h
    have q3 : wr.cell? ⟨b, off + k * 4 + 3, none⟩ = some (.int .i64 (bs.getD (k * 4 + 3) 0)) := by have h := HK.out.cellOf (HC.out (k * 4 + 3) (by omega)) id; simpa only [Nat.add_assoc] using h
    have i3 := (show Hid (atTxns bs k = oneTxns (aheadTxns bs k) (bs.getD (k * 4) 0) (bs.getD (k * 4 + 1) 0) (bs.getD (k * 4 + 2) 0) (bs.getD (k * 4 + 3) 0)) from rfl)
    have mD := (show Hid (aheadTxns bs (k + 1) = bs.getD (k * 4) 0) from rfl)
    generalize aheadTxns bs k = A at *
    generalize bs.getD (k * 4) 0 = t0 at *
    generalize bs.getD (k * 4 + 1) 0 = t1 at *
    generalize bs.getD (k * 4 + 2) 0 = t2 at *
    generalize bs.getD (k * 4 + 3) 0 = t3 at *
    have hb := Blk.new wr #[.int .i64 t0, .int .i64 t1, .int .i64 t2, .int .i64 t3] 57
    have fV := fun wx => isTxn_any t0 wx
    by_cases pI : t0 ≤ A
    ·have HF := (show Hid (ql = false) from lL.out k dh (by rw [i3.out]; unfold oneTxns; rw [decide_eq_false (show ¬ (A < t0) from by omega)]; simp only [Bool.false_and, Bool.and_false]))
     go_wp2
     go_ret
     exact ⟨by rw [HF.out]; rfl, HK.out.alloc _⟩
    by_cases hc1 : isTxnB t0 = false
    ·have HF := (show Hid (ql = false) from lL.out k dh (by rw [i3.out]; unfold oneTxns; rw [hc1]; simp only [Bool.false_and, Bool.and_false]))
     rw [hc1] at fV
     go_wp2_with (go_at_call 150; refine (fV _).mono ?_; rintro e wx ⟨rfl, gE⟩; have e0 : wx.cell? ⟨wr.heap.size, 0, none⟩ = some (.int .i64 t0) := (hb.same gE).cell 0; have e1 : wx.cell? ⟨wr.heap.size, 1, none⟩ = some (.int .i64 t1) := (hb.same gE).cell 1; have e2 : wx.cell? ⟨wr.heap.size, 2, none⟩ = some (.int .i64 t2) := (hb.same gE).cell 2; have e3 : wx.cell? ⟨wr.heap.size, 3, none⟩ = some (.int .i64 t3) := (hb.same gE).cell 3)
     go_ret
     exact ⟨by rw [HF.out]; rfl, (HK.out.alloc _).trans gE⟩
    have qv := eq_true_of_ne_false hc1
    by_cases hc2 : t1 < 1
    ·have HF := (show Hid (ql = false) from lL.out k dh (by rw [i3.out]; unfold oneTxns; rw [decide_eq_false (show ¬ (1 ≤ t1) from by omega)]; simp only [Bool.false_and, Bool.and_false]))
     rw [qv] at fV
     go_wp2_with (go_at_call 150; refine (fV _).mono ?_; rintro e wx ⟨rfl, gE⟩; have e0 : wx.cell? ⟨wr.heap.size, 0, none⟩ = some (.int .i64 t0) := (hb.same gE).cell 0; have e1 : wx.cell? ⟨wr.heap.size, 1, none⟩ = some (.int .i64 t1) := (hb.same gE).cell 1; have e2 : wx.cell? ⟨wr.heap.size, 2, none⟩ = some (.int .i64 t2) := (hb.same gE).cell 2; have e3 : wx.cell? ⟨wr.heap.size, 3, none⟩ = some (.int .i64 t3) := (hb.same gE).cell 3)
     go_ret
     exact ⟨by rw [HF.out]; rfl, (HK.out.alloc _).trans gE⟩
    by_cases hc3 : 3 < t1
    ·have HF := (show Hid (ql = false) from lL.out k dh (by rw [i3.out]; unfold oneTxns; rw [decide_eq_false (show ¬ (t1 ≤ 3) from by omega)]; simp only [Bool.false_and, Bool.and_false]))
     rw [qv] at fV
     go_wp2_with (go_at_call 150; refine (fV _).mono ?_; rintro e wx ⟨rfl, gE⟩; have e0 : wx.cell? ⟨wr.heap.size, 0, none⟩ = some (.int .i64 t0) := (hb.same gE).cell 0; have e1 : wx.cell? ⟨wr.heap.size, 1, none⟩ = some (.int .i64 t1) := (hb.same gE).cell 1; have e2 : wx.cell? ⟨wr.heap.size, 2, none⟩ = some (.int .i64 t2) := (hb.same gE).cell 2; have e3 : wx.cell? ⟨wr.heap.size, 3, none⟩ = some (.int .i64 t3) := (hb.same gE).cell 3)
     go_ret
     exact ⟨by rw [HF.out]; rfl, (HK.out.alloc _).trans gE⟩
    by_cases hc4 : t2 < 1
    ·have HF := (show Hid (ql = false) from lL.out k dh (by rw [i3.out]; unfold oneTxns; rw [decide_eq_false (show ¬ (1 ≤ t2) from by omega)]; simp only [Bool.false_and, Bool.and_false]))
     rw [qv] at fV
     go_wp2_with (go_at_call 150; refine (fV _).mono ?_; rintro e wx ⟨rfl, gE⟩; have e0 : wx.cell? ⟨wr.heap.size, 0, none⟩ = some (.int .i64 t0) := (hb.same gE).cell 0; have e1 : wx.cell? ⟨wr.heap.size, 1, none⟩ = some (.int .i64 t1) := (hb.same gE).cell 1; have e2 : wx.cell? ⟨wr.heap.size, 2, none⟩ = some (.int .i64 t2) := (hb.same gE).cell 2; have e3 : wx.cell? ⟨wr.heap.size, 3, none⟩ = some (.int .i64 t3) := (hb.same gE).cell 3)
     go_ret
     exact ⟨by rw [HF.out]; rfl, (HK.out.alloc _).trans gE⟩
    by_cases hc5 : 1099511627776 < t2
    ·have HF := (show Hid (ql = false) from lL.out k dh (by rw [i3.out]; unfold oneTxns; rw [decide_eq_false (show ¬ (t2 ≤ 1099511627776) from by omega)]; simp only [Bool.false_and, Bool.and_false]))
     rw [qv] at fV
     go_wp2_with (go_at_call 150; refine (fV _).mono ?_; rintro e wx ⟨rfl, gE⟩; have e0 : wx.cell? ⟨wr.heap.size, 0, none⟩ = some (.int .i64 t0) := (hb.same gE).cell 0; have e1 : wx.cell? ⟨wr.heap.size, 1, none⟩ = some (.int .i64 t1) := (hb.same gE).cell 1; have e2 : wx.cell? ⟨wr.heap.size, 2, none⟩ = some (.int .i64 t2) := (hb.same gE).cell 2; have e3 : wx.cell? ⟨wr.heap.size, 3, none⟩ = some (.int .i64 t3) := (hb.same gE).cell 3)
     go_ret
     exact ⟨by rw [HF.out]; rfl, (HK.out.alloc _).trans gE⟩
    by_cases hc6 : t3 < 0
    ·have HF := (show Hid (ql = false) from lL.out k dh (by rw [i3.out]; unfold oneTxns; rw [decide_eq_false (show ¬ (0 ≤ t3) from by omega)]; simp only [Bool.false_and, Bool.and_false]))
     rw [qv] at fV
     go_wp2_with (go_at_call 150; refine (fV _).mono ?_; rintro e wx ⟨rfl, gE⟩; have e0 : wx.cell? ⟨wr.heap.size, 0, none⟩ = some (.int .i64 t0) := (hb.same gE).cell 0; have e1 : wx.cell? ⟨wr.heap.size, 1, none⟩ = some (.int .i64 t1) := (hb.same gE).cell 1; have e2 : wx.cell? ⟨wr.heap.size, 2, none⟩ = some (.int .i64 t2) := (hb.same gE).cell 2; have e3 : wx.cell? ⟨wr.heap.size, 3, none⟩ = some (.int .i64 t3) := (hb.same gE).cell 3)
     go_ret
     exact ⟨by rw [HF.out]; rfl, (HK.out.alloc _).trans gE⟩
    by_cases hc7 : t2 < t3
    ·have HF := (show Hid (ql = false) from lL.out k dh (by rw [i3.out]; unfold oneTxns; rw [decide_eq_false (show ¬ (t3 ≤ t2) from by omega)]; simp only [Bool.false_and, Bool.and_false]))
     rw [qv] at fV
     go_wp2_with (go_at_call 150; refine (fV _).mono ?_; rintro e wx ⟨rfl, gE⟩; have e0 : wx.cell? ⟨wr.heap.size, 0, none⟩ = some (.int .i64 t0) := (hb.same gE).cell 0; have e1 : wx.cell? ⟨wr.heap.size, 1, none⟩ = some (.int .i64 t1) := (hb.same gE).cell 1; have e2 : wx.cell? ⟨wr.heap.size, 2, none⟩ = some (.int .i64 t2) := (hb.same gE).cell 2; have e3 : wx.cell? ⟨wr.heap.size, 3, none⟩ = some (.int .i64 t3) := (hb.same gE).cell 3)
     go_ret
     exact ⟨by rw [HF.out]; rfl, (HK.out.alloc _).trans gE⟩
    rw [qv] at fV
    have mU := (show Hid (atTxns bs k = true) from by rw [i3.out]; unfold oneTxns; simp only [qv, decide_eq_true (show A < t0 from by omega), decide_eq_true (show 1 ≤ t1 from by omega), decide_eq_true (show t1 ≤ 3 from by omega), decide_eq_true (show 1 ≤ t2 from by omega), decide_eq_true (show t2 ≤ 1099511627776 from by omega), decide_eq_true (show 0 ≤ t3 from by omega), decide_eq_true (show t3 ≤ t2 from by omega), Bool.and_true, Bool.and_self]; exact trivial)
    go_wp2_with (go_at_call 150; refine (fV _).mono ?_; rintro e wx ⟨rfl, gE⟩; have e0 : wx.cell? ⟨wr.heap.size, 0, none⟩ = some (.int .i64 t0) := (hb.same gE).cell 0; have e1 : wx.cell? ⟨wr.heap.size, 1, none⟩ = some (.int .i64 t1) := (hb.same gE).cell 1; have e2 : wx.cell? ⟨wr.heap.size, 2, none⟩ = some (.int .i64 t2) := (hb.same gE).cell 2; have e3 : wx.cell? ⟨wr.heap.size, 3, none⟩ = some (.int .i64 t3) := (hb.same gE).cell 3)
    go_roundw
    case rel => exact ⟨k + 1, by omega, by go_num, by rw [mD.out], fun j hj => (Nat.lt_succ_iff_lt_or_eq.1 hj).elim (qj.out j) (fun e => e ▸ mU.out), (HK.out.alloc _).trans gE⟩
    case measure => simp [intOf]; omega
   ·obtain rfl : k = len := by omega
    go_wp2
    go_ret
    exact ⟨by rw [rT.out qj.out]; rfl, HK.out⟩
def aheadDirty (bs : List Int) : Nat → Int
 | 0 => -1
 | k + 1 => bs.getD (k * 2) 0
def oneDirty (A t0 t1 : Int) : Bool := decide (A < t0) && isPageB t0 && (decide (1 ≤ t1) && decide (t1 ≤ 1099511627776))
def atDirty (bs : List Int) (k : Nat) : Bool := oneDirty (aheadDirty bs k) (bs.getD (k * 2) 0) (bs.getD (k * 2 + 1) 0)
def allDirty (bs : List Int) (n : Nat) : Bool := decide (n ≤ 16) && (List.range n).all (atDirty bs)
theorem allDirty_no (bs : List Int) (n k : Nat) (hk : k < n) (h : atDirty bs k = false) : allDirty bs n = false := by
 unfold allDirty
 have : (List.range n).all (atDirty bs) = false := by
  rw [List.all_eq_false]
  exact ⟨k, List.mem_range.2 hk, by simp [h]⟩
 rw [this, Bool.and_false]
theorem allDirty_yes (bs : List Int) (n : Nat) (hn : n ≤ 16) (h : ∀ k < n, atDirty bs k = true) : allDirty bs n = true := by
 unfold allDirty
 rw [decide_eq_true hn, Bool.true_and, List.all_eq_true]
 exact fun k hk => h k (List.mem_range.1 hk)
theorem Dirty_any (x : FR) (w : World) (hv : RdF 2 w x) : Calls Tryz.prog 165 #[x.v] w fun e w' => e = .returned (.bool (allDirty x.bs x.n)) ∧ Same w w' := by
 obtain ⟨lC, gN, fR⟩ := hv
 obtain ⟨xe, xa, len, xc, bs⟩ := x
 dsimp only [FR.v] at *
 unfold maxLen at lC
 by_cases hbig : (16 : Int) < len
 ·have hR : allDirty bs len = false := by unfold allDirty; rw [decide_eq_false (by omega)]; rfl
  rw [hR]
  clear hR fR
  go_enter Tryz.func165, Tryz.ntmps165
  go_wp2
  go_ret
  exact ⟨rfl, Kept.refl _ _⟩
 by_cases h0 : len = 0
 ·subst h0
  have hR : allDirty bs 0 = true := rfl
  rw [hR]
  clear fR
  go_enter Tryz.func165, Tryz.ntmps165
  go_wp2
  refine wp_loop_rounds 1 ?_
  rw [rounds_succ]
  go_wp2
  go_ret
  exact ⟨rfl, Kept.refl _ _⟩
 ·obtain ⟨b, off, rfl, mj, hc⟩ := fR.resolve_left h0
  have HC := (show Hid (∀ i, i < len * 2 → w.cell? ⟨b, off + i, none⟩ = some (.int .i64 (bs.getD i 0))) from hc)
  have Iz : len ≤ 16 := by omega
  have lL := (show Hid (∀ k, k < len → atDirty bs k = false → allDirty bs len = false) from fun k hk h => allDirty_no bs len k hk h)
  have rT := (show Hid ((∀ k, k < len → atDirty bs k = true) → allDirty bs len = true) from fun h => allDirty_yes bs len Iz h)
  generalize allDirty bs len = ql at *
  clear hc fR gN
  go_enter Tryz.func165, Tryz.ntmps165
  go_wp2
  go_loopw [3, 5, 11] (fun a _ i wr => ∃ (k : Nat), k ≤ len ∧ i = .int .i64 k ∧ a = .int .i64 (aheadDirty bs k) ∧ Hid (∀ j, j < k → atDirty bs j = true) ∧ Hid (Same w wr)) (fun _ _ i _ => len - (intOf i).toNat)
  case atStart => exact ⟨0, Nat.zero_le _, rfl, rfl, fun j hj => absurd hj (by omega), Kept.refl _ _⟩
  case round =>
   obtain ⟨k, hk, rfl, rfl, qj, HK⟩ := hrel
   by_cases dh : k < len
   ·have q0 : wr.cell? ⟨b, off + k * 2, none⟩ = some (.int .i64 (bs.getD (k * 2) 0)) := by have h := HK.out.cellOf (HC.out (k * 2) (by omega)) id; simpa only [Nat.add_assoc] using h
    have q1 : wr.cell? ⟨b, off + k * 2 + 1, none⟩ = some (.int .i64 (bs.getD (k * 2 + 1) 0)) := by have h := HK.out.cellOf (HC.out (k * 2 + 1) (by omega)) id; simpa only [Nat.add_assoc] using h
    have i3 := (show Hid (atDirty bs k = oneDirty (aheadDirty bs k) (bs.getD (k * 2) 0) (bs.getD (k * 2 + 1) 0)) from rfl)
    have mD := (show Hid (aheadDirty bs (k + 1) = bs.getD (k * 2) 0) from rfl)
    generalize aheadDirty bs k = A at *
    generalize bs.getD (k * 2) 0 = t0 at *
    generalize bs.getD (k * 2 + 1) 0 = t1 at *
    have hb := Blk.new wr #[.int .i64 t0, .int .i64 t1] 60
    have fV := fun wx => isPage_any t0 wx
    by_cases pI : t0 ≤ A
    ·have HF := (show Hid (ql = false) from lL.out k dh (by rw [i3.out]; unfold oneDirty; rw [decide_eq_false (show ¬ (A < t0) from by omega)]; simp only [Bool.false_and, Bool.and_false]))
     go_wp2
     go_ret
     exact ⟨by rw [HF.out]; rfl, HK.out.alloc _⟩
    by_cases hc1 : isPageB t0 = false
    ·have HF := (show Hid (ql = false) from lL.out k dh (by rw [i3.out]; unfold oneDirty; rw [hc1]; simp only [Bool.false_and, Bool.and_false]))
     rw [hc1] at fV
     go_wp2_with (go_at_call 153; refine (fV _).mono ?_; rintro e wx ⟨rfl, gE⟩; have e0 : wx.cell? ⟨wr.heap.size, 0, none⟩ = some (.int .i64 t0) := (hb.same gE).cell 0; have e1 : wx.cell? ⟨wr.heap.size, 1, none⟩ = some (.int .i64 t1) := (hb.same gE).cell 1)
     go_ret
     exact ⟨by rw [HF.out]; rfl, (HK.out.alloc _).trans gE⟩
    have qv := eq_true_of_ne_false hc1
    by_cases hc2 : t1 < 1
    ·have HF := (show Hid (ql = false) from lL.out k dh (by rw [i3.out]; unfold oneDirty; rw [decide_eq_false (show ¬ (1 ≤ t1) from by omega)]; simp only [Bool.false_and, Bool.and_false]))
     rw [qv] at fV
     go_wp2_with (go_at_call 153; refine (fV _).mono ?_; rintro e wx ⟨rfl, gE⟩; have e0 : wx.cell? ⟨wr.heap.size, 0, none⟩ = some (.int .i64 t0) := (hb.same gE).cell 0; have e1 : wx.cell? ⟨wr.heap.size, 1, none⟩ = some (.int .i64 t1) := (hb.same gE).cell 1)
     go_ret
     exact ⟨by rw [HF.out]; rfl, (HK.out.alloc _).trans gE⟩
    by_cases hc3 : 1099511627776 < t1
    ·have HF := (show Hid (ql = false) from lL.out k dh (by rw [i3.out]; unfold oneDirty; rw [decide_eq_false (show ¬ (t1 ≤ 1099511627776) from by omega)]; simp only [Bool.false_and, Bool.and_false]))
     rw [qv] at fV
     go_wp2_with (go_at_call 153; refine (fV _).mono ?_; rintro e wx ⟨rfl, gE⟩; have e0 : wx.cell? ⟨wr.heap.size, 0, none⟩ = some (.int .i64 t0) := (hb.same gE).cell 0; have e1 : wx.cell? ⟨wr.heap.size, 1, none⟩ = some (.int .i64 t1) := (hb.same gE).cell 1)
     go_ret
     exact ⟨by rw [HF.out]; rfl, (HK.out.alloc _).trans gE⟩
    rw [qv] at fV
    have mU := (show Hid (atDirty bs k = true) from by rw [i3.out]; unfold oneDirty; simp only [qv, decide_eq_true (show A < t0 from by omega), decide_eq_true (show 1 ≤ t1 from by omega), decide_eq_true (show t1 ≤ 1099511627776 from by omega), Bool.and_true, Bool.and_self]; exact trivial)
    go_wp2_with (go_at_call 153; refine (fV _).mono ?_; rintro e wx ⟨rfl, gE⟩; have e0 : wx.cell? ⟨wr.heap.size, 0, none⟩ = some (.int .i64 t0) := (hb.same gE).cell 0; have e1 : wx.cell? ⟨wr.heap.size, 1, none⟩ = some (.int .i64 t1) := (hb.same gE).cell 1)
    go_roundw
    case rel => exact ⟨k + 1, by omega, by go_num, by rw [mD.out], fun j hj => (Nat.lt_succ_iff_lt_or_eq.1 hj).elim (qj.out j) (fun e => e ▸ mU.out), (HK.out.alloc _).trans gE⟩
    case measure => simp [intOf]; omega
   ·obtain rfl : k = len := by omega
    go_wp2
    go_ret
    exact ⟨by rw [rT.out qj.out]; rfl, HK.out⟩
theorem implFault_any (v : Value) (raw : List Int) (number : Int) (w : World) (hB : IsB raw) (hn : raw.length ≤ 1099511627776) (hv : Rd .u8 w v raw) :
  Calls Tryz.prog 168 #[v, .int .i64 number] w fun e w' => e = .returned (.int .i64 (pageFault raw number)) ∧ Same w w' := by
 obtain ⟨a, c, rfl⟩ := hv.form
 by_cases hl : raw.length = 4096
 ·have hR : pageFault raw number = faultP (raw.take 4) (numAt raw 4 8) (numAt raw 12 4) (numAt raw 16 2) (slotsOf raw) raw number := by unfold pageFault; rw [if_neg (by simp [hl])]
  obtain ⟨b, off, rfl, hc⟩ := rd_some hv (by omega)
  have AG := rd_range hv (by omega)
  have hI : (Tryz.prog.info? 205).map (·.size) = some (vals .u8 raw).length := by rw [vals_length, hl]; exact page_info
  have hT := takeApart_any raw w hB hl
  have C8 := numAt_in raw hB 12 4 (by decide) (by decide) (by omega)
  have Bw := numAt_in raw hB 16 2 (by decide) (by decide) (by omega)
  have hF := fun P wx (h : SP wx P (raw.take 4) (numAt raw 4 8) (numAt raw 12 4) (numAt raw 16 2) (slotsOf raw) raw) => fault_any P (raw.take 4) (numAt raw 4 8) (numAt raw 12 4) (numAt raw 16 2) (slotsOf raw) raw number wx h (slotsOf_small raw hB hl) ⟨C8.1, by omega⟩ ⟨Bw.1, by omega⟩
  rw [hR, hl]
  obtain ⟨F, Em⟩ : ∃ F, faultP (raw.take 4) (numAt raw 4 8) (numAt raw 12 4) (numAt raw 16 2) (slotsOf raw) raw number = F := ⟨_, rfl⟩
  rw [Em] at hF ⊢
  obtain ⟨cs, dY⟩ : ∃ cs : List Value, vals .u8 raw = cs := ⟨_, rfl⟩
  rw [dY] at hT AG hI
  have tf := run_arrayP
  clear dY hv hB hn hR hl Em C8 Bw
  go_enter Tryz.func168, Tryz.ntmps168
  go_wp2_with (first
   | (go_at_call 169; refine hT.mono ?_; rintro e w1 ⟨P, rfl, hP, nS, bg⟩)
   | (go_at_call 170; refine (hF P _ nS).mono ?_; rintro e w2 ⟨rfl, eC⟩)
   | (refine wpList_load_mid rfl 205 _ rfl b off rfl cs _ AG Tryz.underlying205 rfl hI ?_))
  go_ret
  exact ⟨rfl, bg.trans eC⟩
 ·have hR : pageFault raw number = 1 := by unfold pageFault; rw [if_pos hl]
  rw [hR]
  have Ij : ¬ (raw.length : Int) = 4096 := by omega
  clear hv hB
  go_enter Tryz.func168, Tryz.ntmps168
  go_wp2
  go_ret
  exact ⟨rfl, Kept.refl _ _⟩
theorem undoFault_any (txn prev page slot : Int) (aU : Bool) (bH : Option Addr) (fB bI : Nat) (uN : Int) (w : World) (JK : fB ≤ maxLen) :
  Calls Tryz.prog 160 #[.agg #[.int .i64 txn, .int .i64 prev, .int .i64 page, .int .i64 slot, .bool aU, .slice bH fB bI, .int .i64 uN]] w fun e w' => e = .returned (.int .i64 (orF (headF txn prev) (placeF page slot) (undF aU fB uN))) ∧ Same w w' := by
 have h1 := fun wx => fits_any aU bH fB bI wx JK
 have h2 := fun wx => isLSN_any uN wx
 have b0 := Blk.new w #[.int .i64 txn, .int .i64 prev, .int .i64 page, .int .i64 slot, .bool aU, .slice bH fB bI, .int .i64 uN] 141
 have ep : Same w (w.alloc (.cells #[.int .i64 txn, .int .i64 prev, .int .i64 page, .int .i64 slot, .bool aU, .slice bH fB bI, .int .i64 uN] 141)) := (Kept.refl _ _).alloc _
 unfold undF
 cases e1 : fitsB aU fB with
 | false =>
  rw [e1] at h1
  simp only [if_true]
  go_enter Tryz.func160, Tryz.ntmps160
  go_wp2_with fail
  refine (h1 _).mono ?_
  rintro e w1 ⟨rfl, bg⟩
  have pU := (b0.same bg).c0
  have pL := (b0.same bg).c1
  have m4 := (b0.same bg).c2
  have ng := (b0.same bg).c3
  have m8 := (b0.same bg).c4
  have pK := (b0.same bg).c5
  have o9 := (b0.same bg).c6
  go_wp2_with fail
  have gS := b0.same bg
  let Y1 : World → Prop := fun wx : World => wx.cell? ⟨w.heap.size, 0, none⟩ = some (.int .i64 txn) ∧ wx.cell? ⟨w.heap.size, 1, none⟩ = some (.int .i64 prev) ∧ wx.cell? ⟨w.heap.size, 2, none⟩ = some (.int .i64 page) ∧ wx.cell? ⟨w.heap.size, 3, none⟩ = some (.int .i64 slot) ∧ wx.cell? ⟨w.heap.size, 4, none⟩ = some (.bool aU) ∧ wx.cell? ⟨w.heap.size, 5, none⟩ = some (.slice bH fB bI) ∧ wx.cell? ⟨w.heap.size, 6, none⟩ = some (.int .i64 uN)
  have cI : ∀ wx, Same w1 wx → Y1 wx := fun wx h => ⟨(gS.same h).cell 0, (gS.same h).cell 1, (gS.same h).cell 2, (gS.same h).cell 3, (gS.same h).cell 4, (gS.same h).cell 5, (gS.same h).cell 6⟩
  have hS : Y1 w1.drew := by exact cI _ (Kept.refl _ _).drew
  refine wp_region_V Y1 9 10 rfl (by kernel_rfl) ?_
  refine tk 0 14 hS ?_
  refine tk 1 15 hS ?_
  refine tk 3 17 hS ?_
  refine tk 4 18 hS ?_
  refine tk 6 20 hS ?_
  refine wpAnyV_one (i := 2) (by kernel_rfl) rfl (fun K hK => ?_)
  go_simp
  have hc := headFault_any txn prev (w1.drew)
  with_reducible refine hc.mono ?_
  clear hc
  rintro e wa ⟨rfl, bJ⟩
  have jm : Same w1 wa := Kept.trans ((Kept.refl _ _).drew) bJ
  clear bJ
  have hS : Y1 wa := cI _ jm
  refine hK.out _ _ (fun _ => hS) ?_
  clear hK K
  try simp only [Act.put, sA, s0, sS]
  refine wpAnyV_one (i := 5) (by kernel_rfl) rfl (fun K hK => ?_)
  go_simp
  have hc := placeFault_any page slot wa
  with_reducible refine hc.mono ?_
  clear hc
  rintro e wb ⟨rfl, bJ⟩
  have ju : Same w1 wb := Kept.trans (jm) bJ
  clear bJ
  have hS : Y1 wb := cI _ ju
  refine hK.out _ _ (fun _ => hS) ?_
  clear hK K
  try simp only [Act.put, sA, s0, sS]
  refine wpAnyV_one (i := 7) (by kernel_rfl) rfl (fun K hK => ?_)
  go_simp
  have bz := Blk.new wb #[.int .i64 (headF txn prev), .int .i64 (placeF page slot), .int .i64 6] 2
  have lW : Same w1 (wb.alloc (.cells #[.int .i64 (headF txn prev), .int .i64 (placeF page slot), .int .i64 6] 2)) := ju.alloc _
  have hS : Y1 _ := cI _ lW
  refine hK.out _ _ (fun _ => hS) ?_
  clear hK K
  try simp only [Act.put, sA, s0, sS]
  refine wpAnyV_one (i := 8) (by kernel_rfl) rfl (fun K hK => ?_)
  go_simp
  have hc := cmpOr_any 0 (headF txn prev) (placeF page slot) 6 wb.heap.size (wb.alloc (.cells #[.int .i64 (headF txn prev), .int .i64 (placeF page slot), .int .i64 6] 2)) (bz.cell 0) (bz.cell 1) (bz.cell 2)
  with_reducible refine hc.mono ?_
  clear hc
  rintro e wc ⟨rfl, bJ⟩
  have jl : Same w1 wc := Kept.trans (lW) bJ
  clear bJ
  have hS : Y1 wc := cI _ jl
  refine hK.out _ _ (fun _ => hS) ?_
  clear hK K
  try simp only [Act.put, sA, s0, sS]
  refine wpAnyV_one (i := 9) (by kernel_rfl) rfl (fun K hK => ?_)
  go_simp
  refine hK.out _ _ (fun h => absurd rfl h) ?_
  clear hK K
  refine wpAnyV_done (by kernel_rfl) ?_
  try simp only [Act.put, sA, s0, sS]
  go_wp2
  go_ret
  exact ⟨rfl, (ep.trans bg).trans jl⟩
 | true =>
  rw [e1] at h1
  cases e2 : isLSN uN with
  | false =>
   rw [e2] at h2
   simp only [Bool.true_eq_false, if_false, if_true]
   go_enter Tryz.func160, Tryz.ntmps160
   go_wp2_with fail
   refine (h1 _).mono ?_
   rintro e w0 ⟨rfl, bg⟩
   have mJ := (b0.same bg).c0
   have mg := (b0.same bg).c1
   have mn := (b0.same bg).c2
   have mI := (b0.same bg).c3
   have mE := (b0.same bg).c4
   have mo := (b0.same bg).c5
   have mF := (b0.same bg).c6
   go_wp2_with fail
   refine (h2 _).mono ?_
   rintro e w1 ⟨rfl, eC⟩
   have bg := bg.trans eC
   clear mJ mg mn mI mE mo mF
   have pU := (b0.same bg).c0
   have pL := (b0.same bg).c1
   have m4 := (b0.same bg).c2
   have ng := (b0.same bg).c3
   have m8 := (b0.same bg).c4
   have pK := (b0.same bg).c5
   have o9 := (b0.same bg).c6
   go_wp2_with fail
   have gS := b0.same bg
   let Y2 : World → Prop := fun wx : World => wx.cell? ⟨w.heap.size, 0, none⟩ = some (.int .i64 txn) ∧ wx.cell? ⟨w.heap.size, 1, none⟩ = some (.int .i64 prev) ∧ wx.cell? ⟨w.heap.size, 2, none⟩ = some (.int .i64 page) ∧ wx.cell? ⟨w.heap.size, 3, none⟩ = some (.int .i64 slot) ∧ wx.cell? ⟨w.heap.size, 4, none⟩ = some (.bool aU) ∧ wx.cell? ⟨w.heap.size, 5, none⟩ = some (.slice bH fB bI) ∧ wx.cell? ⟨w.heap.size, 6, none⟩ = some (.int .i64 uN)
   have cI : ∀ wx, Same w1 wx → Y2 wx := fun wx h => ⟨(gS.same h).cell 0, (gS.same h).cell 1, (gS.same h).cell 2, (gS.same h).cell 3, (gS.same h).cell 4, (gS.same h).cell 5, (gS.same h).cell 6⟩
   have hS : Y2 w1.drew := by exact cI _ (Kept.refl _ _).drew
   refine wp_region_V Y2 9 10 rfl (by kernel_rfl) ?_
   refine tk 0 14 hS ?_
   refine tk 1 15 hS ?_
   refine tk 3 17 hS ?_
   refine tk 4 18 hS ?_
   refine tk 6 20 hS ?_
   refine wpAnyV_one (i := 2) (by kernel_rfl) rfl (fun K hK => ?_)
   go_simp
   have hc := headFault_any txn prev (w1.drew)
   with_reducible refine hc.mono ?_
   clear hc
   rintro e wa ⟨rfl, bJ⟩
   have jm : Same w1 wa := Kept.trans ((Kept.refl _ _).drew) bJ
   clear bJ
   have hS : Y2 wa := cI _ jm
   refine hK.out _ _ (fun _ => hS) ?_
   clear hK K
   try simp only [Act.put, sA, s0, sS]
   refine wpAnyV_one (i := 5) (by kernel_rfl) rfl (fun K hK => ?_)
   go_simp
   have hc := placeFault_any page slot wa
   with_reducible refine hc.mono ?_
   clear hc
   rintro e wb ⟨rfl, bJ⟩
   have ju : Same w1 wb := Kept.trans (jm) bJ
   clear bJ
   have hS : Y2 wb := cI _ ju
   refine hK.out _ _ (fun _ => hS) ?_
   clear hK K
   try simp only [Act.put, sA, s0, sS]
   refine wpAnyV_one (i := 7) (by kernel_rfl) rfl (fun K hK => ?_)
   go_simp
   have bz := Blk.new wb #[.int .i64 (headF txn prev), .int .i64 (placeF page slot), .int .i64 7] 2
   have lW : Same w1 (wb.alloc (.cells #[.int .i64 (headF txn prev), .int .i64 (placeF page slot), .int .i64 7] 2)) := ju.alloc _
   have hS : Y2 _ := cI _ lW
   refine hK.out _ _ (fun _ => hS) ?_
   clear hK K
   try simp only [Act.put, sA, s0, sS]
   refine wpAnyV_one (i := 8) (by kernel_rfl) rfl (fun K hK => ?_)
   go_simp
   have hc := cmpOr_any 0 (headF txn prev) (placeF page slot) 7 wb.heap.size (wb.alloc (.cells #[.int .i64 (headF txn prev), .int .i64 (placeF page slot), .int .i64 7] 2)) (bz.cell 0) (bz.cell 1) (bz.cell 2)
   with_reducible refine hc.mono ?_
   clear hc
   rintro e wc ⟨rfl, bJ⟩
   have jl : Same w1 wc := Kept.trans (lW) bJ
   clear bJ
   have hS : Y2 wc := cI _ jl
   refine hK.out _ _ (fun _ => hS) ?_
   clear hK K
   try simp only [Act.put, sA, s0, sS]
   refine wpAnyV_one (i := 9) (by kernel_rfl) rfl (fun K hK => ?_)
   go_simp
   refine hK.out _ _ (fun h => absurd rfl h) ?_
   clear hK K
   refine wpAnyV_done (by kernel_rfl) ?_
   try simp only [Act.put, sA, s0, sS]
   go_wp2
   go_ret
   exact ⟨rfl, (ep.trans bg).trans jl⟩
  | true =>
   rw [e2] at h2
   simp only [Bool.true_eq_false, if_false]
   go_enter Tryz.func160, Tryz.ntmps160
   go_wp2_with fail
   refine (h1 _).mono ?_
   rintro e w0 ⟨rfl, bg⟩
   have mJ := (b0.same bg).c0
   have mg := (b0.same bg).c1
   have mn := (b0.same bg).c2
   have mI := (b0.same bg).c3
   have mE := (b0.same bg).c4
   have mo := (b0.same bg).c5
   have mF := (b0.same bg).c6
   go_wp2_with fail
   refine (h2 _).mono ?_
   rintro e w1 ⟨rfl, eC⟩
   have bg := bg.trans eC
   clear mJ mg mn mI mE mo mF
   have pU := (b0.same bg).c0
   have pL := (b0.same bg).c1
   have m4 := (b0.same bg).c2
   have ng := (b0.same bg).c3
   have m8 := (b0.same bg).c4
   have pK := (b0.same bg).c5
   have o9 := (b0.same bg).c6
   go_wp2_with fail
   have gS := b0.same bg
   let Y3 : World → Prop := fun wx : World => wx.cell? ⟨w.heap.size, 0, none⟩ = some (.int .i64 txn) ∧ wx.cell? ⟨w.heap.size, 1, none⟩ = some (.int .i64 prev) ∧ wx.cell? ⟨w.heap.size, 2, none⟩ = some (.int .i64 page) ∧ wx.cell? ⟨w.heap.size, 3, none⟩ = some (.int .i64 slot) ∧ wx.cell? ⟨w.heap.size, 4, none⟩ = some (.bool aU) ∧ wx.cell? ⟨w.heap.size, 5, none⟩ = some (.slice bH fB bI) ∧ wx.cell? ⟨w.heap.size, 6, none⟩ = some (.int .i64 uN)
   have cI : ∀ wx, Same w1 wx → Y3 wx := fun wx h => ⟨(gS.same h).cell 0, (gS.same h).cell 1, (gS.same h).cell 2, (gS.same h).cell 3, (gS.same h).cell 4, (gS.same h).cell 5, (gS.same h).cell 6⟩
   have hS : Y3 w1.drew := by exact cI _ (Kept.refl _ _).drew
   refine wp_region_V Y3 9 10 rfl (by kernel_rfl) ?_
   refine tk 0 14 hS ?_
   refine tk 1 15 hS ?_
   refine tk 3 17 hS ?_
   refine tk 4 18 hS ?_
   refine tk 6 20 hS ?_
   refine wpAnyV_one (i := 2) (by kernel_rfl) rfl (fun K hK => ?_)
   go_simp
   have hc := headFault_any txn prev (w1.drew)
   with_reducible refine hc.mono ?_
   clear hc
   rintro e wa ⟨rfl, bJ⟩
   have jm : Same w1 wa := Kept.trans ((Kept.refl _ _).drew) bJ
   clear bJ
   have hS : Y3 wa := cI _ jm
   refine hK.out _ _ (fun _ => hS) ?_
   clear hK K
   try simp only [Act.put, sA, s0, sS]
   refine wpAnyV_one (i := 5) (by kernel_rfl) rfl (fun K hK => ?_)
   go_simp
   have hc := placeFault_any page slot wa
   with_reducible refine hc.mono ?_
   clear hc
   rintro e wb ⟨rfl, bJ⟩
   have ju : Same w1 wb := Kept.trans (jm) bJ
   clear bJ
   have hS : Y3 wb := cI _ ju
   refine hK.out _ _ (fun _ => hS) ?_
   clear hK K
   try simp only [Act.put, sA, s0, sS]
   refine wpAnyV_one (i := 7) (by kernel_rfl) rfl (fun K hK => ?_)
   go_simp
   have bz := Blk.new wb #[.int .i64 (headF txn prev), .int .i64 (placeF page slot), .int .i64 0] 2
   have lW : Same w1 (wb.alloc (.cells #[.int .i64 (headF txn prev), .int .i64 (placeF page slot), .int .i64 0] 2)) := ju.alloc _
   have hS : Y3 _ := cI _ lW
   refine hK.out _ _ (fun _ => hS) ?_
   clear hK K
   try simp only [Act.put, sA, s0, sS]
   refine wpAnyV_one (i := 8) (by kernel_rfl) rfl (fun K hK => ?_)
   go_simp
   have hc := cmpOr_any 0 (headF txn prev) (placeF page slot) 0 wb.heap.size (wb.alloc (.cells #[.int .i64 (headF txn prev), .int .i64 (placeF page slot), .int .i64 0] 2)) (bz.cell 0) (bz.cell 1) (bz.cell 2)
   with_reducible refine hc.mono ?_
   clear hc
   rintro e wc ⟨rfl, bJ⟩
   have jl : Same w1 wc := Kept.trans (lW) bJ
   clear bJ
   have hS : Y3 wc := cI _ jl
   refine hK.out _ _ (fun _ => hS) ?_
   clear hK K
   try simp only [Act.put, sA, s0, sS]
   refine wpAnyV_one (i := 9) (by kernel_rfl) rfl (fun K hK => ?_)
   go_simp
   refine hK.out _ _ (fun h => absurd rfl h) ?_
   clear hK K
   refine wpAnyV_done (by kernel_rfl) ?_
   try simp only [Act.put, sA, s0, sS]
   go_wp2
   go_ret
   exact ⟨rfl, (ep.trans bg).trans jl⟩
def imgF (page : Int) (im : List Int) : Int := if isPageB page = false then 5 else if pageFault im page ≠ 0 then 9 else 0
theorem imageFault_any (page : Int) (cg : Option Addr) (cm : Nat) (im : List Int) (w : World) (hB : IsB im) (hn : im.length ≤ 1099511627776) (hv : Rd .u8 w (.slice cg im.length cm) im) :
  Calls Tryz.prog 167 #[.agg #[.int .i64 0, .int .i64 0, .int .i64 page, .slice cg im.length cm]] w fun e w' => e = .returned (.int .i64 (imgF page im)) ∧ Same w w' := by
 have h1 := fun wx => isPage_any page wx
 have b0 := Blk.new w #[.int .i64 0, .int .i64 0, .int .i64 page, .slice cg im.length cm] 150
 have ep : Same w (w.alloc (.cells #[.int .i64 0, .int .i64 0, .int .i64 page, .slice cg im.length cm] 150)) := (Kept.refl _ _).alloc _
 have h2 := fun wx (h : Same w wx) => implFault_any (.slice cg im.length cm) im page wx hB hn (hv.same h)
 unfold imgF
 clear hv hB hn
 cases e1 : isPageB page with
 | false =>
  rw [e1] at h1
  simp only [if_true]
  go_enter Tryz.func167, Tryz.ntmps167
  go_wp2_with (go_at_call 153; refine (h1 _).mono ?_; rintro e w1 ⟨rfl, bg⟩)
  go_ret
  exact ⟨rfl, ep.trans bg⟩
 | true =>
  rw [e1] at h1
  simp only [Bool.true_eq_false, if_false]
  generalize pageFault im page = F at *
  by_cases hF : F = 0
  ·subst hF
   simp only [ne_eq, not_true_eq_false, if_false]
   go_enter Tryz.func167, Tryz.ntmps167
   go_wp2_with (first
    | (go_at_call 153; refine (h1 _).mono ?_; rintro e w1 ⟨rfl, bg⟩; have c2 : w1.cell? ⟨w.heap.size, 2, none⟩ = some (.int .i64 page) := (b0.same bg).cell 2; have c3 : w1.cell? ⟨w.heap.size, 3, none⟩ = some (.slice cg im.length cm) := (b0.same bg).cell 3; have oZ := h2 w1 (ep.trans bg))
    | (go_at_call 168; refine oZ.mono ?_; rintro e w2 ⟨rfl, eC⟩))
   go_ret
   exact ⟨rfl, (ep.trans bg).trans eC⟩
  ·rw [if_pos hF]
   go_enter Tryz.func167, Tryz.ntmps167
   go_wp2_with (first
    | (go_at_call 153; refine (h1 _).mono ?_; rintro e w1 ⟨rfl, bg⟩; have c2 : w1.cell? ⟨w.heap.size, 2, none⟩ = some (.int .i64 page) := (b0.same bg).cell 2; have c3 : w1.cell? ⟨w.heap.size, 3, none⟩ = some (.slice cg im.length cm) := (b0.same bg).cell 3; have oZ := h2 w1 (ep.trans bg))
    | (go_at_call 168; refine oZ.mono ?_; rintro e w2 ⟨rfl, eC⟩))
   go_ret
   exact ⟨rfl, (ep.trans bg).trans eC⟩
def tabF (nT : Int) (tx : List Int) (tn : Nat) (dy : List Int) (dn : Nat) : Int := if (decide (1 ≤ nT) && decide (nT ≤ 2147483648) && allTxns tx tn && allDirty dy dn) = true then 0 else 8
theorem tablesFault_any (nT : Int) (tx dy : FR) (w : World) (hv : RdF 4 w tx) (Ff : RdF 2 w dy) :
  Calls Tryz.prog 163 #[.agg #[.int .i64 0, .int .i64 0, .int .i64 nT, tx.v, dy.v]] w fun e w' => e = .returned (.int .i64 (tabF nT tx.bs tx.n dy.bs dy.n)) ∧ Same w w' := by
 have h1 := fun wx (h : Same w wx) => Txns_any tx wx (hv.same h)
 have h2 := fun wx (h : Same w wx) => Dirty_any dy wx (Ff.same h)
 obtain ⟨Ud, rb, txn, mM, jL⟩ := tx
 obtain ⟨Tk, qQ, dyn, nM, kw⟩ := dy
 dsimp only [FR.v] at *
 have b0 := Blk.new w #[.int .i64 0, .int .i64 0, .int .i64 nT, .slice rb txn mM, .slice qQ dyn nM] 148
 have ep : Same w (w.alloc (.cells #[.int .i64 0, .int .i64 0, .int .i64 nT, .slice rb txn mM, .slice qQ dyn nM] 148)) := (Kept.refl _ _).alloc _
 unfold tabF
 generalize allTxns jL txn = A at *
 generalize allDirty kw dyn = B at *
 clear hv Ff
 by_cases pI : nT < 1
 ·rw [decide_eq_false (show ¬ (1 ≤ nT) from by omega)]
  simp only [Bool.false_and, Bool.false_eq_true, if_false]
  go_enter Tryz.func163, Tryz.ntmps163
  go_wp2
  go_ret
  exact ⟨rfl, ep⟩
 by_cases hc1 : 2147483648 < nT
 ·rw [decide_eq_false (show ¬ (nT ≤ 2147483648) from by omega)]
  simp only [Bool.false_and, Bool.and_false, Bool.false_eq_true, if_false]
  go_enter Tryz.func163, Tryz.ntmps163
  go_wp2
  go_ret
  exact ⟨rfl, ep⟩
 rw [decide_eq_true (show 1 ≤ nT from by omega), decide_eq_true (show nT ≤ 2147483648 from by omega)]
 cases A with
 | false =>
  simp only [Bool.false_and, Bool.and_false, Bool.false_eq_true, if_false]
  go_enter Tryz.func163, Tryz.ntmps163
  go_wp2_with (go_at_call 164; refine (h1 _ ep).mono ?_; rintro e w1 ⟨rfl, bg⟩; have m4 : w1.cell? ⟨w.heap.size, 2, none⟩ = some (.int .i64 nT) := (b0.same bg).cell 2; have ng : w1.cell? ⟨w.heap.size, 3, none⟩ = some (.slice rb txn mM) := (b0.same bg).cell 3; have m8 : w1.cell? ⟨w.heap.size, 4, none⟩ = some (.slice qQ dyn nM) := (b0.same bg).cell 4)
  go_ret
  exact ⟨rfl, ep.trans bg⟩
 | true =>
  cases B with
  | false =>
   simp only [Bool.and_self, Bool.and_false, Bool.false_eq_true, if_false]
   go_enter Tryz.func163, Tryz.ntmps163
   go_wp2_with (first
    | (go_at_call 164; refine (h1 _ ep).mono ?_; rintro e w1 ⟨rfl, bg⟩; have m4 : w1.cell? ⟨w.heap.size, 2, none⟩ = some (.int .i64 nT) := (b0.same bg).cell 2; have ng : w1.cell? ⟨w.heap.size, 3, none⟩ = some (.slice rb txn mM) := (b0.same bg).cell 3; have m8 : w1.cell? ⟨w.heap.size, 4, none⟩ = some (.slice qQ dyn nM) := (b0.same bg).cell 4; have oZ := h2 w1 (ep.trans bg))
    | (go_at_call 165; refine oZ.mono ?_; rintro e w2 ⟨rfl, eC⟩))
   go_ret
   exact ⟨rfl, (ep.trans bg).trans eC⟩
  | true =>
   simp only [Bool.and_self, if_true]
   go_enter Tryz.func163, Tryz.ntmps163
   go_wp2_with (first
    | (go_at_call 164; refine (h1 _ ep).mono ?_; rintro e w1 ⟨rfl, bg⟩; have m4 : w1.cell? ⟨w.heap.size, 2, none⟩ = some (.int .i64 nT) := (b0.same bg).cell 2; have ng : w1.cell? ⟨w.heap.size, 3, none⟩ = some (.slice rb txn mM) := (b0.same bg).cell 3; have m8 : w1.cell? ⟨w.heap.size, 4, none⟩ = some (.slice qQ dyn nM) := (b0.same bg).cell 4; have oZ := h2 w1 (ep.trans bg))
    | (go_at_call 165; refine oZ.mono ?_; rintro e w2 ⟨rfl, eC⟩))
   go_ret
   exact ⟨rfl, (ep.trans bg).trans eC⟩
theorem beginFault_any (w : World) : Calls Tryz.prog 161 #[.agg #[.int .i64 0, .int .i64 0]] w fun e w' => e = .returned (.int .i64 0) ∧ Same w w' := by
 go_enter Tryz.func161, Tryz.ntmps161
 go_wp2
 go_ret
 exact ⟨rfl, by first | exact Kept.refl _ _ | exact (Kept.refl _ _).alloc _⟩
end Go.Proofs.YtepdakgfioffgaaGreat
