import Derived.Test.YtdgmecmkkddpeaaGreatG09
namespace Go.Proofs.YtdgmecmkkddpeaaGreat
set_option linter.unusedVariables false
set_option linter.unusedSimpArgs false
set_option maxRecDepth 100000
set_option maxHeartbeats 16000000
open Go.RowKit
def emptyB (u : Bool) (n : Nat) : Bool := !u && decide (n = 0)
set_option maxRecDepth 100000 in
theorem l4Empty_any (u : Bool) (a : Option Addr) (n c : Nat) (w : World) (hn : n ≤ maxLen) : Calls Tryz.prog 51 #[.agg #[.bool u, .slice a n c]] w fun e w' => e = .returned (.bool (emptyB u n)) ∧ Same w w' := by
 unfold maxLen at hn
 unfold emptyB
 cases u with
 | true =>
  go_enter Tryz.func51, Tryz.ntmps51
  go_wp2
  go_ret
  exact ⟨by simp, (Kept.refl _ _).alloc _⟩
 | false =>
  by_cases h0 : n = 0
  ·subst h0
   go_enter Tryz.func51, Tryz.ntmps51
   go_wp2
   go_ret
   exact ⟨by simp, (Kept.refl _ _).alloc _⟩
  ·have h0' : ¬ (n : Int) = 0 := by omega
   go_enter Tryz.func51, Tryz.ntmps51
   go_wp2
   go_ret
   exact ⟨by simp [h0], (Kept.refl _ _).alloc _⟩
set_option maxRecDepth 100000 in
theorem l4Slot_any (u : Bool) (a : Option Addr) (n c : Nat) (w : World) (hn : n ≤ maxLen) : Calls Tryz.prog 38 #[.agg #[.bool u, .slice a n c]] w fun e w' => e = .returned (.bool (fitsB u n)) ∧ Same w w' := by
 unfold maxLen at hn
 unfold fitsB
 by_cases h : (n : Int) ≤ 1000
 ·have h1 : n ≤ 1000 := by omega
  cases u with
  | true =>
   go_enter Tryz.func38, Tryz.ntmps38
   go_wp2
   go_ret
   exact ⟨by simp [h1], (Kept.refl _ _).alloc _⟩
  | false =>
   by_cases h0 : n = 0
   ·subst h0
    go_enter Tryz.func38, Tryz.ntmps38
    go_wp2
    go_ret
    exact ⟨by simp, (Kept.refl _ _).alloc _⟩
   ·have h0' : ¬ (n : Int) = 0 := by omega
    go_enter Tryz.func38, Tryz.ntmps38
    go_wp2
    go_ret
    exact ⟨by simp [h0, h1], (Kept.refl _ _).alloc _⟩
 ·have h1 : ¬ n ≤ 1000 := by omega
  go_enter Tryz.func38, Tryz.ntmps38
  go_wp2
  go_ret
  exact ⟨by simp [h1], (Kept.refl _ _).alloc _⟩
def aheadTxns (bs : List Int) : Nat → Int
 | 0 => 0
 | k + 1 => bs.getD (k * 4) 0
def oneTxns (A t0 t1 t2 t3 : Int) : Bool := decide (A < t0) && isTxnB t0 && (decide (1 ≤ t1) && decide (t1 ≤ 3)) && (decide (1 ≤ t2) && decide (t2 ≤ 1099511627776)) && (decide (0 ≤ t3) && decide (t3 ≤ t2))
def atTxns (bs : List Int) (k : Nat) : Bool := oneTxns (aheadTxns bs k) (bs.getD (k * 4) 0) (bs.getD (k * 4 + 1) 0) (bs.getD (k * 4 + 2) 0) (bs.getD (k * 4 + 3) 0)
def allTxns (bs : List Int) (n : Nat) : Bool := decide (n ≤ 8) && (List.range n).all (atTxns bs)
theorem allTxns_no (bs : List Int) (n k : Nat) (hk : k < n) (h : atTxns bs k = false) : allTxns bs n = false := by
 unfold allTxns
 have : (List.range n).all (atTxns bs) = false := by
  rw [List.all_eq_false]
  exact ⟨k, List.mem_range.2 hk, by simp [h]⟩
 rw [this, Bool.and_false]
theorem allTxns_yes (bs : List Int) (n : Nat) (hn : n ≤ 8) (h : ∀ k < n, atTxns bs k = true) : allTxns bs n = true := by
 unfold allTxns
 rw [decide_eq_true hn, Bool.true_and, List.all_eq_true]
 exact fun k hk => h k (List.mem_range.1 hk)
theorem Txns_any (x : FR) (w : World) (hv : RdF 4 w x) : Calls Tryz.prog 137 #[x.v] w fun e w' => e = .returned (.bool (allTxns x.bs x.n)) ∧ Same w w' := by
 obtain ⟨hmax, hlen, hform⟩ := hv
 obtain ⟨xe, xa, len, xc, bs⟩ := x
 dsimp only [FR.v] at *
 unfold maxLen at hmax
 by_cases hbig : (8 : Int) < len
 ·have hR : allTxns bs len = false := by unfold allTxns; rw [decide_eq_false (by omega)]; rfl
  rw [hR]
  clear hR hform
  go_enter Tryz.func137, Tryz.ntmps137
  go_wp2
  go_ret
  exact ⟨rfl, Kept.refl _ _⟩
 by_cases h0 : len = 0
 ·subst h0
  have hR : allTxns bs 0 = true := rfl
  rw [hR]
  clear hform
  go_enter Tryz.func137, Tryz.ntmps137
  go_wp2
  refine wp_loop_rounds 1 ?_
  rw [rounds_succ]
  go_wp2
  go_ret
  exact ⟨rfl, Kept.refl _ _⟩
 ·obtain ⟨b, off, rfl, hle, hc⟩ := hform.resolve_left h0
  have HC := (show Hid (∀ i, i < len * 4 → w.cell? ⟨b, off + i, none⟩ = some (.int .i64 (bs.getD i 0))) from hc)
  have hl8 : len ≤ 8 := by omega
  have HNO := (show Hid (∀ k, k < len → atTxns bs k = false → allTxns bs len = false) from fun k hk h => allTxns_no bs len k hk h)
  have HYES := (show Hid ((∀ k, k < len → atTxns bs k = true) → allTxns bs len = true) from fun h => allTxns_yes bs len hl8 h)
  generalize allTxns bs len = ANS at *
  clear hc hform hlen
  go_enter Tryz.func137, Tryz.ntmps137
  go_wp2
  go_loopw [3, 5, 11] (fun a _ i wr => ∃ (k : Nat), k ≤ len ∧ i = .int .i64 k ∧ a = .int .i64 (aheadTxns bs k) ∧ Hid (∀ j, j < k → atTxns bs j = true) ∧ Hid (Same w wr)) (fun _ _ i _ => len - (intOf i).toNat)
  case atStart => exact ⟨0, Nat.zero_le _, rfl, rfl, fun j hj => absurd hj (by omega), Kept.refl _ _⟩
  case round =>
   obtain ⟨k, hk, rfl, rfl, HAL, HK⟩ := hrel
   by_cases hlt : k < len
   ·have q0 : wr.cell? ⟨b, off + k * 4, none⟩ = some (.int .i64 (bs.getD (k * 4) 0)) := by have h := HK.out.cellOf (HC.out (k * 4) (by omega)) id; simpa only [Nat.add_assoc] using h
    have q1 : wr.cell? ⟨b, off + k * 4 + 1, none⟩ = some (.int .i64 (bs.getD (k * 4 + 1) 0)) := by have h := HK.out.cellOf (HC.out (k * 4 + 1) (by omega)) id; simpa only [Nat.add_assoc] using h
    have q2 : wr.cell? ⟨b, off + k * 4 + 2, none⟩ = some (.int .i64 (bs.getD (k * 4 + 2) 0)) := by have h := HK.out.cellOf (HC.out (k * 4 + 2) (by omega)) id; simpa only [Nat.add_assoc] using h
    have q3 : wr.cell? ⟨b, off + k * 4 + 3, none⟩ = some (.int .i64 (bs.getD (k * 4 + 3) 0)) := by have h := HK.out.cellOf (HC.out (k * 4 + 3) (by omega)) id; simpa only [Nat.add_assoc] using h
    have HAT := (show Hid (atTxns bs k = oneTxns (aheadTxns bs k) (bs.getD (k * 4) 0) (bs.getD (k * 4 + 1) 0) (bs.getD (k * 4 + 2) 0) (bs.getD (k * 4 + 3) 0)) from rfl)
    have HAN := (show Hid (aheadTxns bs (k + 1) = bs.getD (k * 4) 0) from rfl)
    generalize aheadTxns bs k = A at *
    generalize bs.getD (k * 4) 0 = t0 at *
    generalize bs.getD (k * 4 + 1) 0 = t1 at *
    generalize bs.getD (k * 4 + 2) 0 = t2 at *
    generalize bs.getD (k * 4 + 3) 0 = t3 at *
    have hb := Blk.new wr #[.int .i64 t0, .int .i64 t1, .int .i64 t2, .int .i64 t3] 67
    have hcall := fun wx => isTxn_any t0 wx
    by_cases hc0 : t0 ≤ A
    ·have HF := (show Hid (ANS = false) from HNO.out k hlt (by rw [HAT.out]; unfold oneTxns; rw [decide_eq_false (show ¬ (A < t0) from by omega)]; simp only [Bool.false_and, Bool.and_false]))
     go_wp2
     go_ret
     exact ⟨by rw [HF.out]; rfl, HK.out.alloc _⟩
    by_cases hc1 : isTxnB t0 = false
    ·have HF := (show Hid (ANS = false) from HNO.out k hlt (by rw [HAT.out]; unfold oneTxns; rw [hc1]; simp only [Bool.false_and, Bool.and_false]))
     rw [hc1] at hcall
     go_wp2_with (go_at_call 121; refine (hcall _).mono ?_; rintro e wx ⟨rfl, hkx⟩; have e0 : wx.cell? ⟨wr.heap.size, 0, none⟩ = some (.int .i64 t0) := (hb.same hkx).cell 0; have e1 : wx.cell? ⟨wr.heap.size, 1, none⟩ = some (.int .i64 t1) := (hb.same hkx).cell 1; have e2 : wx.cell? ⟨wr.heap.size, 2, none⟩ = some (.int .i64 t2) := (hb.same hkx).cell 2; have e3 : wx.cell? ⟨wr.heap.size, 3, none⟩ = some (.int .i64 t3) := (hb.same hkx).cell 3)
     go_ret
     exact ⟨by rw [HF.out]; rfl, (HK.out.alloc _).trans hkx⟩
    have hy1 := eq_true_of_ne_false hc1
    by_cases hc2 : t1 < 1
    ·have HF := (show Hid (ANS = false) from HNO.out k hlt (by rw [HAT.out]; unfold oneTxns; rw [decide_eq_false (show ¬ (1 ≤ t1) from by omega)]; simp only [Bool.false_and, Bool.and_false]))
     rw [hy1] at hcall
     go_wp2_with (go_at_call 121; refine (hcall _).mono ?_; rintro e wx ⟨rfl, hkx⟩; have e0 : wx.cell? ⟨wr.heap.size, 0, none⟩ = some (.int .i64 t0) := (hb.same hkx).cell 0; have e1 : wx.cell? ⟨wr.heap.size, 1, none⟩ = some (.int .i64 t1) := (hb.same hkx).cell 1; have e2 : wx.cell? ⟨wr.heap.size, 2, none⟩ = some (.int .i64 t2) := (hb.same hkx).cell 2; have e3 : wx.cell? ⟨wr.heap.size, 3, none⟩ = some (.int .i64 t3) := (hb.same hkx).cell 3)
     go_ret
     exact ⟨by rw [HF.out]; rfl, (HK.out.alloc _).trans hkx⟩
    by_cases hc3 : 3 < t1
    ·have HF := (show Hid (ANS = false) from HNO.out k hlt (by rw [HAT.out]; unfold oneTxns; rw [decide_eq_false (show ¬ (t1 ≤ 3) from by omega)]; simp only [Bool.false_and, Bool.and_false]))
     rw [hy1] at hcall
     go_wp2_with (go_at_call 121; refine (hcall _).mono ?_; rintro e wx ⟨rfl, hkx⟩; have e0 : wx.cell? ⟨wr.heap.size, 0, none⟩ = some (.int .i64 t0) := (hb.same hkx).cell 0; have e1 : wx.cell? ⟨wr.heap.size, 1, none⟩ = some (.int .i64 t1) := (hb.same hkx).cell 1; have e2 : wx.cell? ⟨wr.heap.size, 2, none⟩ = some (.int .i64 t2) := (hb.same hkx).cell 2; have e3 : wx.cell? ⟨wr.heap.size, 3, none⟩ = some (.int .i64 t3) := (hb.same hkx).cell 3)
     go_ret
     exact ⟨by rw [HF.out]; rfl, (HK.out.alloc _).trans hkx⟩
    by_cases hc4 : t2 < 1
    ·have HF := (show Hid (ANS = false) from HNO.out k hlt (by rw [HAT.out]; unfold oneTxns; rw [decide_eq_false (show ¬ (1 ≤ t2) from by omega)]; simp only [Bool.false_and, Bool.and_false]))
     rw [hy1] at hcall
     go_wp2_with (go_at_call 121; refine (hcall _).mono ?_; rintro e wx ⟨rfl, hkx⟩; have e0 : wx.cell? ⟨wr.heap.size, 0, none⟩ = some (.int .i64 t0) := (hb.same hkx).cell 0; have e1 : wx.cell? ⟨wr.heap.size, 1, none⟩ = some (.int .i64 t1) := (hb.same hkx).cell 1; have e2 : wx.cell? ⟨wr.heap.size, 2, none⟩ = some (.int .i64 t2) := (hb.same hkx).cell 2; have e3 : wx.cell? ⟨wr.heap.size, 3, none⟩ = some (.int .i64 t3) := (hb.same hkx).cell 3)
     go_ret
     exact ⟨by rw [HF.out]; rfl, (HK.out.alloc _).trans hkx⟩
    by_cases hc5 : 1099511627776 < t2
    ·have HF := (show Hid (ANS = false) from HNO.out k hlt (by rw [HAT.out]; unfold oneTxns; rw [decide_eq_false (show ¬ (t2 ≤ 1099511627776) from by omega)]; simp only [Bool.false_and, Bool.and_false]))
     rw [hy1] at hcall
     go_wp2_with (go_at_call 121; refine (hcall _).mono ?_; rintro e wx ⟨rfl, hkx⟩; have e0 : wx.cell? ⟨wr.heap.size, 0, none⟩ = some (.int .i64 t0) := (hb.same hkx).cell 0; have e1 : wx.cell? ⟨wr.heap.size, 1, none⟩ = some (.int .i64 t1) := (hb.same hkx).cell 1; have e2 : wx.cell? ⟨wr.heap.size, 2, none⟩ = some (.int .i64 t2) := (hb.same hkx).cell 2; have e3 : wx.cell? ⟨wr.heap.size, 3, none⟩ = some (.int .i64 t3) := (hb.same hkx).cell 3)
     go_ret
     exact ⟨by rw [HF.out]; rfl, (HK.out.alloc _).trans hkx⟩
    by_cases hc6 : t3 < 0
    ·have HF := (show Hid (ANS = false) from HNO.out k hlt (by rw [HAT.out]; unfold oneTxns; rw [decide_eq_false (show ¬ (0 ≤ t3) from by omega)]; simp only [Bool.false_and, Bool.and_false]))
     rw [hy1] at hcall
     go_wp2_with (go_at_call 121; refine (hcall _).mono ?_; rintro e wx ⟨rfl, hkx⟩; have e0 : wx.cell? ⟨wr.heap.size, 0, none⟩ = some (.int .i64 t0) := (hb.same hkx).cell 0; have e1 : wx.cell? ⟨wr.heap.size, 1, none⟩ = some (.int .i64 t1) := (hb.same hkx).cell 1; have e2 : wx.cell? ⟨wr.heap.size, 2, none⟩ = some (.int .i64 t2) := (hb.same hkx).cell 2; have e3 : wx.cell? ⟨wr.heap.size, 3, none⟩ = some (.int .i64 t3) := (hb.same hkx).cell 3)
     go_ret
     exact ⟨by rw [HF.out]; rfl, (HK.out.alloc _).trans hkx⟩
    by_cases hc7 : t2 < t3
    ·have HF := (show Hid (ANS = false) from HNO.out k hlt (by rw [HAT.out]; unfold oneTxns; rw [decide_eq_false (show ¬ (t3 ≤ t2) from by omega)]; simp only [Bool.false_and, Bool.and_false]))
     rw [hy1] at hcall
     go_wp2_with (go_at_call 121; refine (hcall _).mono ?_; rintro e wx ⟨rfl, hkx⟩; have e0 : wx.cell? ⟨wr.heap.size, 0, none⟩ = some (.int .i64 t0) := (hb.same hkx).cell 0; have e1 : wx.cell? ⟨wr.heap.size, 1, none⟩ = some (.int .i64 t1) := (hb.same hkx).cell 1; have e2 : wx.cell? ⟨wr.heap.size, 2, none⟩ = some (.int .i64 t2) := (hb.same hkx).cell 2; have e3 : wx.cell? ⟨wr.heap.size, 3, none⟩ = some (.int .i64 t3) := (hb.same hkx).cell 3)
     go_ret
     exact ⟨by rw [HF.out]; rfl, (HK.out.alloc _).trans hkx⟩
    rw [hy1] at hcall
    have HOK := (show Hid (atTxns bs k = true) from by rw [HAT.out]; unfold oneTxns; simp only [hy1, decide_eq_true (show A < t0 from by omega), decide_eq_true (show 1 ≤ t1 from by omega), decide_eq_true (show t1 ≤ 3 from by omega), decide_eq_true (show 1 ≤ t2 from by omega), decide_eq_true (show t2 ≤ 1099511627776 from by omega), decide_eq_true (show 0 ≤ t3 from by omega), decide_eq_true (show t3 ≤ t2 from by omega), Bool.and_true, Bool.and_self]; exact trivial)
    go_wp2_with (go_at_call 121; refine (hcall _).mono ?_; rintro e wx ⟨rfl, hkx⟩; have e0 : wx.cell? ⟨wr.heap.size, 0, none⟩ = some (.int .i64 t0) := (hb.same hkx).cell 0; have e1 : wx.cell? ⟨wr.heap.size, 1, none⟩ = some (.int .i64 t1) := (hb.same hkx).cell 1; have e2 : wx.cell? ⟨wr.heap.size, 2, none⟩ = some (.int .i64 t2) := (hb.same hkx).cell 2; have e3 : wx.cell? ⟨wr.heap.size, 3, none⟩ = some (.int .i64 t3) := (hb.same hkx).cell 3)
    go_roundw
    case rel => exact ⟨k + 1, by omega, by go_num, by rw [HAN.out], fun j hj => (Nat.lt_succ_iff_lt_or_eq.1 hj).elim (HAL.out j) (fun e => e ▸ HOK.out), (HK.out.alloc _).trans hkx⟩
    case measure => simp [intOf]; omega
   ·obtain rfl : k = len := by omega
    go_wp2
    go_ret
    exact ⟨by rw [HYES.out HAL.out]; rfl, HK.out⟩
def aheadDirty (bs : List Int) : Nat → Int
 | 0 => -1
 | k + 1 => bs.getD (k * 2) 0
def oneDirty (A t0 t1 : Int) : Bool := decide (A < t0) && isPageB t0 && (decide (1 ≤ t1) && decide (t1 ≤ 1099511627776))
def atDirty (bs : List Int) (k : Nat) : Bool := oneDirty (aheadDirty bs k) (bs.getD (k * 2) 0) (bs.getD (k * 2 + 1) 0)
def allDirty (bs : List Int) (n : Nat) : Bool := decide (n ≤ 16) && (List.range n).all (atDirty bs)
theorem allDirty_no (bs : List Int) (n k : Nat) (hk : k < n) (h : atDirty bs k = false) : allDirty bs n = false := by
 unfold allDirty
 have : (List.range n).all (atDirty bs) = false := by
  rw [List.all_eq_false]
  exact ⟨k, List.mem_range.2 hk, by simp [h]⟩
 rw [this, Bool.and_false]
theorem allDirty_yes (bs : List Int) (n : Nat) (hn : n ≤ 16) (h : ∀ k < n, atDirty bs k = true) : allDirty bs n = true := by
 unfold allDirty
 rw [decide_eq_true hn, Bool.true_and, List.all_eq_true]
 exact fun k hk => h k (List.mem_range.1 hk)
theorem Dirty_any (x : FR) (w : World) (hv : RdF 2 w x) : Calls Tryz.prog 138 #[x.v] w fun e w' => e = .returned (.bool (allDirty x.bs x.n)) ∧ Same w w' := by
 obtain ⟨hmax, hlen, hform⟩ := hv
 obtain ⟨xe, xa, len, xc, bs⟩ := x
 dsimp only [FR.v] at *
 unfold maxLen at hmax
 by_cases hbig : (16 : Int) < len
 ·have hR : allDirty bs len = false := by unfold allDirty; rw [decide_eq_false (by omega)]; rfl
  rw [hR]
  clear hR hform
  go_enter Tryz.func138, Tryz.ntmps138
  go_wp2
  go_ret
  exact ⟨rfl, Kept.refl _ _⟩
 by_cases h0 : len = 0
 ·subst h0
  have hR : allDirty bs 0 = true := rfl
  rw [hR]
  clear hform
  go_enter Tryz.func138, Tryz.ntmps138
  go_wp2
  refine wp_loop_rounds 1 ?_
  rw [rounds_succ]
  go_wp2
  go_ret
  exact ⟨rfl, Kept.refl _ _⟩
 ·obtain ⟨b, off, rfl, hle, hc⟩ := hform.resolve_left h0
  have HC := (show Hid (∀ i, i < len * 2 → w.cell? ⟨b, off + i, none⟩ = some (.int .i64 (bs.getD i 0))) from hc)
  have hl8 : len ≤ 16 := by omega
  have HNO := (show Hid (∀ k, k < len → atDirty bs k = false → allDirty bs len = false) from fun k hk h => allDirty_no bs len k hk h)
  have HYES := (show Hid ((∀ k, k < len → atDirty bs k = true) → allDirty bs len = true) from fun h => allDirty_yes bs len hl8 h)
  generalize allDirty bs len = ANS at *
  clear hc hform hlen
  go_enter Tryz.func138, Tryz.ntmps138
  go_wp2
  go_loopw [3, 5, 11] (fun a _ i wr => ∃ (k : Nat), k ≤ len ∧ i = .int .i64 k ∧ a = .int .i64 (aheadDirty bs k) ∧ Hid (∀ j, j < k → atDirty bs j = true) ∧ Hid (Same w wr)) (fun _ _ i _ => len - (intOf i).toNat)
  case atStart => exact ⟨0, Nat.zero_le _, rfl, rfl, fun j hj => absurd hj (by omega), Kept.refl _ _⟩
  case round =>
   obtain ⟨k, hk, rfl, rfl, HAL, HK⟩ := hrel
   by_cases hlt : k < len
   ·have q0 : wr.cell? ⟨b, off + k * 2, none⟩ = some (.int .i64 (bs.getD (k * 2) 0)) := by have h := HK.out.cellOf (HC.out (k * 2) (by omega)) id; simpa only [Nat.add_assoc] using h
    have q1 : wr.cell? ⟨b, off + k * 2 + 1, none⟩ = some (.int .i64 (bs.getD (k * 2 + 1) 0)) := by have h := HK.out.cellOf (HC.out (k * 2 + 1) (by omega)) id; simpa only [Nat.add_assoc] using h
    have HAT := (show Hid (atDirty bs k = oneDirty (aheadDirty bs k) (bs.getD (k * 2) 0) (bs.getD (k * 2 + 1) 0)) from rfl)
    have HAN := (show Hid (aheadDirty bs (k + 1) = bs.getD (k * 2) 0) from rfl)
    generalize aheadDirty bs k = A at *
    generalize bs.getD (k * 2) 0 = t0 at *
    generalize bs.getD (k * 2 + 1) 0 = t1 at *
    have hb := Blk.new wr #[.int .i64 t0, .int .i64 t1] 69
    have hcall := fun wx => isPage_any t0 wx
    by_cases hc0 : t0 ≤ A
    ·have HF := (show Hid (ANS = false) from HNO.out k hlt (by rw [HAT.out]; unfold oneDirty; rw [decide_eq_false (show ¬ (A < t0) from by omega)]; simp only [Bool.false_and, Bool.and_false]))
     go_wp2
     go_ret
     exact ⟨by rw [HF.out]; rfl, HK.out.alloc _⟩
    by_cases hc1 : isPageB t0 = false
    ·have HF := (show Hid (ANS = false) from HNO.out k hlt (by rw [HAT.out]; unfold oneDirty; rw [hc1]; simp only [Bool.false_and, Bool.and_false]))
     rw [hc1] at hcall
     go_wp2_with (go_at_call 124; refine (hcall _).mono ?_; rintro e wx ⟨rfl, hkx⟩; have e0 : wx.cell? ⟨wr.heap.size, 0, none⟩ = some (.int .i64 t0) := (hb.same hkx).cell 0; have e1 : wx.cell? ⟨wr.heap.size, 1, none⟩ = some (.int .i64 t1) := (hb.same hkx).cell 1)
     go_ret
     exact ⟨by rw [HF.out]; rfl, (HK.out.alloc _).trans hkx⟩
    have hy1 := eq_true_of_ne_false hc1
    by_cases hc2 : t1 < 1
    ·have HF := (show Hid (ANS = false) from HNO.out k hlt (by rw [HAT.out]; unfold oneDirty; rw [decide_eq_false (show ¬ (1 ≤ t1) from by omega)]; simp only [Bool.false_and, Bool.and_false]))
     rw [hy1] at hcall
     go_wp2_with (go_at_call 124; refine (hcall _).mono ?_; rintro e wx ⟨rfl, hkx⟩; have e0 : wx.cell? ⟨wr.heap.size, 0, none⟩ = some (.int .i64 t0) := (hb.same hkx).cell 0; have e1 : wx.cell? ⟨wr.heap.size, 1, none⟩ = some (.int .i64 t1) := (hb.same hkx).cell 1)
     go_ret
     exact ⟨by rw [HF.out]; rfl, (HK.out.alloc _).trans hkx⟩
    by_cases hc3 : 1099511627776 < t1
    ·have HF := (show Hid (ANS = false) from HNO.out k hlt (by rw [HAT.out]; unfold oneDirty; rw [decide_eq_false (show ¬ (t1 ≤ 1099511627776) from by omega)]; simp only [Bool.false_and, Bool.and_false]))
     rw [hy1] at hcall
     go_wp2_with (go_at_call 124; refine (hcall _).mono ?_; rintro e wx ⟨rfl, hkx⟩; have e0 : wx.cell? ⟨wr.heap.size, 0, none⟩ = some (.int .i64 t0) := (hb.same hkx).cell 0; have e1 : wx.cell? ⟨wr.heap.size, 1, none⟩ = some (.int .i64 t1) := (hb.same hkx).cell 1)
     go_ret
     exact ⟨by rw [HF.out]; rfl, (HK.out.alloc _).trans hkx⟩
    rw [hy1] at hcall
    have HOK := (show Hid (atDirty bs k = true) from by rw [HAT.out]; unfold oneDirty; simp only [hy1, decide_eq_true (show A < t0 from by omega), decide_eq_true (show 1 ≤ t1 from by omega), decide_eq_true (show t1 ≤ 1099511627776 from by omega), Bool.and_true, Bool.and_self]; exact trivial)
    go_wp2_with (go_at_call 124; refine (hcall _).mono ?_; rintro e wx ⟨rfl, hkx⟩; have e0 : wx.cell? ⟨wr.heap.size, 0, none⟩ = some (.int .i64 t0) := (hb.same hkx).cell 0; have e1 : wx.cell? ⟨wr.heap.size, 1, none⟩ = some (.int .i64 t1) := (hb.same hkx).cell 1)
    go_roundw
    case rel => exact ⟨k + 1, by omega, by go_num, by rw [HAN.out], fun j hj => (Nat.lt_succ_iff_lt_or_eq.1 hj).elim (HAL.out j) (fun e => e ▸ HOK.out), (HK.out.alloc _).trans hkx⟩
    case measure => simp [intOf]; omega
   ·obtain rfl : k = len := by omega
    go_wp2
    go_ret
    exact ⟨by rw [HYES.out HAL.out]; rfl, HK.out⟩
end Go.Proofs.YtdgmecmkkddpeaaGreat
