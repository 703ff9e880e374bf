import Derived.Test.YtaojjcnmififoaaGreatG12
namespace Go.Proofs.YtaojjcnmififoaaGreat
set_option maxRecDepth 100000
set_option maxHeartbeats 16000000
set_option linter.unusedVariables false
set_option linter.unusedSimpArgs false
open Go.RowKit
def TJ (bs : List Int) : Nat → Int
 | 0 => 0
 | k + 1 => bs.getD (k * 4) 0
def R7 (A t0 t1 t2 t3 : Int) : Bool := decide (A < t0) && Tq t0 && (decide (1 ≤ t1) && decide (t1 ≤ 3)) && (decide (1 ≤ t2) && decide (t2 ≤ 1099511627776)) && (decide (0 ≤ t3) && decide (t3 ≤ t2))
def Sq (bs : List Int) (k : Nat) : Bool := R7 (TJ bs k) (bs.getD (k * 4) 0) (bs.getD (k * 4 + 1) 0) (bs.getD (k * 4 + 2) 0) (bs.getD (k * 4 + 3) 0)
def RL (bs : List Int) (n : Nat) : Bool := decide (n ≤ 8) && (List.range n).all (Sq bs)
theorem YM (bs : List Int) (n k : Nat) (hk : k < n) (h : Sq bs k = false) : RL bs n = false := by
 unfold RL
 have : (List.range n).all (Sq bs) = false := by
  rw [List.all_eq_false]
  exact ⟨k, List.mem_range.2 hk, by simp [h]⟩
 rw [this, Bool.and_false]
theorem XM (bs : List Int) (n : Nat) (hn : n ≤ 8) (h : ∀ k < n, Sq bs k = true) : RL bs n = true := by
 unfold RL
 rw [decide_eq_true hn, Bool.true_and, List.all_eq_true]
 exact fun k hk => h k (List.mem_range.1 hk)
theorem jd5 (x : FR) (w : World) (hv : RdF 4 w x) : Calls Tryz.prog 173 #[x.v] w fun e w' => e = .returned (.bool (RL x.bs x.n)) ∧ Same w w' := by
 obtain ⟨m9, dR, fO⟩ := hv
 obtain ⟨xe, xa, len, xc, bs⟩ := x
 dsimp only [FR.v] at *
 unfold maxLen at m9
 by_cases hbig : (8 : Int) < len
 ·have hR : RL bs len = false := by unfold RL; rw [decide_eq_false (by omega)]; rfl
  rw [hR]
  clear hR fO
  go_enter Tryz.func173, Tryz.ntmps173
  go_wp2
  go_ret
  exact ⟨rfl, kZ0⟩
 by_cases h0 : len = 0
 ·subst h0
  have hR : RL bs 0 = true := rfl
  rw [hR]
  clear fO
  go_enter Tryz.func173, Tryz.ntmps173
  go_wp2
  refine wp_loop_rounds 1 ?_
  rw [rounds_succ]
  go_wp2
  go_ret
  exact ⟨rfl, kZ0⟩
 ·obtain ⟨b, off, rfl, kx, hc⟩ := fO.resolve_left h0
  have HC := (show Hid (∀ i, i < len * 4 → w.cell? ⟨b, off + i, none⟩ = some (.int .i64 (bs.getD i 0))) from hc)
  have C2 : len ≤ 8 := by omega
  have jg := (show Hid (∀ k, k < len → Sq bs k = false → RL bs len = false) from fun k hk h => YM bs len k hk h)
  have oq := (show Hid ((∀ k, k < len → Sq bs k = true) → RL bs len = true) from fun h => XM bs len C2 h)
  generalize RL bs len = mx at *
  clear hc fO dR
  go_enter Tryz.func173, Tryz.ntmps173
  go_wp2
  go_loopw [3, 5, 11] (fun a _ i wr => ∃ (k : Nat), k ≤ len ∧ i = .int .i64 k ∧ a = .int .i64 (TJ bs k) ∧ Hid (∀ j, j < k → Sq bs j = true) ∧ Hid (Same w wr)) (fun _ _ i _ => len - (intOf i).toNat)
  case atStart => exact ⟨0, Nat.zero_le _, rfl, rfl, fun j hj => absurd hj (by omega), kZ0⟩
  case round =>
   obtain ⟨k, hk, rfl, rfl, mD, HK⟩ := hrel
   by_cases bH : k < len
   ·have q0 : wr.cell? ⟨b, off + k * 4, none⟩ = some (.int .i64 (bs.getD (k * 4) 0)) := by have h := HK.out.cellOf (HC.out (k * 4) (by omega)) id; simpa only [Nat.add_assoc] using h
    have q1 : wr.cell? ⟨b, off + k * 4 + 1, none⟩ = some (.int .i64 (bs.getD (k * 4 + 1) 0)) := by have h := HK.out.cellOf (HC.out (k * 4 + 1) (by omega)) id; simpa only [Nat.add_assoc] using h
    have q2 : wr.cell? ⟨b, off + k * 4 + 2, none⟩ = some (.int .i64 (bs.getD (k * 4 + 2) 0)) := by have h := HK.out.cellOf (HC.out (k * 4 + 2) (by omega)) id; simpa only [Nat.add_assoc] using h
    have q3 : wr.cell? ⟨b, off + k * 4 + 3, none⟩ = some (.int .i64 (bs.getD (k * 4 + 3) 0)) := by have h := HK.out.cellOf (HC.out (k * 4 + 3) (by omega)) id; simpa only [Nat.add_assoc] using h
    have fA := (show Hid (Sq bs k = R7 (TJ bs k) (bs.getD (k * 4) 0) (bs.getD (k * 4 + 1) 0) (bs.getD (k * 4 + 2) 0) (bs.getD (k * 4 + 3) 0)) from rfl)
    have xp := (show Hid (TJ bs (k + 1) = bs.getD (k * 4) 0) from rfl)
    generalize TJ bs k = A at *
    generalize bs.getD (k * 4) 0 = t0 at *
    generalize bs.getD (k * 4 + 1) 0 = t1 at *
    generalize bs.getD (k * 4 + 2) 0 = t2 at *
    generalize bs.getD (k * 4 + 3) 0 = t3 at *
    have hb := Blk.new wr #[.int .i64 t0, .int .i64 t1, .int .i64 t2, .int .i64 t3] 96
    have dP := fun wx => ZB t0 wx
    by_cases kr : t0 ≤ A
    ·have HF := (show Hid (mx = false) from jg.out k bH (by rw [fA.out]; unfold R7; rw [decide_eq_false (show ¬ (A < t0) from by omega)]; simp only [Bool.false_and, Bool.and_false]))
     go_wp2
     go_ret
     exact ⟨by rw [HF.out]; rfl, HK.out.alloc _⟩
    by_cases ku : Tq t0 = false
    ·have HF := (show Hid (mx = false) from jg.out k bH (by rw [fA.out]; unfold R7; rw [ku]; simp only [Bool.false_and, Bool.and_false]))
     rw [ku] at dP
     go_wp2_with (go_at_call 157; refine (dP _).mono ?_; rintro e wx ⟨rfl, dG⟩; have e0 : wx.cell? ⟨wr.heap.size, 0, none⟩ = some (.int .i64 t0) := (hb.same dG).cell 0; have e1 : wx.cell? ⟨wr.heap.size, 1, none⟩ = some (.int .i64 t1) := (hb.same dG).cell 1; have e2 : wx.cell? ⟨wr.heap.size, 2, none⟩ = some (.int .i64 t2) := (hb.same dG).cell 2; have e3 : wx.cell? ⟨wr.heap.size, 3, none⟩ = some (.int .i64 t3) := (hb.same dG).cell 3)
     go_ret
     exact ⟨by rw [HF.out]; rfl, (HK.out.alloc _).trans dG⟩
    have gZ := eq_true_of_ne_false ku
    by_cases sj : t1 < 1
    ·have HF := (show Hid (mx = false) from jg.out k bH (by rw [fA.out]; unfold R7; rw [decide_eq_false (show ¬ (1 ≤ t1) from by omega)]; simp only [Bool.false_and, Bool.and_false]))
     rw [gZ] at dP
     go_wp2_with (go_at_call 157; refine (dP _).mono ?_; rintro e wx ⟨rfl, dG⟩; have e0 : wx.cell? ⟨wr.heap.size, 0, none⟩ = some (.int .i64 t0) := (hb.same dG).cell 0; have e1 : wx.cell? ⟨wr.heap.size, 1, none⟩ = some (.int .i64 t1) := (hb.same dG).cell 1; have e2 : wx.cell? ⟨wr.heap.size, 2, none⟩ = some (.int .i64 t2) := (hb.same dG).cell 2; have e3 : wx.cell? ⟨wr.heap.size, 3, none⟩ = some (.int .i64 t3) := (hb.same dG).cell 3)
     go_ret
     exact ⟨by rw [HF.out]; rfl, (HK.out.alloc _).trans dG⟩
    by_cases JF : 3 < t1
    ·have HF := (show Hid (mx = false) from jg.out k bH (by rw [fA.out]; unfold R7; rw [decide_eq_false (show ¬ (t1 ≤ 3) from by omega)]; simp only [Bool.false_and, Bool.and_false]))
     rw [gZ] at dP
     go_wp2_with (go_at_call 157; refine (dP _).mono ?_; rintro e wx ⟨rfl, dG⟩; have e0 : wx.cell? ⟨wr.heap.size, 0, none⟩ = some (.int .i64 t0) := (hb.same dG).cell 0; have e1 : wx.cell? ⟨wr.heap.size, 1, none⟩ = some (.int .i64 t1) := (hb.same dG).cell 1; have e2 : wx.cell? ⟨wr.heap.size, 2, none⟩ = some (.int .i64 t2) := (hb.same dG).cell 2; have e3 : wx.cell? ⟨wr.heap.size, 3, none⟩ = some (.int .i64 t3) := (hb.same dG).cell 3)
     go_ret
     exact ⟨by rw [HF.out]; rfl, (HK.out.alloc _).trans dG⟩
    by_cases NN : t2 < 1
    ·have HF := (show Hid (mx = false) from jg.out k bH (by rw [fA.out]; unfold R7; rw [decide_eq_false (show ¬ (1 ≤ t2) from by omega)]; simp only [Bool.false_and, Bool.and_false]))
     rw [gZ] at dP
     go_wp2_with (go_at_call 157; refine (dP _).mono ?_; rintro e wx ⟨rfl, dG⟩; have e0 : wx.cell? ⟨wr.heap.size, 0, none⟩ = some (.int .i64 t0) := (hb.same dG).cell 0; have e1 : wx.cell? ⟨wr.heap.size, 1, none⟩ = some (.int .i64 t1) := (hb.same dG).cell 1; have e2 : wx.cell? ⟨wr.heap.size, 2, none⟩ = some (.int .i64 t2) := (hb.same dG).cell 2; have e3 : wx.cell? ⟨wr.heap.size, 3, none⟩ = some (.int .i64 t3) := (hb.same dG).cell 3)
     go_ret
     exact ⟨by rw [HF.out]; rfl, (HK.out.alloc _).trans dG⟩
    by_cases Lg : 1099511627776 < t2
    ·have HF := (show Hid (mx = false) from jg.out k bH (by rw [fA.out]; unfold R7; rw [decide_eq_false (show ¬ (t2 ≤ 1099511627776) from by omega)]; simp only [Bool.false_and, Bool.and_false]))
     rw [gZ] at dP
     go_wp2_with (go_at_call 157; refine (dP _).mono ?_; rintro e wx ⟨rfl, dG⟩; have e0 : wx.cell? ⟨wr.heap.size, 0, none⟩ = some (.int .i64 t0) := (hb.same dG).cell 0; have e1 : wx.cell? ⟨wr.heap.size, 1, none⟩ = some (.int .i64 t1) := (hb.same dG).cell 1; have e2 : wx.cell? ⟨wr.heap.size, 2, none⟩ = some (.int .i64 t2) := (hb.same dG).cell 2; have e3 : wx.cell? ⟨wr.heap.size, 3, none⟩ = some (.int .i64 t3) := (hb.same dG).cell 3)
     go_ret
     exact ⟨by rw [HF.out]; rfl, (HK.out.alloc _).trans dG⟩
    by_cases Ci : t3 < 0
    ·have HF := (show Hid (mx = false) from jg.out k bH (by rw [fA.out]; unfold R7; rw [decide_eq_false (show ¬ (0 ≤ t3) from by omega)]; simp only [Bool.false_and, Bool.and_false]))
     rw [gZ] at dP
     go_wp2_with (go_at_call 157; refine (dP _).mono ?_; rintro e wx ⟨rfl, dG⟩; have e0 : wx.cell? ⟨wr.heap.size, 0, none⟩ = some (.int .i64 t0) := (hb.same dG).cell 0; have e1 : wx.cell? ⟨wr.heap.size, 1, none⟩ = some (.int .i64 t1) := (hb.same dG).cell 1; have e2 : wx.cell? ⟨wr.heap.size, 2, none⟩ = some (.int .i64 t2) := (hb.same dG).cell 2; have e3 : wx.cell? ⟨wr.heap.size, 3, none⟩ = some (.int .i64 t3) := (hb.same dG).cell 3)
     go_ret
     exact ⟨by rw [HF.out]; rfl, (HK.out.alloc _).trans dG⟩
    by_cases hc7 : t2 < t3
    ·have HF := (show Hid (mx = false) from jg.out k bH (by rw [fA.out]; unfold R7; rw [decide_eq_false (show ¬ (t3 ≤ t2) from by omega)]; simp only [Bool.false_and, Bool.and_false]))
     rw [gZ] at dP
     go_wp2_with (go_at_call 157; refine (dP _).mono ?_; rintro e wx ⟨rfl, dG⟩; have e0 : wx.cell? ⟨wr.heap.size, 0, none⟩ = some (.int .i64 t0) := (hb.same dG).cell 0; have e1 : wx.cell? ⟨wr.heap.size, 1, none⟩ = some (.int .i64 t1) := (hb.same dG).cell 1; have e2 : wx.cell? ⟨wr.heap.size, 2, none⟩ = some (.int .i64 t2) := (hb.same dG).cell 2; have e3 : wx.cell? ⟨wr.heap.size, 3, none⟩ = some (.int .i64 t3) := (hb.same dG).cell 3)
     go_ret
     exact ⟨by rw [HF.out]; rfl, (HK.out.alloc _).trans dG⟩
    rw [gZ] at dP
    have gw := (show Hid (Sq bs k = true) from by rw [fA.out]; unfold R7; simp only [gZ, decide_eq_true (show A < t0 from by omega), decide_eq_true (show 1 ≤ t1 from by omega), decide_eq_true (show t1 ≤ 3 from by omega), decide_eq_true (show 1 ≤ t2 from by omega), decide_eq_true (show t2 ≤ 1099511627776 from by omega), decide_eq_true (show 0 ≤ t3 from by omega), decide_eq_true (show t3 ≤ t2 from by omega), Bool.and_true, Bool.and_self]; exact trivial)
    go_wp2_with (go_at_call 157; refine (dP _).mono ?_; rintro e wx ⟨rfl, dG⟩; have e0 : wx.cell? ⟨wr.heap.size, 0, none⟩ = some (.int .i64 t0) := (hb.same dG).cell 0; have e1 : wx.cell? ⟨wr.heap.size, 1, none⟩ = some (.int .i64 t1) := (hb.same dG).cell 1; have e2 : wx.cell? ⟨wr.heap.size, 2, none⟩ = some (.int .i64 t2) := (hb.same dG).cell 2; have e3 : wx.cell? ⟨wr.heap.size, 3, none⟩ = some (.int .i64 t3) := (hb.same dG).cell 3)
    go_roundw
    case rel => exact ⟨k + 1, by omega, by go_num, by rw [xp.out], fun j hj => (Nat.lt_succ_iff_lt_or_eq.1 hj).elim (mD.out j) (fun e => e ▸ gw.out), (HK.out.alloc _).trans dG⟩
    case measure => simp [intOf]; omega
   ·obtain rfl : k = len := by omega
    go_wp2
    go_ret
    exact ⟨by rw [oq.out mD.out]; rfl, HK.out⟩
def Tp (bs : List Int) : Nat → Int
 | 0 => -1
 | k + 1 => bs.getD (k * 2) 0
def Sy (A t0 t1 : Int) : Bool := decide (A < t0) && SN t0 && (decide (1 ≤ t1) && decide (t1 ≤ 1099511627776))
def Sj (bs : List Int) (k : Nat) : Bool := Sy (Tp bs k) (bs.getD (k * 2) 0) (bs.getD (k * 2 + 1) 0)
def RA (bs : List Int) (n : Nat) : Bool := decide (n ≤ 16) && (List.range n).all (Sj bs)
theorem XO (bs : List Int) (n k : Nat) (hk : k < n) (h : Sj bs k = false) : RA bs n = false := by
 unfold RA
 have : (List.range n).all (Sj bs) = false := by
  rw [List.all_eq_false]
  exact ⟨k, List.mem_range.2 hk, by simp [h]⟩
 rw [this, Bool.and_false]
theorem Xa (bs : List Int) (n : Nat) (hn : n ≤ 16) (h : ∀ k < n, Sj bs k = true) : RA bs n = true := by
 unfold RA
 rw [decide_eq_true hn, Bool.true_and, List.all_eq_true]
 exact fun k hk => h k (List.mem_range.1 hk)
theorem jdb (x : FR) (w : World) (hv : RdF 2 w x) : Calls Tryz.prog 174 #[x.v] w fun e w' => e = .returned (.bool (RA x.bs x.n)) ∧ Same w w' := by
 obtain ⟨m9, dR, fO⟩ := hv
 obtain ⟨xe, xa, len, xc, bs⟩ := x
 dsimp only [FR.v] at *
 unfold maxLen at m9
 by_cases hbig : (16 : Int) < len
 ·have hR : RA bs len = false := by unfold RA; rw [decide_eq_false (by omega)]; rfl
  rw [hR]
  clear hR fO
  go_enter Tryz.func174, Tryz.ntmps174
  go_wp2
  go_ret
  exact ⟨rfl, kZ0⟩
 by_cases h0 : len = 0
 ·subst h0
  have hR : RA bs 0 = true := rfl
  rw [hR]
  clear fO
  go_enter Tryz.func174, Tryz.ntmps174
  go_wp2
  refine wp_loop_rounds 1 ?_
  rw [rounds_succ]
  go_wp2
  go_ret
  exact ⟨rfl, kZ0⟩
 ·obtain ⟨b, off, rfl, kx, hc⟩ := fO.resolve_left h0
  have HC := (show Hid (∀ i, i < len * 2 → w.cell? ⟨b, off + i, none⟩ = some (.int .i64 (bs.getD i 0))) from hc)
  have C2 : len ≤ 16 := by omega
  have jg := (show Hid (∀ k, k < len → Sj bs k = false → RA bs len = false) from fun k hk h => XO bs len k hk h)
  have oq := (show Hid ((∀ k, k < len → Sj bs k = true) → RA bs len = true) from fun h => Xa bs len C2 h)
  generalize RA bs len = mx at *
  clear hc fO dR
  go_enter Tryz.func174, Tryz.ntmps174
  go_wp2
  go_loopw [3, 5, 11] (fun a _ i wr => ∃ (k : Nat), k ≤ len ∧ i = .int .i64 k ∧ a = .int .i64 (Tp bs k) ∧ Hid (∀ j, j < k → Sj bs j = true) ∧ Hid (Same w wr)) (fun _ _ i _ => len - (intOf i).toNat)
  case atStart => exact ⟨0, Nat.zero_le _, rfl, rfl, fun j hj => absurd hj (by omega), kZ0⟩
  case round =>
   obtain ⟨k, hk, rfl, rfl, mD, HK⟩ := hrel
   by_cases bH : k < len
   ·have q0 : wr.cell? ⟨b, off + k * 2, none⟩ = some (.int .i64 (bs.getD (k * 2) 0)) := by have h := HK.out.cellOf (HC.out (k * 2) (by omega)) id; simpa only [Nat.add_assoc] using h
    have q1 : wr.cell? ⟨b, off + k * 2 + 1, none⟩ = some (.int .i64 (bs.getD (k * 2 + 1) 0)) := by have h := HK.out.cellOf (HC.out (k * 2 + 1) (by omega)) id; simpa only [Nat.add_assoc] using h
    have fA := (show Hid (Sj bs k = Sy (Tp bs k) (bs.getD (k * 2) 0) (bs.getD (k * 2 + 1) 0)) from rfl)
    have xp := (show Hid (Tp bs (k + 1) = bs.getD (k * 2) 0) from rfl)
    generalize Tp bs k = A at *
    generalize bs.getD (k * 2) 0 = t0 at *
    generalize bs.getD (k * 2 + 1) 0 = t1 at *
    have hb := Blk.new wr #[.int .i64 t0, .int .i64 t1] 98
    have dP := fun wx => Wm t0 wx
    by_cases kr : t0 ≤ A
    ·have HF := (show Hid (mx = false) from jg.out k bH (by rw [fA.out]; unfold Sy; rw [decide_eq_false (show ¬ (A < t0) from by omega)]; simp only [Bool.false_and, Bool.and_false]))
     go_wp2
     go_ret
     exact ⟨by rw [HF.out]; rfl, HK.out.alloc _⟩
    by_cases ku : SN t0 = false
    ·have HF := (show Hid (mx = false) from jg.out k bH (by rw [fA.out]; unfold Sy; rw [ku]; simp only [Bool.false_and, Bool.and_false]))
     rw [ku] at dP
     go_wp2_with (go_at_call 160; refine (dP _).mono ?_; rintro e wx ⟨rfl, dG⟩; have e0 : wx.cell? ⟨wr.heap.size, 0, none⟩ = some (.int .i64 t0) := (hb.same dG).cell 0; have e1 : wx.cell? ⟨wr.heap.size, 1, none⟩ = some (.int .i64 t1) := (hb.same dG).cell 1)
     go_ret
     exact ⟨by rw [HF.out]; rfl, (HK.out.alloc _).trans dG⟩
    have gZ := eq_true_of_ne_false ku
    by_cases sj : t1 < 1
    ·have HF := (show Hid (mx = false) from jg.out k bH (by rw [fA.out]; unfold Sy; rw [decide_eq_false (show ¬ (1 ≤ t1) from by omega)]; simp only [Bool.false_and, Bool.and_false]))
     rw [gZ] at dP
     go_wp2_with (go_at_call 160; refine (dP _).mono ?_; rintro e wx ⟨rfl, dG⟩; have e0 : wx.cell? ⟨wr.heap.size, 0, none⟩ = some (.int .i64 t0) := (hb.same dG).cell 0; have e1 : wx.cell? ⟨wr.heap.size, 1, none⟩ = some (.int .i64 t1) := (hb.same dG).cell 1)
     go_ret
     exact ⟨by rw [HF.out]; rfl, (HK.out.alloc _).trans dG⟩
    by_cases JF : 1099511627776 < t1
    ·have HF := (show Hid (mx = false) from jg.out k bH (by rw [fA.out]; unfold Sy; rw [decide_eq_false (show ¬ (t1 ≤ 1099511627776) from by omega)]; simp only [Bool.false_and, Bool.and_false]))
     rw [gZ] at dP
     go_wp2_with (go_at_call 160; refine (dP _).mono ?_; rintro e wx ⟨rfl, dG⟩; have e0 : wx.cell? ⟨wr.heap.size, 0, none⟩ = some (.int .i64 t0) := (hb.same dG).cell 0; have e1 : wx.cell? ⟨wr.heap.size, 1, none⟩ = some (.int .i64 t1) := (hb.same dG).cell 1)
     go_ret
     exact ⟨by rw [HF.out]; rfl, (HK.out.alloc _).trans dG⟩
    rw [gZ] at dP
    have gw := (show Hid (Sj bs k = true) from by rw [fA.out]; unfold Sy; simp only [gZ, decide_eq_true (show A < t0 from by omega), decide_eq_true (show 1 ≤ t1 from by omega), decide_eq_true (show t1 ≤ 1099511627776 from by omega), Bool.and_true, Bool.and_self]; exact trivial)
    go_wp2_with (go_at_call 160; refine (dP _).mono ?_; rintro e wx ⟨rfl, dG⟩; have e0 : wx.cell? ⟨wr.heap.size, 0, none⟩ = some (.int .i64 t0) := (hb.same dG).cell 0; have e1 : wx.cell? ⟨wr.heap.size, 1, none⟩ = some (.int .i64 t1) := (hb.same dG).cell 1)
    go_roundw
    case rel => exact ⟨k + 1, by omega, by go_num, by rw [xp.out], fun j hj => (Nat.lt_succ_iff_lt_or_eq.1 hj).elim (mD.out j) (fun e => e ▸ gw.out), (HK.out.alloc _).trans dG⟩
    case measure => simp [intOf]; omega
   ·obtain rfl : k = len := by omega
    go_wp2
    go_ret
    exact ⟨by rw [oq.out mD.out]; rfl, HK.out⟩
end Go.Proofs.YtaojjcnmififoaaGreat
