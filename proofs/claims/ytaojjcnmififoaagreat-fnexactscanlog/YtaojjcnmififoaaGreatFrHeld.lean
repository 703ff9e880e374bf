import Derived.Test.YtaojjcnmififoaaGreatG42
namespace Go.Proofs.YtaojjcnmififoaaGreat
set_option maxRecDepth 100000
set_option maxHeartbeats 8000000
set_option linter.unusedVariables false
set_option linter.unusedSimpArgs false
open Go Go.RowKit
theorem heldLogFrameS_own (va : Value) (ps : List StLogFrame) (k0 : Int) (w : World) (h0 : 0 ≤ k0) (h1 : k0 + mzFr ps ≤ 1125899906842624) (hn : ps.length ≤ 1125899906842624) (ha : MkFr w va ps k0) :
  Calls Tryz.prog 33 #[va, .int .i64 k0] w fun e w' => e = .returned (.int .i64 (k0 + mzFr ps)) ∧ Same w w' := by
 by_cases hz : ps.length = 0
 ·obtain rfl : ps = [] := List.length_eq_zero_iff.1 hz
  obtain ⟨aa, ca, rfl⟩ : ∃ aa ca, va = .slice aa 0 ca := by rcases ha.own.form with ⟨rfl, _⟩ | ⟨g, cap, rfl, _⟩ <;> exact ⟨_, _, rfl⟩
  clear ha hn hz h1
  go_enter Tryz.func33, Tryz.ntmps33
  go_wp2
  refine wp_loop_rounds 1 ?_
  rw [rounds_succ]
  go_wp2
  go_ret
  exact ⟨by simp [mzFr], Kept.refl _ _⟩
 ·obtain ⟨g, cap, rfl⟩ : ∃ g cap, va = .slice (some ⟨g, 0, none⟩) ps.length cap := by
   rcases ha.own.form with ⟨_, h⟩ | ⟨g, cap, h, _⟩
   ·have := congrArg List.length h; rw [mkS_length] at this; exact absurd this hz
   ·exact ⟨g, cap, by rw [h, mkS_length]⟩
  have HA := hid ha
  have H1 := hid h1
  clear ha h1
  generalize hl : ps.length = len at *
  have HL : Hid (ps.length = len) := hl
  clear hl
  go_enter Tryz.func33, Tryz.ntmps33
  go_wp2
  go_loopw [1, 5] (fun v i wr => ∃ (k : Nat) (c : Int), k ≤ len ∧ i = .int .i64 k ∧ v = .int .i64 c ∧ Hid (c = k0 + mzFr (ps.take k)) ∧ Hid (Same w wr)) (fun _ i _ => len - (intOf i).toNat)
  case atStart => exact ⟨0, k0, Nat.zero_le _, rfl, rfl, by simp [Hid, mzFr], Kept.refl _ _⟩
  case round =>
   obtain ⟨k, c0, hk, rfl, rfl, HC, HKr⟩ := hrel
   by_cases hlt : k < len
   ·have hlp : k < ps.length := by rw [HL.out]; exact hlt
    have hst := mzFr_step ps k hlp
    have hat := mkS_at k0 ps k hlp
    have hrw := mkRows_at k hlp HA.out.rows
    rw [← HC.out] at hat hrw
    obtain ⟨P, hP⟩ : ∃ P, ps[k] = P := ⟨_, rfl⟩
    rw [hP] at hst hat hrw
    obtain ⟨c1, hcc1⟩ : ∃ z : Int, c0 + 1 + 1 + 1 + 1 + 1 + 1 + 1 + 1 + (P.record.before.data.bs.length : Int) = z := ⟨_, rfl⟩
    obtain ⟨c2, hcc2⟩ : ∃ z : Int, c1 + 1 + (P.record.after.data.bs.length : Int) = z := ⟨_, rfl⟩
    obtain ⟨c3, hcc3⟩ : ∃ z : Int, c2 + 1 + 1 + (P.record.txns.bs.length : Int) = z := ⟨_, rfl⟩
    obtain ⟨c4, hcc4⟩ : ∃ z : Int, c3 + (P.record.dirty.bs.length : Int) = z := ⟨_, rfl⟩
    obtain ⟨c5, hcc5⟩ : ∃ z : Int, c4 + (P.record.image.bs.length : Int) = z := ⟨_, rfl⟩
    have hat2 : mkE c0 P = (⟨(c0), (c0 + 1), ⟨(c0 + 1 + 1), (c0 + 1 + 1 + 1), (c0 + 1 + 1 + 1 + 1), (c0 + 1 + 1 + 1 + 1 + 1), (c0 + 1 + 1 + 1 + 1 + 1 + 1), ⟨((c0 + 1 + 1 + 1 + 1 + 1 + 1 + 1) % 3 == 0), P.record.before.data⟩, ⟨(c1 % 3 == 0), P.record.after.data⟩, (c2), (c2 + 1), P.record.txns, P.record.dirty, P.record.image⟩⟩ : StLogFrame) := by unfold mkE; dsimp only; simp only [hcc1, hcc2, hcc3, hcc4]
    have hrw2 : OwnL w (((P.record.before.data.marked (c0 + 1 + 1 + 1 + 1 + 1 + 1 + 1 + 1)).rows) ++ (((P.record.after.data.marked (c1 + 1)).rows) ++ (((P.record.txns.marked (c2 + 1 + 1)).rows 4) ++ (((P.record.dirty.marked (c3)).rows 2) ++ (((P.record.image.marked (c4)).rows)))))) := by unfold mkW at hrw; dsimp only at hrw; rw [hcc1, hcc2, hcc3, hcc4] at hrw; exact hrw
    rw [hat2] at hat
    have HCE := (show Hid (∀ i, i < 16 → w.cell? ⟨g, k * 16 + i, none⟩ = (kFr.cells (⟨(c0), (c0 + 1), ⟨(c0 + 1 + 1), (c0 + 1 + 1 + 1), (c0 + 1 + 1 + 1 + 1), (c0 + 1 + 1 + 1 + 1 + 1), (c0 + 1 + 1 + 1 + 1 + 1 + 1), ⟨((c0 + 1 + 1 + 1 + 1 + 1 + 1 + 1) % 3 == 0), P.record.before.data⟩, ⟨(c1 % 3 == 0), P.record.after.data⟩, (c2), (c2 + 1), P.record.txns, P.record.dirty, P.record.image⟩⟩ : StLogFrame))[i]?) from fun i hi => by
     have h := HA.out.own.cell (by rw [mkS_length]; exact HL.out.symm) k i (by rw [mkS_length]; exact hlp) hi
     rw [hat] at h
     exact h)
    have HRW := hid hrw2
    have hsz : P.size = (P.record.before.data.bs.length : Int) + (P.record.after.data.bs.length : Int) + (P.record.txns.bs.length : Int) + (P.record.dirty.bs.length : Int) + (P.record.image.bs.length : Int) := rfl
    have hc0 : 0 ≤ c0 := by have := HC.out; have := mzFr_nonneg (ps.take k); omega
    have hc9 : c0 + 11 + P.size ≤ 1125899906842624 := by have := HC.out; have := H1.out; have := mzFr_take_le ps (k + 1); omega
    rw [hsz] at hc9 hst
    have HST := (show Hid (k0 + mzFr (ps.take (k + 1)) = c5) from by have := HC.out; unfold Hid; omega)
    have hb0 : c0 + 11 ≤ 1125899906842624 := by omega
    have hb1 : 0 ≤ c1 ∧ c1 + 3 ≤ 1125899906842624 := by omega
    have hb2 : 0 ≤ c2 ∧ c2 + 2 ≤ 1125899906842624 := by omega
    have hb3 : 0 ≤ c3 ∧ c3 ≤ 1125899906842624 := by omega
    have hb4 : 0 ≤ c4 ∧ c4 ≤ 1125899906842624 := by omega
    have hb5 : 0 ≤ c5 ∧ c5 ≤ 1125899906842624 := by omega
    have HB := (show Hid (c0 + 11 + (P.record.before.data.bs.length : Int) + (P.record.after.data.bs.length : Int) + (P.record.txns.bs.length : Int) + (P.record.dirty.bs.length : Int) + (P.record.image.bs.length : Int) ≤ 1125899906842624) from by unfold Hid; omega)
    have HB1 := hid hcc1
    have HB2 := hid hcc2
    have HB3 := hid hcc3
    have HB4 := hid hcc4
    have HB5 := hid hcc5
    clear hst hat hrw hat2 hrw2 hP hsz hc9 hcc1 hcc2 hcc3 hcc4 hcc5
    have z0 : wr.cell? ⟨g, k * 16, none⟩ = some (.int .i64 (c0)) := HKr.out.cellOf (HCE.out 0 (by decide)) id
    have z1 : wr.cell? ⟨g, k * 16 + 1, none⟩ = some (.int .i64 (c0 + 1)) := HKr.out.cellOf (HCE.out 1 (by decide)) id
    have z2 : wr.cell? ⟨g, k * 16 + 2, none⟩ = some (.int .i64 (c0 + 1 + 1)) := HKr.out.cellOf (HCE.out 2 (by decide)) id
    have z3 : wr.cell? ⟨g, k * 16 + 3, none⟩ = some (.int .i64 (c0 + 1 + 1 + 1)) := HKr.out.cellOf (HCE.out 3 (by decide)) id
    have z4 : wr.cell? ⟨g, k * 16 + 4, none⟩ = some (.int .i64 (c0 + 1 + 1 + 1 + 1)) := HKr.out.cellOf (HCE.out 4 (by decide)) id
    have z5 : wr.cell? ⟨g, k * 16 + 5, none⟩ = some (.int .i64 (c0 + 1 + 1 + 1 + 1 + 1)) := HKr.out.cellOf (HCE.out 5 (by decide)) id
    have z6 : wr.cell? ⟨g, k * 16 + 6, none⟩ = some (.int .i64 (c0 + 1 + 1 + 1 + 1 + 1 + 1)) := HKr.out.cellOf (HCE.out 6 (by decide)) id
    have z7 : wr.cell? ⟨g, k * 16 + 7, none⟩ = some (.bool ((c0 + 1 + 1 + 1 + 1 + 1 + 1 + 1) % 3 == 0)) := HKr.out.cellOf (HCE.out 7 (by decide)) id
    have z8 : wr.cell? ⟨g, k * 16 + 8, none⟩ = some (P.record.before.data.v) := HKr.out.cellOf (HCE.out 8 (by decide)) id
    have hng : ¬ c1 < 0 := by omega
    have HQ := (show Hid (Own 0 P.record.before.data.e .u8 wr P.record.before.data.v (marks (c0 + 1 + 1 + 1 + 1 + 1 + 1 + 1 + 1) P.record.before.data.bs.length)) from (OwnL.of_one (BS.own_marked.1 (HRW.out.left))).same HKr.out)
    go_wp2_with fail
    refine (heldByteS_own 0 P.record.before.data.v P.record.before.data.bs.length (c0 + 1 + 1 + 1 + 1 + 1 + 1 + 1 + 1) _ (by have := HB.out; omega) (by omega) (by have := HB.out; omega) HQ.out).mono ?_
    rintro e x1 ⟨rfl, hw⟩
    have HK1 := (show Hid (Same w x1) from by rw [hw]; exact HKr.out)
    clear hw
    rw [HB1.out]
    clear HQ z0 z1 z2 z3 z4 z5 z6 z7 z8
    have z9 : x1.cell? ⟨g, k * 16 + 9, none⟩ = some (.bool (c1 % 3 == 0)) := HK1.out.cellOf (HCE.out 9 (by decide)) id
    have z10 : x1.cell? ⟨g, k * 16 + 10, none⟩ = some (P.record.after.data.v) := HK1.out.cellOf (HCE.out 10 (by decide)) id
    have hng : ¬ c2 < 0 := by omega
    have HQ := (show Hid (Own 0 P.record.after.data.e .u8 x1 P.record.after.data.v (marks (c1 + 1) P.record.after.data.bs.length)) from (OwnL.of_one (BS.own_marked.1 (HRW.out.right.left))).same HK1.out)
    go_wp2_with fail
    refine (heldByteS_own 0 P.record.after.data.v P.record.after.data.bs.length (c1 + 1) _ (by have := HB.out; omega) (by omega) (by have := HB.out; omega) HQ.out).mono ?_
    rintro e x2 ⟨rfl, hw⟩
    have HK2 := (show Hid (Same w x2) from by rw [hw]; exact HK1.out)
    clear hw
    rw [HB2.out]
    clear HQ z9 z10
    have z11 : x2.cell? ⟨g, k * 16 + 11, none⟩ = some (.int .i64 (c2)) := HK2.out.cellOf (HCE.out 11 (by decide)) id
    have z12 : x2.cell? ⟨g, k * 16 + 12, none⟩ = some (.int .i64 (c2 + 1)) := HK2.out.cellOf (HCE.out 12 (by decide)) id
    have z13 : x2.cell? ⟨g, k * 16 + 13, none⟩ = some (P.record.txns.v) := HK2.out.cellOf (HCE.out 13 (by decide)) id
    have hng : ¬ c3 < 0 := by omega
    have HQ := (show Hid (OwnL x2 ((P.record.txns.marked (c2 + 1 + 1)).rows 4)) from (HRW.out.right.right.left).same HK2.out)
    go_wp2_with fail
    refine (heldTxnEntryS_own P.record.txns (c2 + 1 + 1) _ (by omega) (by have := HB1.out; have := HB2.out; have := HB3.out; have := HB4.out; have := HB5.out; omega) HQ.out).mono ?_
    rintro e x3 ⟨rfl, hk⟩
    have HK3 := hid (HK2.out.trans hk)
    clear hk
    rw [HB3.out]
    clear HQ z11 z12 z13
    have z14 : x3.cell? ⟨g, k * 16 + 14, none⟩ = some (P.record.dirty.v) := HK3.out.cellOf (HCE.out 14 (by decide)) id
    have hng : ¬ c4 < 0 := by omega
    have HQ := (show Hid (OwnL x3 ((P.record.dirty.marked (c3)).rows 2)) from (HRW.out.right.right.right.left).same HK3.out)
    go_wp2_with fail
    refine (heldDirtyEntryS_own P.record.dirty (c3) _ (by omega) (by have := HB1.out; have := HB2.out; have := HB3.out; have := HB4.out; have := HB5.out; omega) HQ.out).mono ?_
    rintro e x4 ⟨rfl, hk⟩
    have HK4 := hid (HK3.out.trans hk)
    clear hk
    rw [HB4.out]
    clear HQ z14
    have z15 : x4.cell? ⟨g, k * 16 + 15, none⟩ = some (P.record.image.v) := HK4.out.cellOf (HCE.out 15 (by decide)) id
    have hng : ¬ c5 < 0 := by omega
    have HQ := (show Hid (Own 0 P.record.image.e .u8 x4 P.record.image.v (marks (c4) P.record.image.bs.length)) from (OwnL.of_one (BS.own_marked.1 (HRW.out.right.right.right.right))).same HK4.out)
    go_wp2_with fail
    refine (heldByteS_own 0 P.record.image.v P.record.image.bs.length (c4) _ (by have := HB.out; omega) (by omega) (by have := HB.out; omega) HQ.out).mono ?_
    rintro e x5 ⟨rfl, hw⟩
    have HK5 := (show Hid (Same w x5) from by rw [hw]; exact HK4.out)
    clear hw
    rw [HB5.out]
    clear HQ z15
    go_wp2
    go_roundw
    case rel => exact ⟨k + 1, c5, by omega, by go_num, rfl, HST.out.symm, HK5⟩
    case measure => simp [intOf]; omega
   ·go_wp2
    go_ret
    obtain rfl : k = len := by omega
    have h2 := HL.out
    have h3 := HC.out
    rw [← h2, List.take_length] at h3
    exact ⟨ret_int h3, HKr.out⟩
end Go.Proofs.YtaojjcnmififoaaGreat
