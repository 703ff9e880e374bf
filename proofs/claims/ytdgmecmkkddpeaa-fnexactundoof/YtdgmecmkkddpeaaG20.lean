import Derived.Test.YtdgmecmkkddpeaaG01
import Derived.Test.YtdgmecmkkddpeaaTyLogRecord
namespace Go.Proofs.Ytdgmecmkkddpeaa
set_option maxRecDepth 100000
set_option maxHeartbeats 4000000
set_option linter.unusedVariables false
set_option linter.unusedSimpArgs false
open Go.RowKit
theorem markDirtyEntryS_own (x : FR) (k0 : Int) (w : World) (h0 : 0 ≤ k0) (h1 : k0 + (x.bs.length : Int) ≤ 1125899906842624) (ha : OwnL w (x.rows 2)) :
  Calls Try.prog 47 #[x.v, .int .i64 k0] w fun e w' => e = .returned (.int .i64 (k0 + (x.bs.length : Int))) ∧ OwnL w' ((x.marked k0).rows 2) ∧ Kept (FootL (x.rows 2)) w w' := by
 have hl := FR.own_len ha
 have hf := FR.own_form ha
 obtain ⟨xe, xa, xn, xc, bs⟩ := x
 dsimp only [FR.v] at *
 have HA := (show Hid (OwnL w (FR.rows 2 ⟨xe, xa, xn, xc, bs⟩)) from ha)
 clear ha
 rcases hf with ⟨rfl, rfl, rfl⟩ | ⟨g, rfl, hac, hcm, ho⟩
 ·obtain rfl : bs = [] := List.length_eq_zero_iff.1 (by omega)
  clear hl
  go_enter Try.func47, Try.ntmps47
  go_wp2
  refine wp_loop_rounds 1 ?_
  rw [rounds_succ]
  go_wp2
  go_ret
  exact ⟨by simp, HA.out, Kept.refl _ _⟩
 ·have HL := (show Hid (bs.length = xn * 2) from hl)
  have HO0 := (show Hid (OwnF 2 xe w g xn xc bs) from ho)
  rw [hl] at h1 ⊢
  have hxn : k0 + (xn : Int) * 2 ≤ 1125899906842624 := by simpa using h1
  unfold maxLen at hcm
  clear ho hl HA h1
  go_enter Try.func47, Try.ntmps47
  go_wp2
  go_loopw [1, 5] (fun v i wr => ∃ k : Nat, k ≤ xn ∧ i = .int .i64 k ∧ v = .int .i64 (k0 + (k : Int) * 2) ∧ Hid (OwnF 2 xe wr g xn xc (partI k0 bs (k * 2))) ∧ Hid (Kept (fun b => b = g) w wr)) (fun _ i _ => xn - (intOf i).toNat)
  case atStart => exact ⟨0, Nat.zero_le _, rfl, by simp, by rw [Nat.zero_mul, partI_zero]; exact HO0, Kept.refl _ _⟩
  case round =>
   obtain ⟨k, hk, rfl, rfl, HO, HK⟩ := hrel
   by_cases hlt : k < xn
   ·have c0 := HO.out.cell (k * 2) (by omega)
    have f0 := HO.out.frozen (k * 2)
    have c1 := HO.out.cell (k * 2 + 1) (by omega)
    have f1 := HO.out.frozen (k * 2 + 1)
    go_wp2
    go_roundw
    case rel =>
     have hl := HL.out
     have q0 := HO.out
     have q1 := q0.stored (k * 2) (k0 + ((k * 2 : Nat) : Int))
     rw [partI_step _ _ _ (by omega)] at q1
     have q2 := q1.stored (k * 2 + 1) (k0 + ((k * 2 + 1 : Nat) : Int))
     rw [partI_step _ _ _ (by omega)] at q2
     refine ⟨k + 1, by omega, by go_num, by go_num, ?_, ?_⟩
     ·rw [show (k + 1) * 2 = k * 2 + 1 + 1 from by omega]; simpa [Hid, Int.add_assoc] using q2
     ·exact ((HK.out.setCell (.inr rfl) _).setCell (.inr rfl) _)
    case measure => simp [intOf]; omega
   ·go_wp2
    go_ret
    obtain rfl : k = xn := by omega
    have h := HO.out
    rw [← HL.out, partI_all] at h
    refine ⟨ret_int (by push_cast; rfl), ?_, HK.out.mono (fun b _ hb => (FootL_one _ _).2 (by simp [FR.v, Value.ownBlock, hb]))⟩
    exact h.out
theorem heldDirtyEntryS_own (x : FR) (k0 : Int) (w : World) (h0 : 0 ≤ k0) (h1 : k0 + (x.bs.length : Int) ≤ 1125899906842624) (ha : OwnL w ((x.marked k0).rows 2)) :
  Calls Try.prog 52 #[x.v, .int .i64 k0] w fun e w' => e = .returned (.int .i64 (k0 + (x.bs.length : Int))) ∧ Same w w' := by
 have hl := FR.own_len ha
 have hf := FR.own_form ha
 obtain ⟨xe, xa, xn, xc, bs⟩ := x
 dsimp only [FR.v, FR.marked] at *
 rw [marksI_length] at hl
 clear ha
 rcases hf with ⟨rfl, rfl, rfl⟩ | ⟨g, rfl, hac, hcm, ho⟩
 ·obtain rfl : bs = [] := List.length_eq_zero_iff.1 (by omega)
  clear hl
  go_enter Try.func52, Try.ntmps52
  go_wp2
  refine wp_loop_rounds 1 ?_
  rw [rounds_succ]
  go_wp2
  go_ret
  exact ⟨by simp, Kept.refl _ _⟩
 ·have hc : ∀ j, j < xn * 2 → w.cell? ⟨g, j, none⟩ = some (.int .i64 (k0 + j)) := fun j hj => by
   rw [ho.cell j hj, marksI_at _ _ _ (by omega)]
  rw [hl] at h1 ⊢
  have hxn : k0 + (xn : Int) * 2 ≤ 1125899906842624 := by simpa using h1
  unfold maxLen at hcm
  clear ho h1
  go_enter Try.func52, Try.ntmps52
  go_wp2
  go_loop [1, 5] (fun v i => ∃ k : Nat, k ≤ xn ∧ i = .int .i64 k ∧ v = .int .i64 (k0 + (k : Int) * 2)) (fun _ i => xn - (intOf i).toNat)
  case atStart => exact ⟨0, Nat.zero_le _, rfl, by simp⟩
  case round =>
   obtain ⟨k, hk, rfl, rfl⟩ := hrel
   by_cases hlt : k < xn
   ·have c0 : w.cell? ⟨g, k * 2, none⟩ = some (.int .i64 (k0 + (k : Int) * 2)) := by rw [hc (k * 2) (by omega)]; congr 2 <;> (push_cast; omega)
    have c1 : w.cell? ⟨g, k * 2 + 1, none⟩ = some (.int .i64 (k0 + (k : Int) * 2 + 1)) := by rw [hc (k * 2 + 1) (by omega)]; congr 2 <;> (push_cast; omega)
    clear hc
    go_wp2
    go_round
    case rel => exact ⟨k + 1, by omega, by go_num, by go_num⟩
    case measure => simp [intOf]; omega
   ·go_wp2
    go_ret
    obtain rfl : k = xn := by omega
    exact ⟨ret_int (by push_cast; rfl), Kept.refl _ _⟩
theorem markTxnEntryS_own (x : FR) (k0 : Int) (w : World) (h0 : 0 ≤ k0) (h1 : k0 + (x.bs.length : Int) ≤ 1125899906842624) (ha : OwnL w (x.rows 4)) :
  Calls Try.prog 46 #[x.v, .int .i64 k0] w fun e w' => e = .returned (.int .i64 (k0 + (x.bs.length : Int))) ∧ OwnL w' ((x.marked k0).rows 4) ∧ Kept (FootL (x.rows 4)) w w' := by
 have hl := FR.own_len ha
 have hf := FR.own_form ha
 obtain ⟨xe, xa, xn, xc, bs⟩ := x
 dsimp only [FR.v] at *
 have HA := (show Hid (OwnL w (FR.rows 4 ⟨xe, xa, xn, xc, bs⟩)) from ha)
 clear ha
 rcases hf with ⟨rfl, rfl, rfl⟩ | ⟨g, rfl, hac, hcm, ho⟩
 ·obtain rfl : bs = [] := List.length_eq_zero_iff.1 (by omega)
  clear hl
  go_enter Try.func46, Try.ntmps46
  go_wp2
  refine wp_loop_rounds 1 ?_
  rw [rounds_succ]
  go_wp2
  go_ret
  exact ⟨by simp, HA.out, Kept.refl _ _⟩
 ·have HL := (show Hid (bs.length = xn * 4) from hl)
  have HO0 := (show Hid (OwnF 4 xe w g xn xc bs) from ho)
  rw [hl] at h1 ⊢
  have hxn : k0 + (xn : Int) * 4 ≤ 1125899906842624 := by simpa using h1
  unfold maxLen at hcm
  clear ho hl HA h1
  go_enter Try.func46, Try.ntmps46
  go_wp2
  go_loopw [1, 5] (fun v i wr => ∃ k : Nat, k ≤ xn ∧ i = .int .i64 k ∧ v = .int .i64 (k0 + (k : Int) * 4) ∧ Hid (OwnF 4 xe wr g xn xc (partI k0 bs (k * 4))) ∧ Hid (Kept (fun b => b = g) w wr)) (fun _ i _ => xn - (intOf i).toNat)
  case atStart => exact ⟨0, Nat.zero_le _, rfl, by simp, by rw [Nat.zero_mul, partI_zero]; exact HO0, Kept.refl _ _⟩
  case round =>
   obtain ⟨k, hk, rfl, rfl, HO, HK⟩ := hrel
   by_cases hlt : k < xn
   ·have c0 := HO.out.cell (k * 4) (by omega)
    have f0 := HO.out.frozen (k * 4)
    have c1 := HO.out.cell (k * 4 + 1) (by omega)
    have f1 := HO.out.frozen (k * 4 + 1)
    have c2 := HO.out.cell (k * 4 + 2) (by omega)
    have f2 := HO.out.frozen (k * 4 + 2)
    have c3 := HO.out.cell (k * 4 + 3) (by omega)
    have f3 := HO.out.frozen (k * 4 + 3)
    go_wp2
    go_roundw
    case rel =>
     have hl := HL.out
     have q0 := HO.out
     have q1 := q0.stored (k * 4) (k0 + ((k * 4 : Nat) : Int))
     rw [partI_step _ _ _ (by omega)] at q1
     have q2 := q1.stored (k * 4 + 1) (k0 + ((k * 4 + 1 : Nat) : Int))
     rw [partI_step _ _ _ (by omega)] at q2
     have q3 := q2.stored (k * 4 + 2) (k0 + ((k * 4 + 2 : Nat) : Int))
     rw [partI_step _ _ _ (by omega)] at q3
     have q4 := q3.stored (k * 4 + 3) (k0 + ((k * 4 + 3 : Nat) : Int))
     rw [partI_step _ _ _ (by omega)] at q4
     refine ⟨k + 1, by omega, by go_num, by go_num, ?_, ?_⟩
     ·rw [show (k + 1) * 4 = k * 4 + 1 + 1 + 1 + 1 from by omega]; simpa [Hid, Int.add_assoc] using q4
     ·exact ((((HK.out.setCell (.inr rfl) _).setCell (.inr rfl) _).setCell (.inr rfl) _).setCell (.inr rfl) _)
    case measure => simp [intOf]; omega
   ·go_wp2
    go_ret
    obtain rfl : k = xn := by omega
    have h := HO.out
    rw [← HL.out, partI_all] at h
    refine ⟨ret_int (by push_cast; rfl), ?_, HK.out.mono (fun b _ hb => (FootL_one _ _).2 (by simp [FR.v, Value.ownBlock, hb]))⟩
    exact h.out
theorem heldTxnEntryS_own (x : FR) (k0 : Int) (w : World) (h0 : 0 ≤ k0) (h1 : k0 + (x.bs.length : Int) ≤ 1125899906842624) (ha : OwnL w ((x.marked k0).rows 4)) :
  Calls Try.prog 51 #[x.v, .int .i64 k0] w fun e w' => e = .returned (.int .i64 (k0 + (x.bs.length : Int))) ∧ Same w w' := by
 have hl := FR.own_len ha
 have hf := FR.own_form ha
 obtain ⟨xe, xa, xn, xc, bs⟩ := x
 dsimp only [FR.v, FR.marked] at *
 rw [marksI_length] at hl
 clear ha
 rcases hf with ⟨rfl, rfl, rfl⟩ | ⟨g, rfl, hac, hcm, ho⟩
 ·obtain rfl : bs = [] := List.length_eq_zero_iff.1 (by omega)
  clear hl
  go_enter Try.func51, Try.ntmps51
  go_wp2
  refine wp_loop_rounds 1 ?_
  rw [rounds_succ]
  go_wp2
  go_ret
  exact ⟨by simp, Kept.refl _ _⟩
 ·have hc : ∀ j, j < xn * 4 → w.cell? ⟨g, j, none⟩ = some (.int .i64 (k0 + j)) := fun j hj => by
   rw [ho.cell j hj, marksI_at _ _ _ (by omega)]
  rw [hl] at h1 ⊢
  have hxn : k0 + (xn : Int) * 4 ≤ 1125899906842624 := by simpa using h1
  unfold maxLen at hcm
  clear ho h1
  go_enter Try.func51, Try.ntmps51
  go_wp2
  go_loop [1, 5] (fun v i => ∃ k : Nat, k ≤ xn ∧ i = .int .i64 k ∧ v = .int .i64 (k0 + (k : Int) * 4)) (fun _ i => xn - (intOf i).toNat)
  case atStart => exact ⟨0, Nat.zero_le _, rfl, by simp⟩
  case round =>
   obtain ⟨k, hk, rfl, rfl⟩ := hrel
   by_cases hlt : k < xn
   ·have c0 : w.cell? ⟨g, k * 4, none⟩ = some (.int .i64 (k0 + (k : Int) * 4)) := by rw [hc (k * 4) (by omega)]; congr 2 <;> (push_cast; omega)
    have c1 : w.cell? ⟨g, k * 4 + 1, none⟩ = some (.int .i64 (k0 + (k : Int) * 4 + 1)) := by rw [hc (k * 4 + 1) (by omega)]; congr 2 <;> (push_cast; omega)
    have c2 : w.cell? ⟨g, k * 4 + 2, none⟩ = some (.int .i64 (k0 + (k : Int) * 4 + 2)) := by rw [hc (k * 4 + 2) (by omega)]; congr 2 <;> (push_cast; omega)
    have c3 : w.cell? ⟨g, k * 4 + 3, none⟩ = some (.int .i64 (k0 + (k : Int) * 4 + 3)) := by rw [hc (k * 4 + 3) (by omega)]; congr 2 <;> (push_cast; omega)
    clear hc
    go_wp2
    go_round
    case rel => exact ⟨k + 1, by omega, by go_num, by go_num⟩
    case measure => simp [intOf]; omega
   ·go_wp2
    go_ret
    obtain rfl : k = xn := by omega
    exact ⟨ret_int (by push_cast; rfl), Kept.refl _ _⟩
theorem markLogRecord_own (x : StLogRecord) (k0 : Int) (w : World) (h0 : 0 ≤ k0) (h1 : k0 + x.size ≤ 1125899906842624) (ha : OwnL w x.rows) :
  Calls Try.prog 15 #[x.val, .int .i64 k0] w fun e w' => e = .returned (.int .i64 (k0 + x.size)) ∧ OwnL w' (x.marked k0).rows ∧ Kept (FootL x.rows) w w' := by
 have hlt := ha.lt
 have HLT := (show Hid (∀ b, FootL x.rows b → b < w.heap.size) from hlt)
 have HA := (show Hid (OwnL w x.rows) from ha)
 clear hlt
 obtain ⟨xkind, xtxn, xprev, xpage, xslot, ⟨xbU, ⟨xbDe, xbDa, xbDc, xbDb⟩⟩, ⟨xaU, ⟨xaDe, xaDa, xaDc, xaDb⟩⟩, xuN, xnT, ⟨xtXe, xtXa, xtXn, xtXc, xtXb⟩, ⟨xdYe, xdYa, xdYn, xdYc, xdYb⟩, ⟨xiMe, xiMa, xiMc, xiMb⟩⟩ := x
 have HO0_0 := (show Hid (OwnL w (StPageRecord.rows ⟨xbU, ⟨xbDe, xbDa, xbDc, xbDb⟩⟩)) from ha.left)
 have HO1_0 := (show Hid (OwnL w (StPageRecord.rows ⟨xaU, ⟨xaDe, xaDa, xaDc, xaDb⟩⟩)) from ha.right.left)
 have HO2_0 := (show Hid (OwnL w [⟨xtXe, 4, .slice xtXa xtXn xtXc, xtXn, vals .i64 xtXb⟩]) from ha.right.right.left)
 have HO3_0 := (show Hid (OwnL w [⟨xdYe, 2, .slice xdYa xdYn xdYc, xdYn, vals .i64 xdYb⟩]) from ha.right.right.right.left)
 have HO4_0 := (show Hid (OwnL w [ints xiMe .u8 (.slice xiMa xiMb.length xiMc) xiMb]) from ha.right.right.right.right)
 have HP0_1 := (show Hid (∀ b, FootL (StPageRecord.rows ⟨xbU, ⟨xbDe, xbDa, xbDc, xbDb⟩⟩) b → ¬ FootL (StPageRecord.rows ⟨xaU, ⟨xaDe, xaDa, xaDc, xaDb⟩⟩) b) from fun b hi hj => OwnL.cut (ha) b hi ((FootL_append _ _ _).2 (.inl hj)))
 have HP0_2 := (show Hid (∀ b, FootL (StPageRecord.rows ⟨xbU, ⟨xbDe, xbDa, xbDc, xbDb⟩⟩) b → ¬ FootL [⟨xtXe, 4, .slice xtXa xtXn xtXc, xtXn, vals .i64 xtXb⟩] b) from fun b hi hj => OwnL.cut (ha) b hi ((FootL_append _ _ _).2 (.inr ((FootL_append _ _ _).2 (.inl hj)))))
 have HP0_3 := (show Hid (∀ b, FootL (StPageRecord.rows ⟨xbU, ⟨xbDe, xbDa, xbDc, xbDb⟩⟩) b → ¬ FootL [⟨xdYe, 2, .slice xdYa xdYn xdYc, xdYn, vals .i64 xdYb⟩] b) from fun b hi hj => OwnL.cut (ha) b hi ((FootL_append _ _ _).2 (.inr ((FootL_append _ _ _).2 (.inr ((FootL_append _ _ _).2 (.inl hj)))))))
 have HP0_4 := (show Hid (∀ b, FootL (StPageRecord.rows ⟨xbU, ⟨xbDe, xbDa, xbDc, xbDb⟩⟩) b → ¬ FootL [ints xiMe .u8 (.slice xiMa xiMb.length xiMc) xiMb] b) from fun b hi hj => OwnL.cut (ha) b hi ((FootL_append _ _ _).2 (.inr ((FootL_append _ _ _).2 (.inr ((FootL_append _ _ _).2 (.inr (hj))))))))
 have HP1_2 := (show Hid (∀ b, FootL (StPageRecord.rows ⟨xaU, ⟨xaDe, xaDa, xaDc, xaDb⟩⟩) b → ¬ FootL [⟨xtXe, 4, .slice xtXa xtXn xtXc, xtXn, vals .i64 xtXb⟩] b) from fun b hi hj => OwnL.cut (ha.right) b hi ((FootL_append _ _ _).2 (.inl hj)))
 have HP1_3 := (show Hid (∀ b, FootL (StPageRecord.rows ⟨xaU, ⟨xaDe, xaDa, xaDc, xaDb⟩⟩) b → ¬ FootL [⟨xdYe, 2, .slice xdYa xdYn xdYc, xdYn, vals .i64 xdYb⟩] b) from fun b hi hj => OwnL.cut (ha.right) b hi ((FootL_append _ _ _).2 (.inr ((FootL_append _ _ _).2 (.inl hj)))))
 have HP1_4 := (show Hid (∀ b, FootL (StPageRecord.rows ⟨xaU, ⟨xaDe, xaDa, xaDc, xaDb⟩⟩) b → ¬ FootL [ints xiMe .u8 (.slice xiMa xiMb.length xiMc) xiMb] b) from fun b hi hj => OwnL.cut (ha.right) b hi ((FootL_append _ _ _).2 (.inr ((FootL_append _ _ _).2 (.inr (hj))))))
 have HP2_3 := (show Hid (∀ b, FootL [⟨xtXe, 4, .slice xtXa xtXn xtXc, xtXn, vals .i64 xtXb⟩] b → ¬ FootL [⟨xdYe, 2, .slice xdYa xdYn xdYc, xdYn, vals .i64 xdYb⟩] b) from fun b hi hj => OwnL.cut (ha.right.right) b hi ((FootL_append _ _ _).2 (.inl hj)))
 have HP2_4 := (show Hid (∀ b, FootL [⟨xtXe, 4, .slice xtXa xtXn xtXc, xtXn, vals .i64 xtXb⟩] b → ¬ FootL [ints xiMe .u8 (.slice xiMa xiMb.length xiMc) xiMb] b) from fun b hi hj => OwnL.cut (ha.right.right) b hi ((FootL_append _ _ _).2 (.inr (hj))))
 have HP3_4 := (show Hid (∀ b, FootL [⟨xdYe, 2, .slice xdYa xdYn xdYc, xdYn, vals .i64 xdYb⟩] b → ¬ FootL [ints xiMe .u8 (.slice xiMa xiMb.length xiMc) xiMb] b) from fun b hi hj => OwnL.cut (ha.right.right.right) b hi (hj))
 clear ha
 simp only [StLogRecord.size] at h1
 have hz0 := StPageRecord.size_le ⟨xbU, ⟨xbDe, xbDa, xbDc, xbDb⟩⟩
 have hz1 := StPageRecord.size_le ⟨xaU, ⟨xaDe, xaDa, xaDc, xaDb⟩⟩
 dsimp only [StLogRecord.val, StPageRecord.val, BS.v, FR.v]
 go_enter Try.func15, Try.ntmps15
 have HK_0 := (show Hid (Kept (FootL (StLogRecord.rows ⟨xkind, xtxn, xprev, xpage, xslot, ⟨xbU, ⟨xbDe, xbDa, xbDc, xbDb⟩⟩, ⟨xaU, ⟨xaDe, xaDa, xaDc, xaDb⟩⟩, xuN, xnT, ⟨xtXe, xtXa, xtXn, xtXc, xtXb⟩, ⟨xdYe, xdYa, xdYn, xdYc, xdYb⟩, ⟨xiMe, xiMa, xiMc, xiMb⟩⟩)) w (w.alloc (.cells #[.int .i64 xkind, .int .i64 xtxn, .int .i64 xprev, .int .i64 xpage, .int .i64 xslot, .bool xbU, .slice xbDa xbDb.length xbDc, .bool xaU, .slice xaDa xaDb.length xaDc, .int .i64 xuN, .int .i64 xnT, .slice xtXa xtXn xtXc, .slice xdYa xdYn xdYc, .slice xiMa xiMb.length xiMc] 35))) from (Kept.refl _ _).alloc _)
 have HB_0 := hid (Blk.newL w [.int .i64 xkind, .int .i64 xtxn, .int .i64 xprev, .int .i64 xpage, .int .i64 xslot, .bool xbU, .slice xbDa xbDb.length xbDc, .bool xaU, .slice xaDa xaDb.length xaDc, .int .i64 xuN, .int .i64 xnT, .slice xtXa xtXn xtXc, .slice xdYa xdYn xdYc, .slice xiMa xiMb.length xiMc] 35)
 go_wp2_with fail
 refine (markPageRecord_own ⟨xbU, ⟨xbDe, xbDa, xbDc, xbDb⟩⟩ (k0) _ (by omega) (by omega) (HO0_0.out.same ((Kept.refl _ _).alloc _))).mono ?_
 rintro e w1 ⟨rfl, ho, hk⟩
 have HB_1 := (show Hid (Blk w1 w.heap.size 35 [.int .i64 xkind, .int .i64 xtxn, .int .i64 xprev, .int .i64 xpage, .int .i64 xslot, .bool xbU, .slice xbDa xbDb.length xbDc, .bool xaU, .slice xaDa xaDb.length xaDc, .int .i64 xuN, .int .i64 xnT, .slice xtXa xtXn xtXc, .slice xdYa xdYn xdYc, .slice xiMa xiMb.length xiMc]) from HB_0.out.kept hk (fun e => by have := HLT.out _ ((FootL_append _ _ _).2 (.inl e)); omega))
 have HK_1 := (show Hid (Kept (FootL (StLogRecord.rows ⟨xkind, xtxn, xprev, xpage, xslot, ⟨xbU, ⟨xbDe, xbDa, xbDc, xbDb⟩⟩, ⟨xaU, ⟨xaDe, xaDa, xaDc, xaDb⟩⟩, xuN, xnT, ⟨xtXe, xtXa, xtXn, xtXc, xtXb⟩, ⟨xdYe, xdYa, xdYn, xdYc, xdYb⟩, ⟨xiMe, xiMa, xiMc, xiMb⟩⟩)) w w1) from HK_0.out.next hk (fun b _ e => (FootL_append _ _ _).2 (.inl e)))
 have HO0_1 := (show Hid (OwnL w1 (StPageRecord.marked ⟨xbU, ⟨xbDe, xbDa, xbDc, xbDb⟩⟩ (k0)).rows) from ho)
 have HO1_1 := (show Hid (OwnL w1 (StPageRecord.rows ⟨xaU, ⟨xaDe, xaDa, xaDc, xaDb⟩⟩)) from (HO1_0.out.same ((Kept.refl _ _).alloc _)).kept hk (fun b hb e => HP0_1.out b e hb))
 have HO2_1 := (show Hid (OwnL w1 [⟨xtXe, 4, .slice xtXa xtXn xtXc, xtXn, vals .i64 xtXb⟩]) from (HO2_0.out.same ((Kept.refl _ _).alloc _)).kept hk (fun b hb e => HP0_2.out b e hb))
 have HO3_1 := (show Hid (OwnL w1 [⟨xdYe, 2, .slice xdYa xdYn xdYc, xdYn, vals .i64 xdYb⟩]) from (HO3_0.out.same ((Kept.refl _ _).alloc _)).kept hk (fun b hb e => HP0_3.out b e hb))
 have HO4_1 := (show Hid (OwnL w1 [ints xiMe .u8 (.slice xiMa xiMb.length xiMc) xiMb]) from (HO4_0.out.same ((Kept.refl _ _).alloc _)).kept hk (fun b hb e => HP0_4.out b e hb))
 clear ho hk HB_0 HK_0 HO0_0 HO1_0 HO2_0 HO3_0 HO4_0
 have hsz0 : StPageRecord.size ⟨xbU, ⟨xbDe, xbDa, xbDc, xbDb⟩⟩ = StPageRecord.size ⟨xbU, ⟨xbDe, xbDa, xbDc, xbDb⟩⟩ := rfl
 have d0_7 := HB_1.out.c7
 have d0_8 := HB_1.out.c8
 have d0_11 := HB_1.out.c11
 have d0_12 := HB_1.out.c12
 have d0_13 := HB_1.out.c13
 go_wp2_with fail
 refine (markPageRecord_own ⟨xaU, ⟨xaDe, xaDa, xaDc, xaDb⟩⟩ (k0 + (StPageRecord.size ⟨xbU, ⟨xbDe, xbDa, xbDc, xbDb⟩⟩)) _ (by omega) (by omega) (HO1_1.out)).mono ?_
 rintro e w2 ⟨rfl, ho, hk⟩
 have HB_2 := (show Hid (Blk w2 w.heap.size 35 [.int .i64 xkind, .int .i64 xtxn, .int .i64 xprev, .int .i64 xpage, .int .i64 xslot, .bool xbU, .slice xbDa xbDb.length xbDc, .bool xaU, .slice xaDa xaDb.length xaDc, .int .i64 xuN, .int .i64 xnT, .slice xtXa xtXn xtXc, .slice xdYa xdYn xdYc, .slice xiMa xiMb.length xiMc]) from HB_1.out.kept hk (fun e => by have := HLT.out _ ((FootL_append _ _ _).2 (.inr ((FootL_append _ _ _).2 (.inl e)))); omega))
 have HK_2 := (show Hid (Kept (FootL (StLogRecord.rows ⟨xkind, xtxn, xprev, xpage, xslot, ⟨xbU, ⟨xbDe, xbDa, xbDc, xbDb⟩⟩, ⟨xaU, ⟨xaDe, xaDa, xaDc, xaDb⟩⟩, xuN, xnT, ⟨xtXe, xtXa, xtXn, xtXc, xtXb⟩, ⟨xdYe, xdYa, xdYn, xdYc, xdYb⟩, ⟨xiMe, xiMa, xiMc, xiMb⟩⟩)) w w2) from HK_1.out.next hk (fun b _ e => (FootL_append _ _ _).2 (.inr ((FootL_append _ _ _).2 (.inl e)))))
 have HO0_2 := (show Hid (OwnL w2 (StPageRecord.marked ⟨xbU, ⟨xbDe, xbDa, xbDc, xbDb⟩⟩ (k0)).rows) from (HO0_1.out).kept hk (fun b hb e => HP0_1.out b ((StPageRecord.foot_marked _ _ b).1 hb) e))
 have HO1_2 := (show Hid (OwnL w2 (StPageRecord.marked ⟨xaU, ⟨xaDe, xaDa, xaDc, xaDb⟩⟩ (k0 + (StPageRecord.size ⟨xbU, ⟨xbDe, xbDa, xbDc, xbDb⟩⟩))).rows) from ho)
 have HO2_2 := (show Hid (OwnL w2 [⟨xtXe, 4, .slice xtXa xtXn xtXc, xtXn, vals .i64 xtXb⟩]) from (HO2_1.out).kept hk (fun b hb e => HP1_2.out b e hb))
 have HO3_2 := (show Hid (OwnL w2 [⟨xdYe, 2, .slice xdYa xdYn xdYc, xdYn, vals .i64 xdYb⟩]) from (HO3_1.out).kept hk (fun b hb e => HP1_3.out b e hb))
 have HO4_2 := (show Hid (OwnL w2 [ints xiMe .u8 (.slice xiMa xiMb.length xiMc) xiMb]) from (HO4_1.out).kept hk (fun b hb e => HP1_4.out b e hb))
 clear ho hk HB_1 HK_1 HO0_1 HO1_1 HO2_1 HO3_1 HO4_1
 have hsz1 : StPageRecord.size ⟨xaU, ⟨xaDe, xaDa, xaDc, xaDb⟩⟩ = StPageRecord.size ⟨xaU, ⟨xaDe, xaDa, xaDc, xaDb⟩⟩ := rfl
 have d1_11 := HB_2.out.c11
 have d1_12 := HB_2.out.c12
 have d1_13 := HB_2.out.c13
 go_wp2_with fail
 refine (markTxnEntryS_own ⟨xtXe, xtXa, xtXn, xtXc, xtXb⟩ (k0 + (StPageRecord.size ⟨xbU, ⟨xbDe, xbDa, xbDc, xbDb⟩⟩) + (StPageRecord.size ⟨xaU, ⟨xaDe, xaDa, xaDc, xaDb⟩⟩)) _ (by omega) (by dsimp only; omega) (HO2_2.out)).mono ?_
 rintro e w3 ⟨rfl, ho, hk⟩
 have HB_3 := (show Hid (Blk w3 w.heap.size 35 [.int .i64 xkind, .int .i64 xtxn, .int .i64 xprev, .int .i64 xpage, .int .i64 xslot, .bool xbU, .slice xbDa xbDb.length xbDc, .bool xaU, .slice xaDa xaDb.length xaDc, .int .i64 xuN, .int .i64 xnT, .slice xtXa xtXn xtXc, .slice xdYa xdYn xdYc, .slice xiMa xiMb.length xiMc]) from HB_2.out.kept hk (fun e => by have := HLT.out _ ((FootL_append _ _ _).2 (.inr ((FootL_append _ _ _).2 (.inr ((FootL_append _ _ _).2 (.inl e)))))); omega))
 have HK_3 := (show Hid (Kept (FootL (StLogRecord.rows ⟨xkind, xtxn, xprev, xpage, xslot, ⟨xbU, ⟨xbDe, xbDa, xbDc, xbDb⟩⟩, ⟨xaU, ⟨xaDe, xaDa, xaDc, xaDb⟩⟩, xuN, xnT, ⟨xtXe, xtXa, xtXn, xtXc, xtXb⟩, ⟨xdYe, xdYa, xdYn, xdYc, xdYb⟩, ⟨xiMe, xiMa, xiMc, xiMb⟩⟩)) w w3) from HK_2.out.next hk (fun b _ e => (FootL_append _ _ _).2 (.inr ((FootL_append _ _ _).2 (.inr ((FootL_append _ _ _).2 (.inl e)))))))
 have HO0_3 := (show Hid (OwnL w3 (StPageRecord.marked ⟨xbU, ⟨xbDe, xbDa, xbDc, xbDb⟩⟩ (k0)).rows) from (HO0_2.out).kept hk (fun b hb e => HP0_2.out b ((StPageRecord.foot_marked _ _ b).1 hb) e))
 have HO1_3 := (show Hid (OwnL w3 (StPageRecord.marked ⟨xaU, ⟨xaDe, xaDa, xaDc, xaDb⟩⟩ (k0 + (StPageRecord.size ⟨xbU, ⟨xbDe, xbDa, xbDc, xbDb⟩⟩))).rows) from (HO1_2.out).kept hk (fun b hb e => HP1_2.out b ((StPageRecord.foot_marked _ _ b).1 hb) e))
 have HO2_3 := (show Hid (OwnL w3 (FR.rows 4 (FR.marked ⟨xtXe, xtXa, xtXn, xtXc, xtXb⟩ (k0 + (StPageRecord.size ⟨xbU, ⟨xbDe, xbDa, xbDc, xbDb⟩⟩) + (StPageRecord.size ⟨xaU, ⟨xaDe, xaDa, xaDc, xaDb⟩⟩))))) from ho)
 have HO3_3 := (show Hid (OwnL w3 [⟨xdYe, 2, .slice xdYa xdYn xdYc, xdYn, vals .i64 xdYb⟩]) from (HO3_2.out).kept hk (fun b hb e => HP2_3.out b e hb))
 have HO4_3 := (show Hid (OwnL w3 [ints xiMe .u8 (.slice xiMa xiMb.length xiMc) xiMb]) from (HO4_2.out).kept hk (fun b hb e => HP2_4.out b e hb))
 clear ho hk HB_2 HK_2 HO0_2 HO1_2 HO2_2 HO3_2 HO4_2
 have d2_12 := HB_3.out.c12
 have d2_13 := HB_3.out.c13
 go_wp2_with fail
 refine (markDirtyEntryS_own ⟨xdYe, xdYa, xdYn, xdYc, xdYb⟩ (k0 + (StPageRecord.size ⟨xbU, ⟨xbDe, xbDa, xbDc, xbDb⟩⟩) + (StPageRecord.size ⟨xaU, ⟨xaDe, xaDa, xaDc, xaDb⟩⟩) + (xtXb.length : Int)) _ (by omega) (by dsimp only; omega) (HO3_3.out)).mono ?_
 rintro e w4 ⟨rfl, ho, hk⟩
 have HB_4 := (show Hid (Blk w4 w.heap.size 35 [.int .i64 xkind, .int .i64 xtxn, .int .i64 xprev, .int .i64 xpage, .int .i64 xslot, .bool xbU, .slice xbDa xbDb.length xbDc, .bool xaU, .slice xaDa xaDb.length xaDc, .int .i64 xuN, .int .i64 xnT, .slice xtXa xtXn xtXc, .slice xdYa xdYn xdYc, .slice xiMa xiMb.length xiMc]) from HB_3.out.kept hk (fun e => by have := HLT.out _ ((FootL_append _ _ _).2 (.inr ((FootL_append _ _ _).2 (.inr ((FootL_append _ _ _).2 (.inr ((FootL_append _ _ _).2 (.inl e)))))))); omega))
 have HK_4 := (show Hid (Kept (FootL (StLogRecord.rows ⟨xkind, xtxn, xprev, xpage, xslot, ⟨xbU, ⟨xbDe, xbDa, xbDc, xbDb⟩⟩, ⟨xaU, ⟨xaDe, xaDa, xaDc, xaDb⟩⟩, xuN, xnT, ⟨xtXe, xtXa, xtXn, xtXc, xtXb⟩, ⟨xdYe, xdYa, xdYn, xdYc, xdYb⟩, ⟨xiMe, xiMa, xiMc, xiMb⟩⟩)) w w4) from HK_3.out.next hk (fun b _ e => (FootL_append _ _ _).2 (.inr ((FootL_append _ _ _).2 (.inr ((FootL_append _ _ _).2 (.inr ((FootL_append _ _ _).2 (.inl e)))))))))
 have HO0_4 := (show Hid (OwnL w4 (StPageRecord.marked ⟨xbU, ⟨xbDe, xbDa, xbDc, xbDb⟩⟩ (k0)).rows) from (HO0_3.out).kept hk (fun b hb e => HP0_3.out b ((StPageRecord.foot_marked _ _ b).1 hb) e))
 have HO1_4 := (show Hid (OwnL w4 (StPageRecord.marked ⟨xaU, ⟨xaDe, xaDa, xaDc, xaDb⟩⟩ (k0 + (StPageRecord.size ⟨xbU, ⟨xbDe, xbDa, xbDc, xbDb⟩⟩))).rows) from (HO1_3.out).kept hk (fun b hb e => HP1_3.out b ((StPageRecord.foot_marked _ _ b).1 hb) e))
 have HO2_4 := (show Hid (OwnL w4 (FR.rows 4 (FR.marked ⟨xtXe, xtXa, xtXn, xtXc, xtXb⟩ (k0 + (StPageRecord.size ⟨xbU, ⟨xbDe, xbDa, xbDc, xbDb⟩⟩) + (StPageRecord.size ⟨xaU, ⟨xaDe, xaDa, xaDc, xaDb⟩⟩))))) from (HO2_3.out).kept hk (fun b hb e => HP2_3.out b ((FR.foot_marked 4 _ _ b).1 hb) e))
 have HO3_4 := (show Hid (OwnL w4 (FR.rows 2 (FR.marked ⟨xdYe, xdYa, xdYn, xdYc, xdYb⟩ (k0 + (StPageRecord.size ⟨xbU, ⟨xbDe, xbDa, xbDc, xbDb⟩⟩) + (StPageRecord.size ⟨xaU, ⟨xaDe, xaDa, xaDc, xaDb⟩⟩) + (xtXb.length : Int))))) from ho)
 have HO4_4 := (show Hid (OwnL w4 [ints xiMe .u8 (.slice xiMa xiMb.length xiMc) xiMb]) from (HO4_3.out).kept hk (fun b hb e => HP3_4.out b e hb))
 clear ho hk HB_3 HK_3 HO0_3 HO1_3 HO2_3 HO3_3 HO4_3
 have d3_13 := HB_4.out.c13
 go_wp2_with fail
 refine (markByteS_own 0 _ xiMb (k0 + (StPageRecord.size ⟨xbU, ⟨xbDe, xbDa, xbDc, xbDb⟩⟩) + (StPageRecord.size ⟨xaU, ⟨xaDe, xaDa, xaDc, xaDb⟩⟩) + (xtXb.length : Int) + (xdYb.length : Int)) _ (by omega) (by omega) (by omega) (OwnL.of_one (HO4_4.out))).mono ?_
 rintro e w5 ⟨rfl, ho, hk⟩
 have ho := (show OwnL w5 (BS.rows (BS.marked ⟨xiMe, xiMa, xiMc, xiMb⟩ (k0 + (StPageRecord.size ⟨xbU, ⟨xbDe, xbDa, xbDc, xbDb⟩⟩) + (StPageRecord.size ⟨xaU, ⟨xaDe, xaDa, xaDc, xaDb⟩⟩) + (xtXb.length : Int) + (xdYb.length : Int)))) from BS.own_marked.2 (OwnL.one ho))
 have hk : Kept (FootL [ints xiMe .u8 (.slice xiMa xiMb.length xiMc) xiMb]) _ w5 := hk.mono (fun b _ e => (footL_ints _ _ _ _ _).2 e)
 have HB_5 := (show Hid (Blk w5 w.heap.size 35 [.int .i64 xkind, .int .i64 xtxn, .int .i64 xprev, .int .i64 xpage, .int .i64 xslot, .bool xbU, .slice xbDa xbDb.length xbDc, .bool xaU, .slice xaDa xaDb.length xaDc, .int .i64 xuN, .int .i64 xnT, .slice xtXa xtXn xtXc, .slice xdYa xdYn xdYc, .slice xiMa xiMb.length xiMc]) from HB_4.out.kept hk (fun e => by have := HLT.out _ ((FootL_append _ _ _).2 (.inr ((FootL_append _ _ _).2 (.inr ((FootL_append _ _ _).2 (.inr ((FootL_append _ _ _).2 (.inr (e))))))))); omega))
 have HK_5 := (show Hid (Kept (FootL (StLogRecord.rows ⟨xkind, xtxn, xprev, xpage, xslot, ⟨xbU, ⟨xbDe, xbDa, xbDc, xbDb⟩⟩, ⟨xaU, ⟨xaDe, xaDa, xaDc, xaDb⟩⟩, xuN, xnT, ⟨xtXe, xtXa, xtXn, xtXc, xtXb⟩, ⟨xdYe, xdYa, xdYn, xdYc, xdYb⟩, ⟨xiMe, xiMa, xiMc, xiMb⟩⟩)) w w5) from HK_4.out.next hk (fun b _ e => (FootL_append _ _ _).2 (.inr ((FootL_append _ _ _).2 (.inr ((FootL_append _ _ _).2 (.inr ((FootL_append _ _ _).2 (.inr (e))))))))))
 have HO0_5 := (show Hid (OwnL w5 (StPageRecord.marked ⟨xbU, ⟨xbDe, xbDa, xbDc, xbDb⟩⟩ (k0)).rows) from (HO0_4.out).kept hk (fun b hb e => HP0_4.out b ((StPageRecord.foot_marked _ _ b).1 hb) e))
 have HO1_5 := (show Hid (OwnL w5 (StPageRecord.marked ⟨xaU, ⟨xaDe, xaDa, xaDc, xaDb⟩⟩ (k0 + (StPageRecord.size ⟨xbU, ⟨xbDe, xbDa, xbDc, xbDb⟩⟩))).rows) from (HO1_4.out).kept hk (fun b hb e => HP1_4.out b ((StPageRecord.foot_marked _ _ b).1 hb) e))
 have HO2_5 := (show Hid (OwnL w5 (FR.rows 4 (FR.marked ⟨xtXe, xtXa, xtXn, xtXc, xtXb⟩ (k0 + (StPageRecord.size ⟨xbU, ⟨xbDe, xbDa, xbDc, xbDb⟩⟩) + (StPageRecord.size ⟨xaU, ⟨xaDe, xaDa, xaDc, xaDb⟩⟩))))) from (HO2_4.out).kept hk (fun b hb e => HP2_4.out b ((FR.foot_marked 4 _ _ b).1 hb) e))
 have HO3_5 := (show Hid (OwnL w5 (FR.rows 2 (FR.marked ⟨xdYe, xdYa, xdYn, xdYc, xdYb⟩ (k0 + (StPageRecord.size ⟨xbU, ⟨xbDe, xbDa, xbDc, xbDb⟩⟩) + (StPageRecord.size ⟨xaU, ⟨xaDe, xaDa, xaDc, xaDb⟩⟩) + (xtXb.length : Int))))) from (HO3_4.out).kept hk (fun b hb e => HP3_4.out b ((FR.foot_marked 2 _ _ b).1 hb) e))
 have HO4_5 := (show Hid (OwnL w5 (BS.rows (BS.marked ⟨xiMe, xiMa, xiMc, xiMb⟩ (k0 + (StPageRecord.size ⟨xbU, ⟨xbDe, xbDa, xbDc, xbDb⟩⟩) + (StPageRecord.size ⟨xaU, ⟨xaDe, xaDa, xaDc, xaDb⟩⟩) + (xtXb.length : Int) + (xdYb.length : Int))))) from ho)
 clear ho hk HB_4 HK_4 HO0_4 HO1_4 HO2_4 HO3_4 HO4_4
 go_wp2
 go_ret
 refine ⟨by first | rfl | (refine ret_int ?_; simp only [StLogRecord.size]; omega), ?_, HK_5.out⟩
 exact (HO0_5.out).append ((HO1_5.out).append ((HO2_5.out).append ((HO3_5.out).append (HO4_5.out) (fun b hb e => HP3_4.out b ((FR.foot_marked 2 _ _ b).1 hb) ((BS.foot_marked _ _ b).1 e))) (fun b hb e => ((FootL_append _ _ _).1 e).elim (fun e3 => HP2_3.out b ((FR.foot_marked 4 _ _ b).1 hb) ((FR.foot_marked 2 _ _ b).1 e3)) (fun e3 => HP2_4.out b ((FR.foot_marked 4 _ _ b).1 hb) ((BS.foot_marked _ _ b).1 e3)))) (fun b hb e => ((FootL_append _ _ _).1 e).elim (fun e2 => HP1_2.out b ((StPageRecord.foot_marked _ _ b).1 hb) ((FR.foot_marked 4 _ _ b).1 e2)) (fun e2 => ((FootL_append _ _ _).1 e2).elim (fun e3 => HP1_3.out b ((StPageRecord.foot_marked _ _ b).1 hb) ((FR.foot_marked 2 _ _ b).1 e3)) (fun e3 => HP1_4.out b ((StPageRecord.foot_marked _ _ b).1 hb) ((BS.foot_marked _ _ b).1 e3))))) (fun b hb e => ((FootL_append _ _ _).1 e).elim (fun e1 => HP0_1.out b ((StPageRecord.foot_marked _ _ b).1 hb) ((StPageRecord.foot_marked _ _ b).1 e1)) (fun e1 => ((FootL_append _ _ _).1 e1).elim (fun e2 => HP0_2.out b ((StPageRecord.foot_marked _ _ b).1 hb) ((FR.foot_marked 4 _ _ b).1 e2)) (fun e2 => ((FootL_append _ _ _).1 e2).elim (fun e3 => HP0_3.out b ((StPageRecord.foot_marked _ _ b).1 hb) ((FR.foot_marked 2 _ _ b).1 e3)) (fun e3 => HP0_4.out b ((StPageRecord.foot_marked _ _ b).1 hb) ((BS.foot_marked _ _ b).1 e3)))))
theorem heldLogRecord_own (x : StLogRecord) (k0 : Int) (w : World) (h0 : 0 ≤ k0) (h1 : k0 + x.size ≤ 1125899906842624) (ha : OwnL w (x.marked k0).rows) :
  Calls Try.prog 22 #[x.val, .int .i64 k0] w fun e w' => e = .returned (.int .i64 (k0 + x.size)) ∧ Same w w' := by
 obtain ⟨xkind, xtxn, xprev, xpage, xslot, ⟨xbU, ⟨xbDe, xbDa, xbDc, xbDb⟩⟩, ⟨xaU, ⟨xaDe, xaDa, xaDc, xaDb⟩⟩, xuN, xnT, ⟨xtXe, xtXa, xtXn, xtXc, xtXb⟩, ⟨xdYe, xdYa, xdYn, xdYc, xdYb⟩, ⟨xiMe, xiMa, xiMc, xiMb⟩⟩ := x
 have HO0 := (show Hid (OwnL w (StPageRecord.marked ⟨xbU, ⟨xbDe, xbDa, xbDc, xbDb⟩⟩ (k0)).rows) from ha.left)
 have HO1 := (show Hid (OwnL w (StPageRecord.marked ⟨xaU, ⟨xaDe, xaDa, xaDc, xaDb⟩⟩ (k0 + (StPageRecord.size ⟨xbU, ⟨xbDe, xbDa, xbDc, xbDb⟩⟩))).rows) from ha.right.left)
 have HO2 := (show Hid (OwnL w (FR.rows 4 (FR.marked ⟨xtXe, xtXa, xtXn, xtXc, xtXb⟩ (k0 + (StPageRecord.size ⟨xbU, ⟨xbDe, xbDa, xbDc, xbDb⟩⟩) + (StPageRecord.size ⟨xaU, ⟨xaDe, xaDa, xaDc, xaDb⟩⟩))))) from ha.right.right.left)
 have HO3 := (show Hid (OwnL w (FR.rows 2 (FR.marked ⟨xdYe, xdYa, xdYn, xdYc, xdYb⟩ (k0 + (StPageRecord.size ⟨xbU, ⟨xbDe, xbDa, xbDc, xbDb⟩⟩) + (StPageRecord.size ⟨xaU, ⟨xaDe, xaDa, xaDc, xaDb⟩⟩) + (xtXb.length : Int))))) from ha.right.right.right.left)
 have HO4 := (show Hid (OwnL w [ints xiMe .u8 (.slice xiMa xiMb.length xiMc) (marks (k0 + (StPageRecord.size ⟨xbU, ⟨xbDe, xbDa, xbDc, xbDb⟩⟩) + (StPageRecord.size ⟨xaU, ⟨xaDe, xaDa, xaDc, xaDb⟩⟩) + (xtXb.length : Int) + (xdYb.length : Int)) xiMb.length)]) from BS.own_marked.1 (ha.right.right.right.right))
 clear ha
 simp only [StLogRecord.size] at h1
 have hz0 := StPageRecord.size_le ⟨xbU, ⟨xbDe, xbDa, xbDc, xbDb⟩⟩
 have hz1 := StPageRecord.size_le ⟨xaU, ⟨xaDe, xaDa, xaDc, xaDb⟩⟩
 dsimp only [StLogRecord.val, StPageRecord.val, BS.v, FR.v]
 go_enter Try.func22, Try.ntmps22
 obtain ⟨HK0, HB0⟩ := new1 w [.int .i64 xkind, .int .i64 xtxn, .int .i64 xprev, .int .i64 xpage, .int .i64 xslot, .bool xbU, .slice xbDa xbDb.length xbDc, .bool xaU, .slice xaDa xaDb.length xaDc, .int .i64 xuN, .int .i64 xnT, .slice xtXa xtXn xtXc, .slice xdYa xdYn xdYc, .slice xiMa xiMb.length xiMc] 35
 have hneg0 : ¬ (k0 + (StPageRecord.size ⟨xbU, ⟨xbDe, xbDa, xbDc, xbDb⟩⟩)) < 0 := by omega
 go_wp2_with fail
 refine (heldPageRecord_own ⟨xbU, ⟨xbDe, xbDa, xbDc, xbDb⟩⟩ (k0) _ (by omega) (by omega) (HO0.out.same HK0.out)).mono ?_
 rintro e w1 ⟨rfl, hk⟩
 have HK1 := hid (HK0.out.trans hk)
 have HB1 := hid (HB0.out.same hk)
 clear hk
 have d0_7 := HB1.out.c7
 have d0_8 := HB1.out.c8
 have d0_11 := HB1.out.c11
 have d0_12 := HB1.out.c12
 have d0_13 := HB1.out.c13
 have hneg1 : ¬ (k0 + (StPageRecord.size ⟨xbU, ⟨xbDe, xbDa, xbDc, xbDb⟩⟩) + (StPageRecord.size ⟨xaU, ⟨xaDe, xaDa, xaDc, xaDb⟩⟩)) < 0 := by omega
 go_wp2_with fail
 refine (heldPageRecord_own ⟨xaU, ⟨xaDe, xaDa, xaDc, xaDb⟩⟩ (k0 + (StPageRecord.size ⟨xbU, ⟨xbDe, xbDa, xbDc, xbDb⟩⟩)) _ (by omega) (by omega) (HO1.out.same HK1.out)).mono ?_
 rintro e w2 ⟨rfl, hk⟩
 have HK2 := hid (HK1.out.trans hk)
 have HB2 := hid (HB1.out.same hk)
 clear hk
 have d1_11 := HB2.out.c11
 have d1_12 := HB2.out.c12
 have d1_13 := HB2.out.c13
 have hneg2 : ¬ (k0 + (StPageRecord.size ⟨xbU, ⟨xbDe, xbDa, xbDc, xbDb⟩⟩) + (StPageRecord.size ⟨xaU, ⟨xaDe, xaDa, xaDc, xaDb⟩⟩) + (xtXb.length : Int)) < 0 := by omega
 go_wp2_with fail
 refine (heldTxnEntryS_own ⟨xtXe, xtXa, xtXn, xtXc, xtXb⟩ (k0 + (StPageRecord.size ⟨xbU, ⟨xbDe, xbDa, xbDc, xbDb⟩⟩) + (StPageRecord.size ⟨xaU, ⟨xaDe, xaDa, xaDc, xaDb⟩⟩)) _ (by omega) (by dsimp only; omega) (HO2.out.same HK2.out)).mono ?_
 rintro e w3 ⟨rfl, hk⟩
 have HK3 := hid (HK2.out.trans hk)
 have HB3 := hid (HB2.out.same hk)
 clear hk
 have d2_12 := HB3.out.c12
 have d2_13 := HB3.out.c13
 have hneg3 : ¬ (k0 + (StPageRecord.size ⟨xbU, ⟨xbDe, xbDa, xbDc, xbDb⟩⟩) + (StPageRecord.size ⟨xaU, ⟨xaDe, xaDa, xaDc, xaDb⟩⟩) + (xtXb.length : Int) + (xdYb.length : Int)) < 0 := by omega
 go_wp2_with fail
 refine (heldDirtyEntryS_own ⟨xdYe, xdYa, xdYn, xdYc, xdYb⟩ (k0 + (StPageRecord.size ⟨xbU, ⟨xbDe, xbDa, xbDc, xbDb⟩⟩) + (StPageRecord.size ⟨xaU, ⟨xaDe, xaDa, xaDc, xaDb⟩⟩) + (xtXb.length : Int)) _ (by omega) (by dsimp only; omega) (HO3.out.same HK3.out)).mono ?_
 rintro e w4 ⟨rfl, hk⟩
 have HK4 := hid (HK3.out.trans hk)
 have HB4 := hid (HB3.out.same hk)
 clear hk
 have d3_13 := HB4.out.c13
 have hneg4 : ¬ (k0 + (StPageRecord.size ⟨xbU, ⟨xbDe, xbDa, xbDc, xbDb⟩⟩) + (StPageRecord.size ⟨xaU, ⟨xaDe, xaDa, xaDc, xaDb⟩⟩) + (xtXb.length : Int) + (xdYb.length : Int) + (xiMb.length : Int)) < 0 := by omega
 go_wp2_with fail
 refine (heldByteS_own 0 _ xiMb.length (k0 + (StPageRecord.size ⟨xbU, ⟨xbDe, xbDa, xbDc, xbDb⟩⟩) + (StPageRecord.size ⟨xaU, ⟨xaDe, xaDa, xaDc, xaDb⟩⟩) + (xtXb.length : Int) + (xdYb.length : Int)) _ (by omega) (by omega) (by omega) (OwnL.of_one (HO4.out.same HK4.out))).mono ?_
 rintro e w5 ⟨rfl, hww⟩
 have hk : Same w4 w5 := by rw [hww]; exact Kept.refl _ _
 clear hww
 have HK5 := hid (HK4.out.trans hk)
 have HB5 := hid (HB4.out.same hk)
 clear hk
 go_wp2
 go_ret
 exact ⟨by first | rfl | (refine ret_int ?_; simp only [StLogRecord.size]; omega), HK5.out⟩
end Go.Proofs.Ytdgmecmkkddpeaa
