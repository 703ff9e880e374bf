import Derived.Test.YtaojjcnmififoaaGreatG01
import Derived.Test.YtaojjcnmififoaaGreatG31
import Derived.Deep.DeepCutAuto
namespace Go.Proofs.YtaojjcnmififoaaGreat
set_option maxRecDepth 100000
set_option maxHeartbeats 8000000
set_option linter.unusedVariables false
set_option linter.unusedSimpArgs false
open Go.RowKit Go
theorem markTxnEntryS_own (x : FR) (k0 : Int) (w : World) (h0 : 0 ≤ k0) (h1 : k0 + (x.bs.length : Int) ≤ 1125899906842624) (ha : OwnL w (x.rows 4)) :
  Calls Tryz.prog 55 #[x.v, .int .i64 k0] w fun e w' => e = .returned (.int .i64 (k0 + (x.bs.length : Int))) ∧ OwnL w' ((x.marked k0).rows 4) ∧ Kept (FootL (x.rows 4)) w w' := by
 have hl := FR.own_len ha
 have hf := FR.own_form ha
 obtain ⟨xe, xa, xn, xc, bs⟩ := x
 dsimp only [FR.v] at *
 have HA := (show Hid (OwnL w (FR.rows 4 ⟨xe, xa, xn, xc, bs⟩)) from ha)
 clear ha
 rcases hf with ⟨rfl, rfl, rfl⟩ | ⟨g, rfl, hac, hcm, ho⟩
 ·obtain rfl : bs = [] := List.length_eq_zero_iff.1 (by omega)
  clear hl
  go_enter Tryz.func55, Tryz.ntmps55
  go_wp2
  refine wp_loop_rounds 1 ?_
  rw [rounds_succ]
  go_wp2
  go_ret
  exact ⟨by simp, HA.out, Kept.refl _ _⟩
 ·have HL := (show Hid (bs.length = xn * 4) from hl)
  have HO0 := (show Hid (OwnF 4 xe w g xn xc bs) from ho)
  rw [hl] at h1 ⊢
  have hxn : k0 + (xn : Int) * 4 ≤ 1125899906842624 := by simpa using h1
  unfold maxLen at hcm
  clear ho hl HA h1
  go_enter Tryz.func55, Tryz.ntmps55
  go_wp2
  go_loopw [1, 5] (fun v i wr => ∃ k : Nat, k ≤ xn ∧ i = .int .i64 k ∧ v = .int .i64 (k0 + (k : Int) * 4) ∧ Hid (OwnF 4 xe wr g xn xc (partI k0 bs (k * 4))) ∧ Hid (Kept (fun b => b = g) w wr)) (fun _ i _ => xn - (intOf i).toNat)
  case atStart => exact ⟨0, Nat.zero_le _, rfl, by simp, by rw [Nat.zero_mul, partI_zero]; exact HO0, Kept.refl _ _⟩
  case round =>
   obtain ⟨k, hk, rfl, rfl, HO, HK⟩ := hrel
   by_cases hlt : k < xn
   ·have c0 := HO.out.cell (k * 4) (by omega)
    have f0 := HO.out.frozen (k * 4)
    have c1 := HO.out.cell (k * 4 + 1) (by omega)
    have f1 := HO.out.frozen (k * 4 + 1)
    have c2 := HO.out.cell (k * 4 + 2) (by omega)
    have f2 := HO.out.frozen (k * 4 + 2)
    have c3 := HO.out.cell (k * 4 + 3) (by omega)
    have f3 := HO.out.frozen (k * 4 + 3)
    go_wp2
    go_roundw
    case rel =>
     have hl := HL.out
     have q0 := HO.out
     have q1 := q0.stored (k * 4) (k0 + ((k * 4 : Nat) : Int))
     rw [partI_step _ _ _ (by omega)] at q1
     have q2 := q1.stored (k * 4 + 1) (k0 + ((k * 4 + 1 : Nat) : Int))
     rw [partI_step _ _ _ (by omega)] at q2
     have q3 := q2.stored (k * 4 + 2) (k0 + ((k * 4 + 2 : Nat) : Int))
     rw [partI_step _ _ _ (by omega)] at q3
     have q4 := q3.stored (k * 4 + 3) (k0 + ((k * 4 + 3 : Nat) : Int))
     rw [partI_step _ _ _ (by omega)] at q4
     refine ⟨k + 1, by omega, by go_num, by go_num, ?_, ?_⟩
     ·rw [show (k + 1) * 4 = k * 4 + 1 + 1 + 1 + 1 from by omega]; simpa [Hid, Int.add_assoc] using q4
     ·exact ((((HK.out.setCell (.inr rfl) _).setCell (.inr rfl) _).setCell (.inr rfl) _).setCell (.inr rfl) _)
    case measure => simp [intOf]; omega
   ·go_wp2
    go_ret
    obtain rfl : k = xn := by omega
    have h := HO.out
    rw [← HL.out, partI_all] at h
    refine ⟨ret_int (by push_cast; rfl), ?_, HK.out.mono (fun b _ hb => (FootL_one _ _).2 (by simp [FR.v, Value.ownBlock, hb]))⟩
    exact h.out
theorem heldTxnEntryS_own (x : FR) (k0 : Int) (w : World) (h0 : 0 ≤ k0) (h1 : k0 + (x.bs.length : Int) ≤ 1125899906842624) (ha : OwnL w ((x.marked k0).rows 4)) :
  Calls Tryz.prog 58 #[x.v, .int .i64 k0] w fun e w' => e = .returned (.int .i64 (k0 + (x.bs.length : Int))) ∧ Same w w' := by
 have hl := FR.own_len ha
 have hf := FR.own_form ha
 obtain ⟨xe, xa, xn, xc, bs⟩ := x
 dsimp only [FR.v, FR.marked] at *
 rw [marksI_length] at hl
 clear ha
 rcases hf with ⟨rfl, rfl, rfl⟩ | ⟨g, rfl, hac, hcm, ho⟩
 ·obtain rfl : bs = [] := List.length_eq_zero_iff.1 (by omega)
  clear hl
  go_enter Tryz.func58, Tryz.ntmps58
  go_wp2
  refine wp_loop_rounds 1 ?_
  rw [rounds_succ]
  go_wp2
  go_ret
  exact ⟨by simp, Kept.refl _ _⟩
 ·have hc : ∀ j, j < xn * 4 → w.cell? ⟨g, j, none⟩ = some (.int .i64 (k0 + j)) := fun j hj => by
   rw [ho.cell j hj, marksI_at _ _ _ (by omega)]
  rw [hl] at h1 ⊢
  have hxn : k0 + (xn : Int) * 4 ≤ 1125899906842624 := by simpa using h1
  unfold maxLen at hcm
  clear ho h1
  go_enter Tryz.func58, Tryz.ntmps58
  go_wp2
  go_loop [1, 5] (fun v i => ∃ k : Nat, k ≤ xn ∧ i = .int .i64 k ∧ v = .int .i64 (k0 + (k : Int) * 4)) (fun _ i => xn - (intOf i).toNat)
  case atStart => exact ⟨0, Nat.zero_le _, rfl, by simp⟩
  case round =>
   obtain ⟨k, hk, rfl, rfl⟩ := hrel
   by_cases hlt : k < xn
   ·have c0 : w.cell? ⟨g, k * 4, none⟩ = some (.int .i64 (k0 + (k : Int) * 4)) := by rw [hc (k * 4) (by omega)]; congr 2 <;> (push_cast; omega)
    have c1 : w.cell? ⟨g, k * 4 + 1, none⟩ = some (.int .i64 (k0 + (k : Int) * 4 + 1)) := by rw [hc (k * 4 + 1) (by omega)]; congr 2 <;> (push_cast; omega)
    have c2 : w.cell? ⟨g, k * 4 + 2, none⟩ = some (.int .i64 (k0 + (k : Int) * 4 + 2)) := by rw [hc (k * 4 + 2) (by omega)]; congr 2 <;> (push_cast; omega)
    have c3 : w.cell? ⟨g, k * 4 + 3, none⟩ = some (.int .i64 (k0 + (k : Int) * 4 + 3)) := by rw [hc (k * 4 + 3) (by omega)]; congr 2 <;> (push_cast; omega)
    clear hc
    go_wp2
    go_round
    case rel => exact ⟨k + 1, by omega, by go_num, by go_num⟩
    case measure => simp [intOf]; omega
   ·go_wp2
    go_ret
    obtain rfl : k = xn := by omega
    exact ⟨ret_int (by push_cast; rfl), Kept.refl _ _⟩
theorem markDirtyEntryS_own (x : FR) (k0 : Int) (w : World) (h0 : 0 ≤ k0) (h1 : k0 + (x.bs.length : Int) ≤ 1125899906842624) (ha : OwnL w (x.rows 2)) :
  Calls Tryz.prog 56 #[x.v, .int .i64 k0] w fun e w' => e = .returned (.int .i64 (k0 + (x.bs.length : Int))) ∧ OwnL w' ((x.marked k0).rows 2) ∧ Kept (FootL (x.rows 2)) w w' := by
 have hl := FR.own_len ha
 have hf := FR.own_form ha
 obtain ⟨xe, xa, xn, xc, bs⟩ := x
 dsimp only [FR.v] at *
 have HA := (show Hid (OwnL w (FR.rows 2 ⟨xe, xa, xn, xc, bs⟩)) from ha)
 clear ha
 rcases hf with ⟨rfl, rfl, rfl⟩ | ⟨g, rfl, hac, hcm, ho⟩
 ·obtain rfl : bs = [] := List.length_eq_zero_iff.1 (by omega)
  clear hl
  go_enter Tryz.func56, Tryz.ntmps56
  go_wp2
  refine wp_loop_rounds 1 ?_
  rw [rounds_succ]
  go_wp2
  go_ret
  exact ⟨by simp, HA.out, Kept.refl _ _⟩
 ·have HL := (show Hid (bs.length = xn * 2) from hl)
  have HO0 := (show Hid (OwnF 2 xe w g xn xc bs) from ho)
  rw [hl] at h1 ⊢
  have hxn : k0 + (xn : Int) * 2 ≤ 1125899906842624 := by simpa using h1
  unfold maxLen at hcm
  clear ho hl HA h1
  go_enter Tryz.func56, Tryz.ntmps56
  go_wp2
  go_loopw [1, 5] (fun v i wr => ∃ k : Nat, k ≤ xn ∧ i = .int .i64 k ∧ v = .int .i64 (k0 + (k : Int) * 2) ∧ Hid (OwnF 2 xe wr g xn xc (partI k0 bs (k * 2))) ∧ Hid (Kept (fun b => b = g) w wr)) (fun _ i _ => xn - (intOf i).toNat)
  case atStart => exact ⟨0, Nat.zero_le _, rfl, by simp, by rw [Nat.zero_mul, partI_zero]; exact HO0, Kept.refl _ _⟩
  case round =>
   obtain ⟨k, hk, rfl, rfl, HO, HK⟩ := hrel
   by_cases hlt : k < xn
   ·have c0 := HO.out.cell (k * 2) (by omega)
    have f0 := HO.out.frozen (k * 2)
    have c1 := HO.out.cell (k * 2 + 1) (by omega)
    have f1 := HO.out.frozen (k * 2 + 1)
    go_wp2
    go_roundw
    case rel =>
     have hl := HL.out
     have q0 := HO.out
     have q1 := q0.stored (k * 2) (k0 + ((k * 2 : Nat) : Int))
     rw [partI_step _ _ _ (by omega)] at q1
     have q2 := q1.stored (k * 2 + 1) (k0 + ((k * 2 + 1 : Nat) : Int))
     rw [partI_step _ _ _ (by omega)] at q2
     refine ⟨k + 1, by omega, by go_num, by go_num, ?_, ?_⟩
     ·rw [show (k + 1) * 2 = k * 2 + 1 + 1 from by omega]; simpa [Hid, Int.add_assoc] using q2
     ·exact ((HK.out.setCell (.inr rfl) _).setCell (.inr rfl) _)
    case measure => simp [intOf]; omega
   ·go_wp2
    go_ret
    obtain rfl : k = xn := by omega
    have h := HO.out
    rw [← HL.out, partI_all] at h
    refine ⟨ret_int (by push_cast; rfl), ?_, HK.out.mono (fun b _ hb => (FootL_one _ _).2 (by simp [FR.v, Value.ownBlock, hb]))⟩
    exact h.out
theorem heldDirtyEntryS_own (x : FR) (k0 : Int) (w : World) (h0 : 0 ≤ k0) (h1 : k0 + (x.bs.length : Int) ≤ 1125899906842624) (ha : OwnL w ((x.marked k0).rows 2)) :
  Calls Tryz.prog 59 #[x.v, .int .i64 k0] w fun e w' => e = .returned (.int .i64 (k0 + (x.bs.length : Int))) ∧ Same w w' := by
 have hl := FR.own_len ha
 have hf := FR.own_form ha
 obtain ⟨xe, xa, xn, xc, bs⟩ := x
 dsimp only [FR.v, FR.marked] at *
 rw [marksI_length] at hl
 clear ha
 rcases hf with ⟨rfl, rfl, rfl⟩ | ⟨g, rfl, hac, hcm, ho⟩
 ·obtain rfl : bs = [] := List.length_eq_zero_iff.1 (by omega)
  clear hl
  go_enter Tryz.func59, Tryz.ntmps59
  go_wp2
  refine wp_loop_rounds 1 ?_
  rw [rounds_succ]
  go_wp2
  go_ret
  exact ⟨by simp, Kept.refl _ _⟩
 ·have hc : ∀ j, j < xn * 2 → w.cell? ⟨g, j, none⟩ = some (.int .i64 (k0 + j)) := fun j hj => by
   rw [ho.cell j hj, marksI_at _ _ _ (by omega)]
  rw [hl] at h1 ⊢
  have hxn : k0 + (xn : Int) * 2 ≤ 1125899906842624 := by simpa using h1
  unfold maxLen at hcm
  clear ho h1
  go_enter Tryz.func59, Tryz.ntmps59
  go_wp2
  go_loop [1, 5] (fun v i => ∃ k : Nat, k ≤ xn ∧ i = .int .i64 k ∧ v = .int .i64 (k0 + (k : Int) * 2)) (fun _ i => xn - (intOf i).toNat)
  case atStart => exact ⟨0, Nat.zero_le _, rfl, by simp⟩
  case round =>
   obtain ⟨k, hk, rfl, rfl⟩ := hrel
   by_cases hlt : k < xn
   ·have c0 : w.cell? ⟨g, k * 2, none⟩ = some (.int .i64 (k0 + (k : Int) * 2)) := by rw [hc (k * 2) (by omega)]; congr 2 <;> (push_cast; omega)
    have c1 : w.cell? ⟨g, k * 2 + 1, none⟩ = some (.int .i64 (k0 + (k : Int) * 2 + 1)) := by rw [hc (k * 2 + 1) (by omega)]; congr 2 <;> (push_cast; omega)
    clear hc
    go_wp2
    go_round
    case rel => exact ⟨k + 1, by omega, by go_num, by go_num⟩
    case measure => simp [intOf]; omega
   ·go_wp2
    go_ret
    obtain rfl : k = xn := by omega
    exact ⟨ret_int (by push_cast; rfl), Kept.refl _ _⟩
def mkE (c0 : Int) (P : StLogFrame) : StLogFrame :=
 let c1 := c0 + 1 + 1 + 1 + 1 + 1 + 1 + 1 + 1 + (P.record.before.data.bs.length : Int)
 let c2 := c1 + 1 + (P.record.after.data.bs.length : Int)
 let c3 := c2 + 1 + 1 + (P.record.txns.bs.length : Int)
 let c4 := c3 + (P.record.dirty.bs.length : Int)
 (⟨(c0), (c0 + 1), ⟨(c0 + 1 + 1), (c0 + 1 + 1 + 1), (c0 + 1 + 1 + 1 + 1), (c0 + 1 + 1 + 1 + 1 + 1), (c0 + 1 + 1 + 1 + 1 + 1 + 1), ⟨((c0 + 1 + 1 + 1 + 1 + 1 + 1 + 1) % 3 == 0), P.record.before.data⟩, ⟨(c1 % 3 == 0), P.record.after.data⟩, (c2), (c2 + 1), P.record.txns, P.record.dirty, P.record.image⟩⟩ : StLogFrame)
def mkW (c0 : Int) (P : StLogFrame) : List Row :=
 let c1 := c0 + 1 + 1 + 1 + 1 + 1 + 1 + 1 + 1 + (P.record.before.data.bs.length : Int)
 let c2 := c1 + 1 + (P.record.after.data.bs.length : Int)
 let c3 := c2 + 1 + 1 + (P.record.txns.bs.length : Int)
 let c4 := c3 + (P.record.dirty.bs.length : Int)
 ((P.record.before.data.marked (c0 + 1 + 1 + 1 + 1 + 1 + 1 + 1 + 1)).rows) ++ (((P.record.after.data.marked (c1 + 1)).rows) ++ (((P.record.txns.marked (c2 + 1 + 1)).rows 4) ++ (((P.record.dirty.marked (c3)).rows 2) ++ (((P.record.image.marked (c4)).rows)))))
def mkS (c : Int) : List StLogFrame → List StLogFrame
 | [] => []
 | p :: ps => mkE c p :: mkS (c + 11 + p.size) ps
def mkRows (c : Int) : List StLogFrame → List Row
 | [] => []
 | p :: ps => mkW c p ++ mkRows (c + 11 + p.size) ps
theorem mkS_append (c : Int) (ps qs : List StLogFrame) : mkS c (ps ++ qs) = mkS c ps ++ mkS (c + mzFr ps) qs := by
 induction ps generalizing c with
 | nil => simp [mkS, mzFr]
 | cons p ps ih => simp only [List.cons_append, mkS, mzFr, ih, Int.add_assoc]
theorem mkRows_append (c : Int) (ps qs : List StLogFrame) : mkRows c (ps ++ qs) = mkRows c ps ++ mkRows (c + mzFr ps) qs := by
 induction ps generalizing c with
 | nil => simp [mkRows, mzFr]
 | cons p ps ih => simp only [List.cons_append, mkRows, mzFr, ih, Int.add_assoc, List.append_assoc]
theorem mkS_length (c : Int) (ps : List StLogFrame) : (mkS c ps).length = ps.length := by
 induction ps generalizing c with
 | nil => rfl
 | cons p ps ih => simp [mkS, ih]
theorem mkS_step (c : Int) (ps : List StLogFrame) (k : Nat) (h : k < ps.length) : mkS c (ps.take (k + 1)) = mkS c (ps.take k) ++ [mkE (c + mzFr (ps.take k)) ps[k]] := by
 rw [List.take_succ_eq_append_getElem h, mkS_append]
 rfl
theorem mkRows_step (c : Int) (ps : List StLogFrame) (k : Nat) (h : k < ps.length) : mkRows c (ps.take (k + 1)) = mkRows c (ps.take k) ++ mkW (c + mzFr (ps.take k)) ps[k] := by
 rw [List.take_succ_eq_append_getElem h, mkRows_append]
 simp [mkRows]
theorem mkS_at (c : Int) (ps : List StLogFrame) (k : Nat) (h : k < ps.length) : (mkS c ps)[k]'(by rw [mkS_length]; exact h) = mkE (c + mzFr (ps.take k)) ps[k] := by
 have e : mkS c ps = mkS c (ps.take k) ++ mkS (c + mzFr (ps.take k)) (ps.drop k) := by rw [← mkS_append, List.take_append_drop]
 have hd := List.drop_eq_getElem_cons h
 have hl : (mkS c (ps.take k)).length = k := by rw [mkS_length, List.length_take]; omega
 have e2 : (mkS c ps)[k]? = some (mkE (c + mzFr (ps.take k)) ps[k]) := by
  rw [e, List.getElem?_append_right (by omega), hl, Nat.sub_self, hd]
  rfl
 exact List.getElem_eq_iff _ |>.2 e2
theorem mkRows_at {w : World} {c : Int} {ps : List StLogFrame} (k : Nat) (h : k < ps.length) (ho : OwnL w (mkRows c ps)) : OwnL w (mkW (c + mzFr (ps.take k)) ps[k]) := by
 have e : mkRows c ps = mkRows c (ps.take k) ++ (mkW (c + mzFr (ps.take k)) ps[k] ++ mkRows (c + mzFr (ps.take k) + 11 + ps[k].size) (ps.drop (k + 1))) := by
  have h2 := mkRows_append c (ps.take k) (ps.drop k)
  rw [List.take_append_drop, List.drop_eq_getElem_cons h] at h2
  exact h2
 rw [e] at ho
 exact ho.right.left
theorem OwnL.midMark {w w' : World} {A rs rs' B : List Row} (h : OwnL w (A ++ (rs ++ B))) (h' : OwnL w' rs') (hf : ∀ b, FootL rs' b → FootL rs b) (hk : Kept (FootL rs) w w') : OwnL w' ((A ++ rs') ++ B) := by
 have hA := h.left.kept hk (fun b hb hr => h.cut b hb ((FootL_append _ _ _).2 (.inl hr)))
 have hB := h.right.right.kept hk (fun b hb hr => h.right.cut b hr hb)
 refine (hA.append h' (fun b hb e => h.cut b hb ((FootL_append _ _ _).2 (.inl (hf b e))))).append hB ?_
 intro b hb e
 rcases (FootL_append _ _ _).1 hb with hb | hb
 ·exact h.cut b hb ((FootL_append _ _ _).2 (.inr e))
 ·exact h.right.cut b (hf b hb) e
theorem footMid {A rs rs' B : List Row} (hf : ∀ b, FootL rs' b → FootL rs b) (b : Nat) (h : FootL ((A ++ rs') ++ B) b) : FootL (A ++ (rs ++ B)) b := by
 rcases (FootL_append _ _ _).1 h with h | h
 ·rcases (FootL_append _ _ _).1 h with h | h
  ·exact (FootL_append _ _ _).2 (.inl h)
  ·exact (FootL_append _ _ _).2 (.inr ((FootL_append _ _ _).2 (.inl (hf b h))))
 ·exact (FootL_append _ _ _).2 (.inr ((FootL_append _ _ _).2 (.inr h)))
theorem footIn {A rs B : List Row} (b : Nat) (h : FootL rs b) : FootL (A ++ (rs ++ B)) b := (FootL_append _ _ _).2 (.inr ((FootL_append _ _ _).2 (.inl h)))
structure MkFr (w : World) (v : Value) (ps : List StLogFrame) (c : Int) : Prop where
 own : OwnR kFr 0 55 5 w v (mkS c ps)
 rows : OwnL w (mkRows c ps)
 foot : ∀ b, FootL (mkRows c ps) b → FootL (frRows ps) b
theorem MkFr.kept {R : Nat → Prop} {w w' : World} {v : Value} {ps : List StLogFrame} {c : Int} (h : MkFr w v ps c) (hk : Kept R w w') (hr : ∀ b, footFr v ps b → ¬ R b) : MkFr w' v ps c :=
 ⟨h.own.kept hk (fun b hb => hr b (.inl (footFr_head hb))), h.rows.kept hk (fun b hb => hr b (.inr (h.foot b hb))), h.foot⟩
theorem MkFr.same {w w' : World} {v : Value} {ps : List StLogFrame} {c : Int} (h : MkFr w v ps c) (hk : Same w w') : MkFr w' v ps c := h.kept hk (fun _ _ => id)
theorem markFrames_own (va : Value) (ps : List StLogFrame) (k0 : Int) (w : World) (h0 : 0 ≤ k0) (h1 : k0 + mzFr ps ≤ 1125899906842624) (hn : ps.length ≤ 1125899906842624) (ha : OwnFr w va ps) :
  Calls Tryz.prog 32 #[va, .int .i64 k0] w fun e w' => e = .returned (.int .i64 (k0 + mzFr ps)) ∧ MkFr w' va ps k0 ∧ Kept (footFr va ps) w w' := by
 by_cases hz : ps.length = 0
 ·obtain rfl : ps = [] := List.length_eq_zero_iff.1 hz
  have HA0 := hid ha.own
  obtain ⟨aa, ca, rfl⟩ : ∃ aa ca, va = .slice aa 0 ca := by rcases ha.own.form with ⟨rfl, _⟩ | ⟨g, cap, rfl, _⟩ <;> exact ⟨_, _, rfl⟩
  clear ha hn hz h1
  go_enter Tryz.func32, Tryz.ntmps32
  go_wp2
  refine wp_loop_rounds 1 ?_
  rw [rounds_succ]
  go_wp2
  go_ret
  exact ⟨by simp [mzFr], ⟨HA0.out, OwnL.nil _, fun b hb => hb⟩, Kept.refl _ _⟩
 ·obtain ⟨g, cap, rfl, hg⟩ : ∃ g cap, va = .slice (some ⟨g, 0, none⟩) ps.length cap ∧ g < w.heap.size := by
   rcases ha.own.form with ⟨_, rfl⟩ | ⟨g, cap, h, _, h2, _⟩
   ·simp at hz
   ·exact ⟨g, cap, h, h2⟩
  have HG := (show Hid (∀ b, FootL (frRows ps) b → ¬ b = g) from fun b hb e => ha.out b (by rw [e]; rfl) hb)
  have HA0 := hid ha
  have H1 := hid h1
  clear ha h1
  generalize hl : ps.length = len at *
  have HL : Hid (ps.length = len) := hl
  clear hl
  go_enter Tryz.func32, Tryz.ntmps32
  go_wp2
  go_loopw [1, 5] (fun v i wr => ∃ (k : Nat) (c : Int), k ≤ len ∧ i = .int .i64 k ∧ v = .int .i64 c ∧ Hid (c = k0 + mzFr (ps.take k)) ∧ Hid (OwnR kFr 0 55 5 wr (.slice (some ⟨g, 0, none⟩) len cap) (mkS k0 (ps.take k) ++ ps.drop k)) ∧ Hid (OwnL wr (mkRows k0 (ps.take k) ++ frRows (ps.drop k))) ∧ Hid (∀ b, FootL (mkRows k0 (ps.take k) ++ frRows (ps.drop k)) b → FootL (frRows ps) b) ∧ Hid (Kept (footFr (.slice (some ⟨g, 0, none⟩) len cap) ps) w wr)) (fun _ i _ => len - (intOf i).toNat)
  case atStart => exact ⟨0, k0, Nat.zero_le _, rfl, rfl, by simp [Hid, mzFr], by simpa [Hid, mkS] using HA0.out.own, by simpa [Hid, mkRows] using HA0.out.rows, by simp [Hid, mkRows], Kept.refl _ _⟩
  case round =>
   obtain ⟨k, c0, hk, rfl, rfl, HC, HO, HR, HU, HK0⟩ := hrel
   by_cases hlt : k < len
   ·have hlp : k < ps.length := by rw [HL.out]; exact hlt
    have hst := mzFr_step ps k hlp
    have hle := mzFr_take_le ps (k + 1)
    have hge := mzFr_nonneg (ps.take k)
    have hdr := List.drop_eq_getElem_cons hlp
    have hms := mkS_step k0 ps k hlp
    have hmr := mkRows_step k0 ps k hlp
    rw [← HC.out] at hms hmr
    obtain ⟨P, hP⟩ : ∃ P, ps[k] = P := ⟨_, rfl⟩
    rw [hP] at hst hdr hms hmr
    obtain ⟨qs, hqs⟩ : ∃ z, mkS k0 (ps.take k) = z := ⟨_, rfl⟩
    obtain ⟨Q, hQ⟩ : ∃ z, mkRows k0 (ps.take k) = z := ⟨_, rfl⟩
    have HQL : Hid (qs.length = k) := by unfold Hid; rw [← hqs, mkS_length, List.length_take]; omega
    rw [hqs] at HO hms
    rw [hQ] at HR HU hmr
    have HMS := hid hms
    have HMR := hid hmr
    have hc0 : 0 ≤ c0 := by have := HC.out; omega
    have hsz : P.size = (P.record.before.data.bs.length : Int) + (P.record.after.data.bs.length : Int) + (P.record.txns.bs.length : Int) + (P.record.dirty.bs.length : Int) + (P.record.image.bs.length : Int) := rfl
    have hc9 : c0 + 11 + P.size ≤ 1125899906842624 := by have := HC.out; have := H1.out; omega
    rw [hsz] at hc9
    have hl0 := hc0
    have hu0 : c0 + 11 + (P.record.before.data.bs.length : Int) + (P.record.after.data.bs.length : Int) + (P.record.txns.bs.length : Int) + (P.record.dirty.bs.length : Int) + (P.record.image.bs.length : Int) ≤ 1125899906842624 := by omega
    have HST := (show Hid (k0 + mzFr (ps.take (k + 1)) = c0 + 11 + ((P.record.before.data.bs.length : Int) + (P.record.after.data.bs.length : Int) + (P.record.txns.bs.length : Int) + (P.record.dirty.bs.length : Int) + (P.record.image.bs.length : Int))) from by have := HC.out; rw [← hsz]; show k0 + mzFr (ps.take (k + 1)) = c0 + 11 + P.size; omega)
    have hrw : frRows (ps.drop k) = P.record.before.data.rows ++ (P.record.after.data.rows ++ ((P.record.txns.rows 4) ++ ((P.record.dirty.rows 2) ++ (P.record.image.rows ++ (frRows (ps.drop (k + 1))))))) := by
     rw [hdr, frRows_cons]
     simp only [StLogFrame.rows, StLogRecord.rows, StPageRecord.rows, List.append_assoc]
    have HU0 := (show Hid (∀ b, FootL (Q ++ (P.record.before.data.rows ++ (P.record.after.data.rows ++ ((P.record.txns.rows 4) ++ ((P.record.dirty.rows 2) ++ (P.record.image.rows ++ (frRows (ps.drop (k + 1))))))))) b → FootL (frRows ps) b) from by have h := HU.out; rw [hrw] at h; exact h)
    have HR0 := (show Hid (OwnL wr (Q ++ (P.record.before.data.rows ++ (P.record.after.data.rows ++ ((P.record.txns.rows 4) ++ ((P.record.dirty.rows 2) ++ (P.record.image.rows ++ (frRows (ps.drop (k + 1)))))))))) from by have h := HR.out; rw [hrw] at h; exact h)
    have HO0 := (show Hid (OwnR kFr 0 55 5 wr (.slice (some ⟨g, 0, none⟩) len cap) (qs ++ (⟨P.lsn, P.epoch, ⟨P.record.kind, P.record.txn, P.record.prev, P.record.page, P.record.slot, ⟨P.record.before.used, P.record.before.data⟩, ⟨P.record.after.used, P.record.after.data⟩, P.record.uN, P.record.nT, P.record.txns, P.record.dirty, P.record.image⟩⟩ : StLogFrame) :: ps.drop (k + 1))) from by have h := HO.out; rw [hdr] at h; exact h)
    have HLN : ∀ e : StLogFrame, Hid (len = (qs ++ e :: ps.drop (k + 1)).length) := fun e => by have hl := HL.out; have h2 := HQL.out; simp [Hid]; omega
    clear hst hle hge hdr hP hsz HO hc0 hc9 hrw HU hms hmr hqs hQ
    have HR := HR0
    have HK := HK0
    clear HR0
    have z : wr.cell? ⟨g, k * 16, none⟩ = some (.int .i64 P.lsn) := HO0.out.cellMid (HLN _).out 0 (by decide) _ (by rw [HQL.out]; rfl)
    have zf := HO0.out.frozen (HLN _).out (k * 16)
    go_upto_region 5 with fail
    have HO1 := (show Hid (OwnR kFr 0 55 5 (wr.setCell ⟨g, k * 16, none⟩ (.int .i64 (c0))) (.slice (some ⟨g, 0, none⟩) len cap) (qs ++ (⟨(c0), P.epoch, ⟨P.record.kind, P.record.txn, P.record.prev, P.record.page, P.record.slot, ⟨P.record.before.used, P.record.before.data⟩, ⟨P.record.after.used, P.record.after.data⟩, P.record.uN, P.record.nT, P.record.txns, P.record.dirty, P.record.image⟩⟩ : StLogFrame) :: ps.drop (k + 1))) from HO0.out.set (p' := (⟨(c0), P.epoch, ⟨P.record.kind, P.record.txn, P.record.prev, P.record.page, P.record.slot, ⟨P.record.before.used, P.record.before.data⟩, ⟨P.record.after.used, P.record.after.data⟩, P.record.uN, P.record.nT, P.record.txns, P.record.dirty, P.record.image⟩⟩ : StLogFrame)) (HLN _).out 0 (.int .i64 (c0)) (by decide) rfl rfl rfl _ (by rw [HQL.out]; rfl))
    have HK := (show Hid (Kept (footFr (.slice (some ⟨g, 0, none⟩) len cap) ps) w (wr.setCell ⟨g, k * 16, none⟩ (.int .i64 (c0)))) from HK.out.setCell (p := ⟨g, k * 16, none⟩) (.inr (.inl rfl)) _)
    have HR := (show Hid (OwnL (wr.setCell ⟨g, k * 16, none⟩ (.int .i64 (c0))) (Q ++ (P.record.before.data.rows ++ (P.record.after.data.rows ++ ((P.record.txns.rows 4) ++ ((P.record.dirty.rows 2) ++ (P.record.image.rows ++ (frRows (ps.drop (k + 1)))))))))) from OwnL.kept (R := fun b => b = g) HR.out (Kept.setCell (R := fun b => b = g) (Kept.refl _ _) (p := ⟨g, k * 16, none⟩) (.inr rfl) _) (fun b hb => HG.out b (HU0.out b hb)))
    generalize (wr.setCell ⟨g, k * 16, none⟩ (.int .i64 (c0))) = y0 at HO1 HK HR ⊢
    clear z zf HO0
    have z : y0.cell? ⟨g, k * 16 + 1, none⟩ = some (.int .i64 P.epoch) := HO1.out.cellMid (HLN _).out 1 (by decide) _ (by rw [HQL.out]; rfl)
    have zf := HO1.out.frozen (HLN _).out (k * 16 + 1)
    go_upto_region 7 with fail
    have HO2 := (show Hid (OwnR kFr 0 55 5 (y0.setCell ⟨g, k * 16 + 1, none⟩ (.int .i64 (c0 + 1))) (.slice (some ⟨g, 0, none⟩) len cap) (qs ++ (⟨(c0), (c0 + 1), ⟨P.record.kind, P.record.txn, P.record.prev, P.record.page, P.record.slot, ⟨P.record.before.used, P.record.before.data⟩, ⟨P.record.after.used, P.record.after.data⟩, P.record.uN, P.record.nT, P.record.txns, P.record.dirty, P.record.image⟩⟩ : StLogFrame) :: ps.drop (k + 1))) from HO1.out.set (p' := (⟨(c0), (c0 + 1), ⟨P.record.kind, P.record.txn, P.record.prev, P.record.page, P.record.slot, ⟨P.record.before.used, P.record.before.data⟩, ⟨P.record.after.used, P.record.after.data⟩, P.record.uN, P.record.nT, P.record.txns, P.record.dirty, P.record.image⟩⟩ : StLogFrame)) (HLN _).out 1 (.int .i64 (c0 + 1)) (by decide) rfl rfl rfl _ (by rw [HQL.out]; rfl))
    have HK := (show Hid (Kept (footFr (.slice (some ⟨g, 0, none⟩) len cap) ps) w (y0.setCell ⟨g, k * 16 + 1, none⟩ (.int .i64 (c0 + 1)))) from HK.out.setCell (p := ⟨g, k * 16 + 1, none⟩) (.inr (.inl rfl)) _)
    have HR := (show Hid (OwnL (y0.setCell ⟨g, k * 16 + 1, none⟩ (.int .i64 (c0 + 1))) (Q ++ (P.record.before.data.rows ++ (P.record.after.data.rows ++ ((P.record.txns.rows 4) ++ ((P.record.dirty.rows 2) ++ (P.record.image.rows ++ (frRows (ps.drop (k + 1)))))))))) from OwnL.kept (R := fun b => b = g) HR.out (Kept.setCell (R := fun b => b = g) (Kept.refl _ _) (p := ⟨g, k * 16 + 1, none⟩) (.inr rfl) _) (fun b hb => HG.out b (HU0.out b hb)))
    generalize (y0.setCell ⟨g, k * 16 + 1, none⟩ (.int .i64 (c0 + 1))) = y1 at HO2 HK HR ⊢
    clear z zf HO1
    have z : y1.cell? ⟨g, k * 16 + 2, none⟩ = some (.int .i64 P.record.kind) := HO2.out.cellMid (HLN _).out 2 (by decide) _ (by rw [HQL.out]; rfl)
    have zf := HO2.out.frozen (HLN _).out (k * 16 + 2)
    go_upto_region 9 with fail
    have HO3 := (show Hid (OwnR kFr 0 55 5 (y1.setCell ⟨g, k * 16 + 2, none⟩ (.int .i64 (c0 + 1 + 1))) (.slice (some ⟨g, 0, none⟩) len cap) (qs ++ (⟨(c0), (c0 + 1), ⟨(c0 + 1 + 1), P.record.txn, P.record.prev, P.record.page, P.record.slot, ⟨P.record.before.used, P.record.before.data⟩, ⟨P.record.after.used, P.record.after.data⟩, P.record.uN, P.record.nT, P.record.txns, P.record.dirty, P.record.image⟩⟩ : StLogFrame) :: ps.drop (k + 1))) from HO2.out.set (p' := (⟨(c0), (c0 + 1), ⟨(c0 + 1 + 1), P.record.txn, P.record.prev, P.record.page, P.record.slot, ⟨P.record.before.used, P.record.before.data⟩, ⟨P.record.after.used, P.record.after.data⟩, P.record.uN, P.record.nT, P.record.txns, P.record.dirty, P.record.image⟩⟩ : StLogFrame)) (HLN _).out 2 (.int .i64 (c0 + 1 + 1)) (by decide) rfl rfl rfl _ (by rw [HQL.out]; rfl))
    have HK := (show Hid (Kept (footFr (.slice (some ⟨g, 0, none⟩) len cap) ps) w (y1.setCell ⟨g, k * 16 + 2, none⟩ (.int .i64 (c0 + 1 + 1)))) from HK.out.setCell (p := ⟨g, k * 16 + 2, none⟩) (.inr (.inl rfl)) _)
    have HR := (show Hid (OwnL (y1.setCell ⟨g, k * 16 + 2, none⟩ (.int .i64 (c0 + 1 + 1))) (Q ++ (P.record.before.data.rows ++ (P.record.after.data.rows ++ ((P.record.txns.rows 4) ++ ((P.record.dirty.rows 2) ++ (P.record.image.rows ++ (frRows (ps.drop (k + 1)))))))))) from OwnL.kept (R := fun b => b = g) HR.out (Kept.setCell (R := fun b => b = g) (Kept.refl _ _) (p := ⟨g, k * 16 + 2, none⟩) (.inr rfl) _) (fun b hb => HG.out b (HU0.out b hb)))
    generalize (y1.setCell ⟨g, k * 16 + 2, none⟩ (.int .i64 (c0 + 1 + 1))) = y2 at HO3 HK HR ⊢
    clear z zf HO2
    have z : y2.cell? ⟨g, k * 16 + 3, none⟩ = some (.int .i64 P.record.txn) := HO3.out.cellMid (HLN _).out 3 (by decide) _ (by rw [HQL.out]; rfl)
    have zf := HO3.out.frozen (HLN _).out (k * 16 + 3)
    go_upto_region 11 with fail
    have HO4 := (show Hid (OwnR kFr 0 55 5 (y2.setCell ⟨g, k * 16 + 3, none⟩ (.int .i64 (c0 + 1 + 1 + 1))) (.slice (some ⟨g, 0, none⟩) len cap) (qs ++ (⟨(c0), (c0 + 1), ⟨(c0 + 1 + 1), (c0 + 1 + 1 + 1), P.record.prev, P.record.page, P.record.slot, ⟨P.record.before.used, P.record.before.data⟩, ⟨P.record.after.used, P.record.after.data⟩, P.record.uN, P.record.nT, P.record.txns, P.record.dirty, P.record.image⟩⟩ : StLogFrame) :: ps.drop (k + 1))) from HO3.out.set (p' := (⟨(c0), (c0 + 1), ⟨(c0 + 1 + 1), (c0 + 1 + 1 + 1), P.record.prev, P.record.page, P.record.slot, ⟨P.record.before.used, P.record.before.data⟩, ⟨P.record.after.used, P.record.after.data⟩, P.record.uN, P.record.nT, P.record.txns, P.record.dirty, P.record.image⟩⟩ : StLogFrame)) (HLN _).out 3 (.int .i64 (c0 + 1 + 1 + 1)) (by decide) rfl rfl rfl _ (by rw [HQL.out]; rfl))
    have HK := (show Hid (Kept (footFr (.slice (some ⟨g, 0, none⟩) len cap) ps) w (y2.setCell ⟨g, k * 16 + 3, none⟩ (.int .i64 (c0 + 1 + 1 + 1)))) from HK.out.setCell (p := ⟨g, k * 16 + 3, none⟩) (.inr (.inl rfl)) _)
    have HR := (show Hid (OwnL (y2.setCell ⟨g, k * 16 + 3, none⟩ (.int .i64 (c0 + 1 + 1 + 1))) (Q ++ (P.record.before.data.rows ++ (P.record.after.data.rows ++ ((P.record.txns.rows 4) ++ ((P.record.dirty.rows 2) ++ (P.record.image.rows ++ (frRows (ps.drop (k + 1)))))))))) from OwnL.kept (R := fun b => b = g) HR.out (Kept.setCell (R := fun b => b = g) (Kept.refl _ _) (p := ⟨g, k * 16 + 3, none⟩) (.inr rfl) _) (fun b hb => HG.out b (HU0.out b hb)))
    generalize (y2.setCell ⟨g, k * 16 + 3, none⟩ (.int .i64 (c0 + 1 + 1 + 1))) = y3 at HO4 HK HR ⊢
    clear z zf HO3
    have z : y3.cell? ⟨g, k * 16 + 4, none⟩ = some (.int .i64 P.record.prev) := HO4.out.cellMid (HLN _).out 4 (by decide) _ (by rw [HQL.out]; rfl)
    have zf := HO4.out.frozen (HLN _).out (k * 16 + 4)
    go_upto_region 13 with fail
    have HO5 := (show Hid (OwnR kFr 0 55 5 (y3.setCell ⟨g, k * 16 + 4, none⟩ (.int .i64 (c0 + 1 + 1 + 1 + 1))) (.slice (some ⟨g, 0, none⟩) len cap) (qs ++ (⟨(c0), (c0 + 1), ⟨(c0 + 1 + 1), (c0 + 1 + 1 + 1), (c0 + 1 + 1 + 1 + 1), P.record.page, P.record.slot, ⟨P.record.before.used, P.record.before.data⟩, ⟨P.record.after.used, P.record.after.data⟩, P.record.uN, P.record.nT, P.record.txns, P.record.dirty, P.record.image⟩⟩ : StLogFrame) :: ps.drop (k + 1))) from HO4.out.set (p' := (⟨(c0), (c0 + 1), ⟨(c0 + 1 + 1), (c0 + 1 + 1 + 1), (c0 + 1 + 1 + 1 + 1), P.record.page, P.record.slot, ⟨P.record.before.used, P.record.before.data⟩, ⟨P.record.after.used, P.record.after.data⟩, P.record.uN, P.record.nT, P.record.txns, P.record.dirty, P.record.image⟩⟩ : StLogFrame)) (HLN _).out 4 (.int .i64 (c0 + 1 + 1 + 1 + 1)) (by decide) rfl rfl rfl _ (by rw [HQL.out]; rfl))
    have HK := (show Hid (Kept (footFr (.slice (some ⟨g, 0, none⟩) len cap) ps) w (y3.setCell ⟨g, k * 16 + 4, none⟩ (.int .i64 (c0 + 1 + 1 + 1 + 1)))) from HK.out.setCell (p := ⟨g, k * 16 + 4, none⟩) (.inr (.inl rfl)) _)
    have HR := (show Hid (OwnL (y3.setCell ⟨g, k * 16 + 4, none⟩ (.int .i64 (c0 + 1 + 1 + 1 + 1))) (Q ++ (P.record.before.data.rows ++ (P.record.after.data.rows ++ ((P.record.txns.rows 4) ++ ((P.record.dirty.rows 2) ++ (P.record.image.rows ++ (frRows (ps.drop (k + 1)))))))))) from OwnL.kept (R := fun b => b = g) HR.out (Kept.setCell (R := fun b => b = g) (Kept.refl _ _) (p := ⟨g, k * 16 + 4, none⟩) (.inr rfl) _) (fun b hb => HG.out b (HU0.out b hb)))
    generalize (y3.setCell ⟨g, k * 16 + 4, none⟩ (.int .i64 (c0 + 1 + 1 + 1 + 1))) = y4 at HO5 HK HR ⊢
    clear z zf HO4
    have z : y4.cell? ⟨g, k * 16 + 5, none⟩ = some (.int .i64 P.record.page) := HO5.out.cellMid (HLN _).out 5 (by decide) _ (by rw [HQL.out]; rfl)
    have zf := HO5.out.frozen (HLN _).out (k * 16 + 5)
    go_upto_region 15 with fail
    have HO6 := (show Hid (OwnR kFr 0 55 5 (y4.setCell ⟨g, k * 16 + 5, none⟩ (.int .i64 (c0 + 1 + 1 + 1 + 1 + 1))) (.slice (some ⟨g, 0, none⟩) len cap) (qs ++ (⟨(c0), (c0 + 1), ⟨(c0 + 1 + 1), (c0 + 1 + 1 + 1), (c0 + 1 + 1 + 1 + 1), (c0 + 1 + 1 + 1 + 1 + 1), P.record.slot, ⟨P.record.before.used, P.record.before.data⟩, ⟨P.record.after.used, P.record.after.data⟩, P.record.uN, P.record.nT, P.record.txns, P.record.dirty, P.record.image⟩⟩ : StLogFrame) :: ps.drop (k + 1))) from HO5.out.set (p' := (⟨(c0), (c0 + 1), ⟨(c0 + 1 + 1), (c0 + 1 + 1 + 1), (c0 + 1 + 1 + 1 + 1), (c0 + 1 + 1 + 1 + 1 + 1), P.record.slot, ⟨P.record.before.used, P.record.before.data⟩, ⟨P.record.after.used, P.record.after.data⟩, P.record.uN, P.record.nT, P.record.txns, P.record.dirty, P.record.image⟩⟩ : StLogFrame)) (HLN _).out 5 (.int .i64 (c0 + 1 + 1 + 1 + 1 + 1)) (by decide) rfl rfl rfl _ (by rw [HQL.out]; rfl))
    have HK := (show Hid (Kept (footFr (.slice (some ⟨g, 0, none⟩) len cap) ps) w (y4.setCell ⟨g, k * 16 + 5, none⟩ (.int .i64 (c0 + 1 + 1 + 1 + 1 + 1)))) from HK.out.setCell (p := ⟨g, k * 16 + 5, none⟩) (.inr (.inl rfl)) _)
    have HR := (show Hid (OwnL (y4.setCell ⟨g, k * 16 + 5, none⟩ (.int .i64 (c0 + 1 + 1 + 1 + 1 + 1))) (Q ++ (P.record.before.data.rows ++ (P.record.after.data.rows ++ ((P.record.txns.rows 4) ++ ((P.record.dirty.rows 2) ++ (P.record.image.rows ++ (frRows (ps.drop (k + 1)))))))))) from OwnL.kept (R := fun b => b = g) HR.out (Kept.setCell (R := fun b => b = g) (Kept.refl _ _) (p := ⟨g, k * 16 + 5, none⟩) (.inr rfl) _) (fun b hb => HG.out b (HU0.out b hb)))
    generalize (y4.setCell ⟨g, k * 16 + 5, none⟩ (.int .i64 (c0 + 1 + 1 + 1 + 1 + 1))) = y5 at HO6 HK HR ⊢
    clear z zf HO5
    have z : y5.cell? ⟨g, k * 16 + 6, none⟩ = some (.int .i64 P.record.slot) := HO6.out.cellMid (HLN _).out 6 (by decide) _ (by rw [HQL.out]; rfl)
    have zf := HO6.out.frozen (HLN _).out (k * 16 + 6)
    go_upto_region 17 with fail
    have HO7 := (show Hid (OwnR kFr 0 55 5 (y5.setCell ⟨g, k * 16 + 6, none⟩ (.int .i64 (c0 + 1 + 1 + 1 + 1 + 1 + 1))) (.slice (some ⟨g, 0, none⟩) len cap) (qs ++ (⟨(c0), (c0 + 1), ⟨(c0 + 1 + 1), (c0 + 1 + 1 + 1), (c0 + 1 + 1 + 1 + 1), (c0 + 1 + 1 + 1 + 1 + 1), (c0 + 1 + 1 + 1 + 1 + 1 + 1), ⟨P.record.before.used, P.record.before.data⟩, ⟨P.record.after.used, P.record.after.data⟩, P.record.uN, P.record.nT, P.record.txns, P.record.dirty, P.record.image⟩⟩ : StLogFrame) :: ps.drop (k + 1))) from HO6.out.set (p' := (⟨(c0), (c0 + 1), ⟨(c0 + 1 + 1), (c0 + 1 + 1 + 1), (c0 + 1 + 1 + 1 + 1), (c0 + 1 + 1 + 1 + 1 + 1), (c0 + 1 + 1 + 1 + 1 + 1 + 1), ⟨P.record.before.used, P.record.before.data⟩, ⟨P.record.after.used, P.record.after.data⟩, P.record.uN, P.record.nT, P.record.txns, P.record.dirty, P.record.image⟩⟩ : StLogFrame)) (HLN _).out 6 (.int .i64 (c0 + 1 + 1 + 1 + 1 + 1 + 1)) (by decide) rfl rfl rfl _ (by rw [HQL.out]; rfl))
    have HK := (show Hid (Kept (footFr (.slice (some ⟨g, 0, none⟩) len cap) ps) w (y5.setCell ⟨g, k * 16 + 6, none⟩ (.int .i64 (c0 + 1 + 1 + 1 + 1 + 1 + 1)))) from HK.out.setCell (p := ⟨g, k * 16 + 6, none⟩) (.inr (.inl rfl)) _)
    have HR := (show Hid (OwnL (y5.setCell ⟨g, k * 16 + 6, none⟩ (.int .i64 (c0 + 1 + 1 + 1 + 1 + 1 + 1))) (Q ++ (P.record.before.data.rows ++ (P.record.after.data.rows ++ ((P.record.txns.rows 4) ++ ((P.record.dirty.rows 2) ++ (P.record.image.rows ++ (frRows (ps.drop (k + 1)))))))))) from OwnL.kept (R := fun b => b = g) HR.out (Kept.setCell (R := fun b => b = g) (Kept.refl _ _) (p := ⟨g, k * 16 + 6, none⟩) (.inr rfl) _) (fun b hb => HG.out b (HU0.out b hb)))
    generalize (y5.setCell ⟨g, k * 16 + 6, none⟩ (.int .i64 (c0 + 1 + 1 + 1 + 1 + 1 + 1))) = y6 at HO7 HK HR ⊢
    clear z zf HO6
    have z : y6.cell? ⟨g, k * 16 + 7, none⟩ = some (.bool P.record.before.used) := HO7.out.cellMid (HLN _).out 7 (by decide) _ (by rw [HQL.out]; rfl)
    have zf := HO7.out.frozen (HLN _).out (k * 16 + 7)
    go_upto_region 19 with fail
    have HO8 := (show Hid (OwnR kFr 0 55 5 (y6.setCell ⟨g, k * 16 + 7, none⟩ (.bool ((c0 + 1 + 1 + 1 + 1 + 1 + 1 + 1) % 3 == 0))) (.slice (some ⟨g, 0, none⟩) len cap) (qs ++ (⟨(c0), (c0 + 1), ⟨(c0 + 1 + 1), (c0 + 1 + 1 + 1), (c0 + 1 + 1 + 1 + 1), (c0 + 1 + 1 + 1 + 1 + 1), (c0 + 1 + 1 + 1 + 1 + 1 + 1), ⟨((c0 + 1 + 1 + 1 + 1 + 1 + 1 + 1) % 3 == 0), P.record.before.data⟩, ⟨P.record.after.used, P.record.after.data⟩, P.record.uN, P.record.nT, P.record.txns, P.record.dirty, P.record.image⟩⟩ : StLogFrame) :: ps.drop (k + 1))) from HO7.out.set (p' := (⟨(c0), (c0 + 1), ⟨(c0 + 1 + 1), (c0 + 1 + 1 + 1), (c0 + 1 + 1 + 1 + 1), (c0 + 1 + 1 + 1 + 1 + 1), (c0 + 1 + 1 + 1 + 1 + 1 + 1), ⟨((c0 + 1 + 1 + 1 + 1 + 1 + 1 + 1) % 3 == 0), P.record.before.data⟩, ⟨P.record.after.used, P.record.after.data⟩, P.record.uN, P.record.nT, P.record.txns, P.record.dirty, P.record.image⟩⟩ : StLogFrame)) (HLN _).out 7 (.bool ((c0 + 1 + 1 + 1 + 1 + 1 + 1 + 1) % 3 == 0)) (by decide) rfl rfl rfl _ (by rw [HQL.out]; rfl))
    have HK := (show Hid (Kept (footFr (.slice (some ⟨g, 0, none⟩) len cap) ps) w (y6.setCell ⟨g, k * 16 + 7, none⟩ (.bool ((c0 + 1 + 1 + 1 + 1 + 1 + 1 + 1) % 3 == 0)))) from HK.out.setCell (p := ⟨g, k * 16 + 7, none⟩) (.inr (.inl rfl)) _)
    have HR := (show Hid (OwnL (y6.setCell ⟨g, k * 16 + 7, none⟩ (.bool ((c0 + 1 + 1 + 1 + 1 + 1 + 1 + 1) % 3 == 0))) (Q ++ (P.record.before.data.rows ++ (P.record.after.data.rows ++ ((P.record.txns.rows 4) ++ ((P.record.dirty.rows 2) ++ (P.record.image.rows ++ (frRows (ps.drop (k + 1)))))))))) from OwnL.kept (R := fun b => b = g) HR.out (Kept.setCell (R := fun b => b = g) (Kept.refl _ _) (p := ⟨g, k * 16 + 7, none⟩) (.inr rfl) _) (fun b hb => HG.out b (HU0.out b hb)))
    generalize (y6.setCell ⟨g, k * 16 + 7, none⟩ (.bool ((c0 + 1 + 1 + 1 + 1 + 1 + 1 + 1) % 3 == 0))) = y7 at HO8 HK HR ⊢
    clear z zf HO7
    have z : y7.cell? ⟨g, k * 16 + 8, none⟩ = some (P.record.before.data.v) := HO8.out.cellMid (HLN _).out 8 (by decide) _ (by rw [HQL.out]; rfl)
    go_wp2_with fail
    refine (markByteS_own 0 P.record.before.data.v P.record.before.data.bs (c0 + 1 + 1 + 1 + 1 + 1 + 1 + 1 + 1) _ (by omega) (by omega) (by omega) (OwnL.of_one HR.out.right.left)).mono ?_
    rintro e x1 ⟨rfl, ho, hk⟩
    have hk : Kept (FootL P.record.before.data.rows) _ x1 := hk.mono (fun b _ h => (footL_ints _ _ _ _ _).2 h)
    have ho : OwnL x1 ((P.record.before.data.marked (c0 + 1 + 1 + 1 + 1 + 1 + 1 + 1 + 1)).rows) := BS.own_marked.2 (OwnL.one ho)
    have HO9 := (show Hid (OwnR kFr 0 55 5 x1 (.slice (some ⟨g, 0, none⟩) len cap) (qs ++ (⟨(c0), (c0 + 1), ⟨(c0 + 1 + 1), (c0 + 1 + 1 + 1), (c0 + 1 + 1 + 1 + 1), (c0 + 1 + 1 + 1 + 1 + 1), (c0 + 1 + 1 + 1 + 1 + 1 + 1), ⟨((c0 + 1 + 1 + 1 + 1 + 1 + 1 + 1) % 3 == 0), P.record.before.data⟩, ⟨P.record.after.used, P.record.after.data⟩, P.record.uN, P.record.nT, P.record.txns, P.record.dirty, P.record.image⟩⟩ : StLogFrame) :: ps.drop (k + 1))) from HO8.out.kept hk (fun b hb h => HG.out b (HU0.out b (footIn b h)) (by have h2 : g = b := (by simpa [Value.ownBlock] using footFr_head hb); exact h2.symm)))
    clear HO8
    have HK := (show Hid (Kept (footFr (.slice (some ⟨g, 0, none⟩) len cap) ps) w x1) from HK.out.next hk (fun b _ h => .inr (HU0.out b (footIn b h))))
    have HR := (show Hid (OwnL x1 ((Q ++ ((P.record.before.data.marked (c0 + 1 + 1 + 1 + 1 + 1 + 1 + 1 + 1)).rows)) ++ (P.record.after.data.rows ++ ((P.record.txns.rows 4) ++ ((P.record.dirty.rows 2) ++ (P.record.image.rows ++ (frRows (ps.drop (k + 1))))))))) from HR.out.midMark ho (fun b h => (BS.foot_marked _ _ b).1 h) hk)
    have HU1 := (show Hid (∀ b, FootL ((Q ++ ((P.record.before.data.marked (c0 + 1 + 1 + 1 + 1 + 1 + 1 + 1 + 1)).rows)) ++ (P.record.after.data.rows ++ ((P.record.txns.rows 4) ++ ((P.record.dirty.rows 2) ++ (P.record.image.rows ++ (frRows (ps.drop (k + 1)))))))) b → FootL (frRows ps) b) from fun b hb => HU0.out b (footMid (fun b h => (BS.foot_marked _ _ b).1 h) b hb))
    obtain ⟨c1, hcc⟩ : ∃ z : Int, c0 + 1 + 1 + 1 + 1 + 1 + 1 + 1 + 1 + (P.record.before.data.bs.length : Int) = z := ⟨_, rfl⟩
    have hl1 : 0 ≤ c1 := by omega
    have hu1 : c1 + 3 + (P.record.after.data.bs.length : Int) + (P.record.txns.bs.length : Int) + (P.record.dirty.bs.length : Int) + (P.record.image.bs.length : Int) ≤ 1125899906842624 := by omega
    have HB1 := hid hcc
    rw [hcc]
    clear hcc hk ho z hl0 hu0 HU0
    have z : x1.cell? ⟨g, k * 16 + 9, none⟩ = some (.bool P.record.after.used) := HO9.out.cellMid (HLN _).out 9 (by decide) _ (by rw [HQL.out]; rfl)
    have zf := HO9.out.frozen (HLN _).out (k * 16 + 9)
    go_upto_region 22 with fail
    have HO10 := (show Hid (OwnR kFr 0 55 5 (x1.setCell ⟨g, k * 16 + 9, none⟩ (.bool (c1 % 3 == 0))) (.slice (some ⟨g, 0, none⟩) len cap) (qs ++ (⟨(c0), (c0 + 1), ⟨(c0 + 1 + 1), (c0 + 1 + 1 + 1), (c0 + 1 + 1 + 1 + 1), (c0 + 1 + 1 + 1 + 1 + 1), (c0 + 1 + 1 + 1 + 1 + 1 + 1), ⟨((c0 + 1 + 1 + 1 + 1 + 1 + 1 + 1) % 3 == 0), P.record.before.data⟩, ⟨(c1 % 3 == 0), P.record.after.data⟩, P.record.uN, P.record.nT, P.record.txns, P.record.dirty, P.record.image⟩⟩ : StLogFrame) :: ps.drop (k + 1))) from HO9.out.set (p' := (⟨(c0), (c0 + 1), ⟨(c0 + 1 + 1), (c0 + 1 + 1 + 1), (c0 + 1 + 1 + 1 + 1), (c0 + 1 + 1 + 1 + 1 + 1), (c0 + 1 + 1 + 1 + 1 + 1 + 1), ⟨((c0 + 1 + 1 + 1 + 1 + 1 + 1 + 1) % 3 == 0), P.record.before.data⟩, ⟨(c1 % 3 == 0), P.record.after.data⟩, P.record.uN, P.record.nT, P.record.txns, P.record.dirty, P.record.image⟩⟩ : StLogFrame)) (HLN _).out 9 (.bool (c1 % 3 == 0)) (by decide) rfl rfl rfl _ (by rw [HQL.out]; rfl))
    have HK := (show Hid (Kept (footFr (.slice (some ⟨g, 0, none⟩) len cap) ps) w (x1.setCell ⟨g, k * 16 + 9, none⟩ (.bool (c1 % 3 == 0)))) from HK.out.setCell (p := ⟨g, k * 16 + 9, none⟩) (.inr (.inl rfl)) _)
    have HR := (show Hid (OwnL (x1.setCell ⟨g, k * 16 + 9, none⟩ (.bool (c1 % 3 == 0))) ((Q ++ ((P.record.before.data.marked (c0 + 1 + 1 + 1 + 1 + 1 + 1 + 1 + 1)).rows)) ++ (P.record.after.data.rows ++ ((P.record.txns.rows 4) ++ ((P.record.dirty.rows 2) ++ (P.record.image.rows ++ (frRows (ps.drop (k + 1))))))))) from OwnL.kept (R := fun b => b = g) HR.out (Kept.setCell (R := fun b => b = g) (Kept.refl _ _) (p := ⟨g, k * 16 + 9, none⟩) (.inr rfl) _) (fun b hb => HG.out b (HU1.out b hb)))
    generalize (x1.setCell ⟨g, k * 16 + 9, none⟩ (.bool (c1 % 3 == 0))) = y9 at HO10 HK HR ⊢
    clear z zf HO9
    have z : y9.cell? ⟨g, k * 16 + 10, none⟩ = some (P.record.after.data.v) := HO10.out.cellMid (HLN _).out 10 (by decide) _ (by rw [HQL.out]; rfl)
    go_wp2_with fail
    refine (markByteS_own 0 P.record.after.data.v P.record.after.data.bs (c1 + 1) _ (by omega) (by omega) (by omega) (OwnL.of_one HR.out.right.left)).mono ?_
    rintro e x2 ⟨rfl, ho, hk⟩
    have hk : Kept (FootL P.record.after.data.rows) _ x2 := hk.mono (fun b _ h => (footL_ints _ _ _ _ _).2 h)
    have ho : OwnL x2 ((P.record.after.data.marked (c1 + 1)).rows) := BS.own_marked.2 (OwnL.one ho)
    have HO11 := (show Hid (OwnR kFr 0 55 5 x2 (.slice (some ⟨g, 0, none⟩) len cap) (qs ++ (⟨(c0), (c0 + 1), ⟨(c0 + 1 + 1), (c0 + 1 + 1 + 1), (c0 + 1 + 1 + 1 + 1), (c0 + 1 + 1 + 1 + 1 + 1), (c0 + 1 + 1 + 1 + 1 + 1 + 1), ⟨((c0 + 1 + 1 + 1 + 1 + 1 + 1 + 1) % 3 == 0), P.record.before.data⟩, ⟨(c1 % 3 == 0), P.record.after.data⟩, P.record.uN, P.record.nT, P.record.txns, P.record.dirty, P.record.image⟩⟩ : StLogFrame) :: ps.drop (k + 1))) from HO10.out.kept hk (fun b hb h => HG.out b (HU1.out b (footIn b h)) (by have h2 : g = b := (by simpa [Value.ownBlock] using footFr_head hb); exact h2.symm)))
    clear HO10
    have HK := (show Hid (Kept (footFr (.slice (some ⟨g, 0, none⟩) len cap) ps) w x2) from HK.out.next hk (fun b _ h => .inr (HU1.out b (footIn b h))))
    have HR := (show Hid (OwnL x2 (((Q ++ ((P.record.before.data.marked (c0 + 1 + 1 + 1 + 1 + 1 + 1 + 1 + 1)).rows)) ++ ((P.record.after.data.marked (c1 + 1)).rows)) ++ ((P.record.txns.rows 4) ++ ((P.record.dirty.rows 2) ++ (P.record.image.rows ++ (frRows (ps.drop (k + 1)))))))) from HR.out.midMark ho (fun b h => (BS.foot_marked _ _ b).1 h) hk)
    have HU2 := (show Hid (∀ b, FootL (((Q ++ ((P.record.before.data.marked (c0 + 1 + 1 + 1 + 1 + 1 + 1 + 1 + 1)).rows)) ++ ((P.record.after.data.marked (c1 + 1)).rows)) ++ ((P.record.txns.rows 4) ++ ((P.record.dirty.rows 2) ++ (P.record.image.rows ++ (frRows (ps.drop (k + 1))))))) b → FootL (frRows ps) b) from fun b hb => HU1.out b (footMid (fun b h => (BS.foot_marked _ _ b).1 h) b hb))
    obtain ⟨c2, hcc⟩ : ∃ z : Int, c1 + 1 + (P.record.after.data.bs.length : Int) = z := ⟨_, rfl⟩
    have hl2 : 0 ≤ c2 := by omega
    have hu2 : c2 + 2 + (P.record.txns.bs.length : Int) + (P.record.dirty.bs.length : Int) + (P.record.image.bs.length : Int) ≤ 1125899906842624 := by omega
    have HB2 := hid hcc
    rw [hcc]
    clear hcc hk ho z hl1 hu1 HU1
    have z : x2.cell? ⟨g, k * 16 + 11, none⟩ = some (.int .i64 P.record.uN) := HO11.out.cellMid (HLN _).out 11 (by decide) _ (by rw [HQL.out]; rfl)
    have zf := HO11.out.frozen (HLN _).out (k * 16 + 11)
    go_upto_region 25 with fail
    have HO12 := (show Hid (OwnR kFr 0 55 5 (x2.setCell ⟨g, k * 16 + 11, none⟩ (.int .i64 (c2))) (.slice (some ⟨g, 0, none⟩) len cap) (qs ++ (⟨(c0), (c0 + 1), ⟨(c0 + 1 + 1), (c0 + 1 + 1 + 1), (c0 + 1 + 1 + 1 + 1), (c0 + 1 + 1 + 1 + 1 + 1), (c0 + 1 + 1 + 1 + 1 + 1 + 1), ⟨((c0 + 1 + 1 + 1 + 1 + 1 + 1 + 1) % 3 == 0), P.record.before.data⟩, ⟨(c1 % 3 == 0), P.record.after.data⟩, (c2), P.record.nT, P.record.txns, P.record.dirty, P.record.image⟩⟩ : StLogFrame) :: ps.drop (k + 1))) from HO11.out.set (p' := (⟨(c0), (c0 + 1), ⟨(c0 + 1 + 1), (c0 + 1 + 1 + 1), (c0 + 1 + 1 + 1 + 1), (c0 + 1 + 1 + 1 + 1 + 1), (c0 + 1 + 1 + 1 + 1 + 1 + 1), ⟨((c0 + 1 + 1 + 1 + 1 + 1 + 1 + 1) % 3 == 0), P.record.before.data⟩, ⟨(c1 % 3 == 0), P.record.after.data⟩, (c2), P.record.nT, P.record.txns, P.record.dirty, P.record.image⟩⟩ : StLogFrame)) (HLN _).out 11 (.int .i64 (c2)) (by decide) rfl rfl rfl _ (by rw [HQL.out]; rfl))
    have HK := (show Hid (Kept (footFr (.slice (some ⟨g, 0, none⟩) len cap) ps) w (x2.setCell ⟨g, k * 16 + 11, none⟩ (.int .i64 (c2)))) from HK.out.setCell (p := ⟨g, k * 16 + 11, none⟩) (.inr (.inl rfl)) _)
    have HR := (show Hid (OwnL (x2.setCell ⟨g, k * 16 + 11, none⟩ (.int .i64 (c2))) (((Q ++ ((P.record.before.data.marked (c0 + 1 + 1 + 1 + 1 + 1 + 1 + 1 + 1)).rows)) ++ ((P.record.after.data.marked (c1 + 1)).rows)) ++ ((P.record.txns.rows 4) ++ ((P.record.dirty.rows 2) ++ (P.record.image.rows ++ (frRows (ps.drop (k + 1)))))))) from OwnL.kept (R := fun b => b = g) HR.out (Kept.setCell (R := fun b => b = g) (Kept.refl _ _) (p := ⟨g, k * 16 + 11, none⟩) (.inr rfl) _) (fun b hb => HG.out b (HU2.out b hb)))
    generalize (x2.setCell ⟨g, k * 16 + 11, none⟩ (.int .i64 (c2))) = y11 at HO12 HK HR ⊢
    clear z zf HO11
    have z : y11.cell? ⟨g, k * 16 + 12, none⟩ = some (.int .i64 P.record.nT) := HO12.out.cellMid (HLN _).out 12 (by decide) _ (by rw [HQL.out]; rfl)
    have zf := HO12.out.frozen (HLN _).out (k * 16 + 12)
    go_upto_region 27 with fail
    have HO13 := (show Hid (OwnR kFr 0 55 5 (y11.setCell ⟨g, k * 16 + 12, none⟩ (.int .i64 (c2 + 1))) (.slice (some ⟨g, 0, none⟩) len cap) (qs ++ (⟨(c0), (c0 + 1), ⟨(c0 + 1 + 1), (c0 + 1 + 1 + 1), (c0 + 1 + 1 + 1 + 1), (c0 + 1 + 1 + 1 + 1 + 1), (c0 + 1 + 1 + 1 + 1 + 1 + 1), ⟨((c0 + 1 + 1 + 1 + 1 + 1 + 1 + 1) % 3 == 0), P.record.before.data⟩, ⟨(c1 % 3 == 0), P.record.after.data⟩, (c2), (c2 + 1), P.record.txns, P.record.dirty, P.record.image⟩⟩ : StLogFrame) :: ps.drop (k + 1))) from HO12.out.set (p' := (⟨(c0), (c0 + 1), ⟨(c0 + 1 + 1), (c0 + 1 + 1 + 1), (c0 + 1 + 1 + 1 + 1), (c0 + 1 + 1 + 1 + 1 + 1), (c0 + 1 + 1 + 1 + 1 + 1 + 1), ⟨((c0 + 1 + 1 + 1 + 1 + 1 + 1 + 1) % 3 == 0), P.record.before.data⟩, ⟨(c1 % 3 == 0), P.record.after.data⟩, (c2), (c2 + 1), P.record.txns, P.record.dirty, P.record.image⟩⟩ : StLogFrame)) (HLN _).out 12 (.int .i64 (c2 + 1)) (by decide) rfl rfl rfl _ (by rw [HQL.out]; rfl))
    have HK := (show Hid (Kept (footFr (.slice (some ⟨g, 0, none⟩) len cap) ps) w (y11.setCell ⟨g, k * 16 + 12, none⟩ (.int .i64 (c2 + 1)))) from HK.out.setCell (p := ⟨g, k * 16 + 12, none⟩) (.inr (.inl rfl)) _)
    have HR := (show Hid (OwnL (y11.setCell ⟨g, k * 16 + 12, none⟩ (.int .i64 (c2 + 1))) (((Q ++ ((P.record.before.data.marked (c0 + 1 + 1 + 1 + 1 + 1 + 1 + 1 + 1)).rows)) ++ ((P.record.after.data.marked (c1 + 1)).rows)) ++ ((P.record.txns.rows 4) ++ ((P.record.dirty.rows 2) ++ (P.record.image.rows ++ (frRows (ps.drop (k + 1)))))))) from OwnL.kept (R := fun b => b = g) HR.out (Kept.setCell (R := fun b => b = g) (Kept.refl _ _) (p := ⟨g, k * 16 + 12, none⟩) (.inr rfl) _) (fun b hb => HG.out b (HU2.out b hb)))
    generalize (y11.setCell ⟨g, k * 16 + 12, none⟩ (.int .i64 (c2 + 1))) = y12 at HO13 HK HR ⊢
    clear z zf HO12
    have z : y12.cell? ⟨g, k * 16 + 13, none⟩ = some (P.record.txns.v) := HO13.out.cellMid (HLN _).out 13 (by decide) _ (by rw [HQL.out]; rfl)
    go_wp2_with fail
    refine (markTxnEntryS_own P.record.txns (c2 + 1 + 1) _ (by omega) (by omega) HR.out.right.left).mono ?_
    rintro e x3 ⟨rfl, ho, hk⟩
    have hk : Kept (FootL (P.record.txns.rows 4)) _ x3 := hk
    have HO14 := (show Hid (OwnR kFr 0 55 5 x3 (.slice (some ⟨g, 0, none⟩) len cap) (qs ++ (⟨(c0), (c0 + 1), ⟨(c0 + 1 + 1), (c0 + 1 + 1 + 1), (c0 + 1 + 1 + 1 + 1), (c0 + 1 + 1 + 1 + 1 + 1), (c0 + 1 + 1 + 1 + 1 + 1 + 1), ⟨((c0 + 1 + 1 + 1 + 1 + 1 + 1 + 1) % 3 == 0), P.record.before.data⟩, ⟨(c1 % 3 == 0), P.record.after.data⟩, (c2), (c2 + 1), P.record.txns, P.record.dirty, P.record.image⟩⟩ : StLogFrame) :: ps.drop (k + 1))) from HO13.out.kept hk (fun b hb h => HG.out b (HU2.out b (footIn b h)) (by have h2 : g = b := (by simpa [Value.ownBlock] using footFr_head hb); exact h2.symm)))
    clear HO13
    have HK := (show Hid (Kept (footFr (.slice (some ⟨g, 0, none⟩) len cap) ps) w x3) from HK.out.next hk (fun b _ h => .inr (HU2.out b (footIn b h))))
    have HR := (show Hid (OwnL x3 ((((Q ++ ((P.record.before.data.marked (c0 + 1 + 1 + 1 + 1 + 1 + 1 + 1 + 1)).rows)) ++ ((P.record.after.data.marked (c1 + 1)).rows)) ++ ((P.record.txns.marked (c2 + 1 + 1)).rows 4)) ++ ((P.record.dirty.rows 2) ++ (P.record.image.rows ++ (frRows (ps.drop (k + 1))))))) from HR.out.midMark ho (fun b h => (FR.foot_marked 4 _ _ b).1 h) hk)
    have HU3 := (show Hid (∀ b, FootL ((((Q ++ ((P.record.before.data.marked (c0 + 1 + 1 + 1 + 1 + 1 + 1 + 1 + 1)).rows)) ++ ((P.record.after.data.marked (c1 + 1)).rows)) ++ ((P.record.txns.marked (c2 + 1 + 1)).rows 4)) ++ ((P.record.dirty.rows 2) ++ (P.record.image.rows ++ (frRows (ps.drop (k + 1)))))) b → FootL (frRows ps) b) from fun b hb => HU2.out b (footMid (fun b h => (FR.foot_marked 4 _ _ b).1 h) b hb))
    obtain ⟨c3, hcc⟩ : ∃ z : Int, c2 + 1 + 1 + (P.record.txns.bs.length : Int) = z := ⟨_, rfl⟩
    have hl3 : 0 ≤ c3 := by omega
    have hu3 : c3 + 0 + (P.record.dirty.bs.length : Int) + (P.record.image.bs.length : Int) ≤ 1125899906842624 := by omega
    have HB3 := hid hcc
    rw [hcc]
    clear hcc hk ho z hl2 hu2 HU2
    have z : x3.cell? ⟨g, k * 16 + 14, none⟩ = some (P.record.dirty.v) := HO14.out.cellMid (HLN _).out 14 (by decide) _ (by rw [HQL.out]; rfl)
    go_wp2_with fail
    refine (markDirtyEntryS_own P.record.dirty (c3) _ (by omega) (by omega) HR.out.right.left).mono ?_
    rintro e x4 ⟨rfl, ho, hk⟩
    have hk : Kept (FootL (P.record.dirty.rows 2)) _ x4 := hk
    have HO15 := (show Hid (OwnR kFr 0 55 5 x4 (.slice (some ⟨g, 0, none⟩) len cap) (qs ++ (⟨(c0), (c0 + 1), ⟨(c0 + 1 + 1), (c0 + 1 + 1 + 1), (c0 + 1 + 1 + 1 + 1), (c0 + 1 + 1 + 1 + 1 + 1), (c0 + 1 + 1 + 1 + 1 + 1 + 1), ⟨((c0 + 1 + 1 + 1 + 1 + 1 + 1 + 1) % 3 == 0), P.record.before.data⟩, ⟨(c1 % 3 == 0), P.record.after.data⟩, (c2), (c2 + 1), P.record.txns, P.record.dirty, P.record.image⟩⟩ : StLogFrame) :: ps.drop (k + 1))) from HO14.out.kept hk (fun b hb h => HG.out b (HU3.out b (footIn b h)) (by have h2 : g = b := (by simpa [Value.ownBlock] using footFr_head hb); exact h2.symm)))
    clear HO14
    have HK := (show Hid (Kept (footFr (.slice (some ⟨g, 0, none⟩) len cap) ps) w x4) from HK.out.next hk (fun b _ h => .inr (HU3.out b (footIn b h))))
    have HR := (show Hid (OwnL x4 (((((Q ++ ((P.record.before.data.marked (c0 + 1 + 1 + 1 + 1 + 1 + 1 + 1 + 1)).rows)) ++ ((P.record.after.data.marked (c1 + 1)).rows)) ++ ((P.record.txns.marked (c2 + 1 + 1)).rows 4)) ++ ((P.record.dirty.marked (c3)).rows 2)) ++ (P.record.image.rows ++ (frRows (ps.drop (k + 1)))))) from HR.out.midMark ho (fun b h => (FR.foot_marked 2 _ _ b).1 h) hk)
    have HU4 := (show Hid (∀ b, FootL (((((Q ++ ((P.record.before.data.marked (c0 + 1 + 1 + 1 + 1 + 1 + 1 + 1 + 1)).rows)) ++ ((P.record.after.data.marked (c1 + 1)).rows)) ++ ((P.record.txns.marked (c2 + 1 + 1)).rows 4)) ++ ((P.record.dirty.marked (c3)).rows 2)) ++ (P.record.image.rows ++ (frRows (ps.drop (k + 1))))) b → FootL (frRows ps) b) from fun b hb => HU3.out b (footMid (fun b h => (FR.foot_marked 2 _ _ b).1 h) b hb))
    obtain ⟨c4, hcc⟩ : ∃ z : Int, c3 + (P.record.dirty.bs.length : Int) = z := ⟨_, rfl⟩
    have hl4 : 0 ≤ c4 := by omega
    have hu4 : c4 + 0 + (P.record.image.bs.length : Int) ≤ 1125899906842624 := by omega
    have HB4 := hid hcc
    rw [hcc]
    clear hcc hk ho z hl3 hu3 HU3
    have z : x4.cell? ⟨g, k * 16 + 15, none⟩ = some (P.record.image.v) := HO15.out.cellMid (HLN _).out 15 (by decide) _ (by rw [HQL.out]; rfl)
    go_wp2_with fail
    refine (markByteS_own 0 P.record.image.v P.record.image.bs (c4) _ (by omega) (by omega) (by omega) (OwnL.of_one HR.out.right.left)).mono ?_
    rintro e x5 ⟨rfl, ho, hk⟩
    have hk : Kept (FootL P.record.image.rows) _ x5 := hk.mono (fun b _ h => (footL_ints _ _ _ _ _).2 h)
    have ho : OwnL x5 ((P.record.image.marked (c4)).rows) := BS.own_marked.2 (OwnL.one ho)
    have HO16 := (show Hid (OwnR kFr 0 55 5 x5 (.slice (some ⟨g, 0, none⟩) len cap) (qs ++ (⟨(c0), (c0 + 1), ⟨(c0 + 1 + 1), (c0 + 1 + 1 + 1), (c0 + 1 + 1 + 1 + 1), (c0 + 1 + 1 + 1 + 1 + 1), (c0 + 1 + 1 + 1 + 1 + 1 + 1), ⟨((c0 + 1 + 1 + 1 + 1 + 1 + 1 + 1) % 3 == 0), P.record.before.data⟩, ⟨(c1 % 3 == 0), P.record.after.data⟩, (c2), (c2 + 1), P.record.txns, P.record.dirty, P.record.image⟩⟩ : StLogFrame) :: ps.drop (k + 1))) from HO15.out.kept hk (fun b hb h => HG.out b (HU4.out b (footIn b h)) (by have h2 : g = b := (by simpa [Value.ownBlock] using footFr_head hb); exact h2.symm)))
    clear HO15
    have HK := (show Hid (Kept (footFr (.slice (some ⟨g, 0, none⟩) len cap) ps) w x5) from HK.out.next hk (fun b _ h => .inr (HU4.out b (footIn b h))))
    have HR := (show Hid (OwnL x5 ((((((Q ++ ((P.record.before.data.marked (c0 + 1 + 1 + 1 + 1 + 1 + 1 + 1 + 1)).rows)) ++ ((P.record.after.data.marked (c1 + 1)).rows)) ++ ((P.record.txns.marked (c2 + 1 + 1)).rows 4)) ++ ((P.record.dirty.marked (c3)).rows 2)) ++ ((P.record.image.marked (c4)).rows)) ++ (frRows (ps.drop (k + 1))))) from HR.out.midMark ho (fun b h => (BS.foot_marked _ _ b).1 h) hk)
    have HU5 := (show Hid (∀ b, FootL ((((((Q ++ ((P.record.before.data.marked (c0 + 1 + 1 + 1 + 1 + 1 + 1 + 1 + 1)).rows)) ++ ((P.record.after.data.marked (c1 + 1)).rows)) ++ ((P.record.txns.marked (c2 + 1 + 1)).rows 4)) ++ ((P.record.dirty.marked (c3)).rows 2)) ++ ((P.record.image.marked (c4)).rows)) ++ (frRows (ps.drop (k + 1)))) b → FootL (frRows ps) b) from fun b hb => HU4.out b (footMid (fun b h => (BS.foot_marked _ _ b).1 h) b hb))
    obtain ⟨c5, hcc⟩ : ∃ z : Int, c4 + (P.record.image.bs.length : Int) = z := ⟨_, rfl⟩
    have hl5 : 0 ≤ c5 := by omega
    have hu5 : c5 + 0 ≤ 1125899906842624 := by omega
    have HB5 := hid hcc
    rw [hcc]
    clear hcc hk ho z hl4 hu4 HU4
    go_wp2
    go_roundw
    case rel =>
     have e1 := HB1.out
     have e2 := HB2.out
     have e3 := HB3.out
     have e4 := HB4.out
     have e5 := HB5.out
     have hHO := HO16.out
     have hHR := HR.out
     have hHU := HU5.out
     have hms := HMS.out
     have hmr := HMR.out
     have hst := HST.out
     subst e1 e2 e3 e4 e5
     refine ⟨k + 1, _, by omega, by go_num, rfl, by unfold Hid; rw [hst]; omega, ?_, ?_, ?_, HK⟩
     ·unfold Hid
      rw [hms, List.append_assoc]
      exact hHO
     ·unfold Hid
      rw [hmr]
      unfold mkW
      simp only [List.append_assoc] at hHR ⊢
      exact hHR
     ·unfold Hid
      rw [hmr]
      unfold mkW
      simp only [List.append_assoc] at hHU ⊢
      exact hHU
    case measure => simp [intOf]; omega
   ·go_wp2
    go_ret
    obtain rfl : k = len := by omega
    have h2 := HL.out
    have h3 := HC.out
    have h4 := HO.out
    have h5 := HR.out
    have h6 := HU.out
    rw [← h2, List.take_length] at h3 h4 h5 h6
    rw [List.drop_length] at h4 h5 h6
    rw [List.append_nil] at h4
    rw [show frRows [] = [] from rfl, List.append_nil] at h5 h6
    rw [h2] at h4
    subst h3
    exact ⟨by first | rfl | trivial, ⟨h4, h5, h6⟩, HK0.out⟩
end Go.Proofs.YtaojjcnmififoaaGreat
