import Derived.Test.YtaojjcnmififoaaGreatG31
import Derived.Test.YtaojjcnmififoaaGreatG41
import Derived.Deep.DeepCutAuto
namespace Go.Proofs.YtaojjcnmififoaaGreat
set_option maxRecDepth 100000
set_option maxHeartbeats 8000000
set_option linter.unusedVariables false
set_option linter.unusedSimpArgs false
open Go Go.RowKit
def fE (P : StLogFrame) (a b c d e f g : Int) (h i : Bool) (j k : Int) : StLogFrame := ⟨a, b, ⟨c, d, e, f, g, ⟨h, P.record.before.data⟩, ⟨i, P.record.after.data⟩, j, k, P.record.txns, P.record.dirty, P.record.image⟩⟩
theorem OwnL.setG {w : World} {rs : List Row} {g : Nat} (h : OwnL w rs) (j : Nat) (u : Value) (hg : ∀ b, FootL rs b → ¬ b = g) : OwnL (w.setCell ⟨g, j, none⟩ u) rs :=
 h.kept (R := fun b => b = g) (Kept.setCell (R := fun b => b = g) (Kept.refl _ _) (p := ⟨g, j, none⟩) (.inr rfl) _) hg
def mkE (c0 : Int) (P : StLogFrame) : StLogFrame :=
 let c1 := c0 + 1 + 1 + 1 + 1 + 1 + 1 + 1 + 1 + (P.record.before.data.bs.length : Int)
 let c2 := c1 + 1 + (P.record.after.data.bs.length : Int)
 let c3 := c2 + 1 + 1 + (P.record.txns.bs.length : Int)
 let c4 := c3 + (P.record.dirty.bs.length : Int)
 (fE P (c0) (c0 + 1) (c0 + 1 + 1) (c0 + 1 + 1 + 1) (c0 + 1 + 1 + 1 + 1) (c0 + 1 + 1 + 1 + 1 + 1) (c0 + 1 + 1 + 1 + 1 + 1 + 1) ((c0 + 1 + 1 + 1 + 1 + 1 + 1 + 1) % 3 == 0) (c1 % 3 == 0) (c2) (c2 + 1))
def mkW (c0 : Int) (P : StLogFrame) : List Row :=
 let c1 := c0 + 1 + 1 + 1 + 1 + 1 + 1 + 1 + 1 + (P.record.before.data.bs.length : Int)
 let c2 := c1 + 1 + (P.record.after.data.bs.length : Int)
 let c3 := c2 + 1 + 1 + (P.record.txns.bs.length : Int)
 let c4 := c3 + (P.record.dirty.bs.length : Int)
 ((P.record.before.data.marked (c0 + 1 + 1 + 1 + 1 + 1 + 1 + 1 + 1)).rows) ++ (((P.record.after.data.marked (c1 + 1)).rows) ++ (((P.record.txns.marked (c2 + 1 + 1)).rows 4) ++ (((P.record.dirty.marked (c3)).rows 2) ++ (((P.record.image.marked (c4)).rows)))))
def mkS (c : Int) : List StLogFrame → List StLogFrame
 | [] => []
 | p :: ps => mkE c p :: mkS (c + 11 + p.size) ps
def mkRows (c : Int) : List StLogFrame → List Row
 | [] => []
 | p :: ps => mkW c p ++ mkRows (c + 11 + p.size) ps
theorem mkS_append (c : Int) (ps qs : List StLogFrame) : mkS c (ps ++ qs) = mkS c ps ++ mkS (c + mzFr ps) qs := by
 induction ps generalizing c with
 | nil => simp [mkS, mzFr]
 | cons p ps ih => simp only [List.cons_append, mkS, mzFr, ih, Int.add_assoc]
theorem mkRows_append (c : Int) (ps qs : List StLogFrame) : mkRows c (ps ++ qs) = mkRows c ps ++ mkRows (c + mzFr ps) qs := by
 induction ps generalizing c with
 | nil => simp [mkRows, mzFr]
 | cons p ps ih => simp only [List.cons_append, mkRows, mzFr, ih, Int.add_assoc, List.append_assoc]
theorem mkS_length (c : Int) (ps : List StLogFrame) : (mkS c ps).length = ps.length := by
 induction ps generalizing c with
 | nil => rfl
 | cons p ps ih => simp [mkS, ih]
theorem mkS_step (c : Int) (ps : List StLogFrame) (k : Nat) (h : k < ps.length) : mkS c (ps.take (k + 1)) = mkS c (ps.take k) ++ [mkE (c + mzFr (ps.take k)) ps[k]] := by
 rw [List.take_succ_eq_append_getElem h, mkS_append]
 rfl
theorem mkRows_step (c : Int) (ps : List StLogFrame) (k : Nat) (h : k < ps.length) : mkRows c (ps.take (k + 1)) = mkRows c (ps.take k) ++ mkW (c + mzFr (ps.take k)) ps[k] := by
 rw [List.take_succ_eq_append_getElem h, mkRows_append]
 simp [mkRows]
theorem mkS_at (c : Int) (ps : List StLogFrame) (k : Nat) (h : k < ps.length) : (mkS c ps)[k]'(by rw [mkS_length]; exact h) = mkE (c + mzFr (ps.take k)) ps[k] := by
 have e : mkS c ps = mkS c (ps.take k) ++ mkS (c + mzFr (ps.take k)) (ps.drop k) := by rw [← mkS_append, List.take_append_drop]
 have hd := List.drop_eq_getElem_cons h
 have hl : (mkS c (ps.take k)).length = k := by rw [mkS_length, List.length_take]; omega
 have e2 : (mkS c ps)[k]? = some (mkE (c + mzFr (ps.take k)) ps[k]) := by
  rw [e, List.getElem?_append_right (by omega), hl, Nat.sub_self, hd]
  rfl
 exact List.getElem_eq_iff _ |>.2 e2
theorem mkRows_at {w : World} {c : Int} {ps : List StLogFrame} (k : Nat) (h : k < ps.length) (ho : OwnL w (mkRows c ps)) : OwnL w (mkW (c + mzFr (ps.take k)) ps[k]) := by
 have e : mkRows c ps = mkRows c (ps.take k) ++ (mkW (c + mzFr (ps.take k)) ps[k] ++ mkRows (c + mzFr (ps.take k) + 11 + ps[k].size) (ps.drop (k + 1))) := by
  have h2 := mkRows_append c (ps.take k) (ps.drop k)
  rw [List.take_append_drop, List.drop_eq_getElem_cons h] at h2
  exact h2
 rw [e] at ho
 exact ho.right.left
theorem OwnL.midMark {w w' : World} {A rs rs' B : List Row} (h : OwnL w (A ++ (rs ++ B))) (h' : OwnL w' rs') (hf : ∀ b, FootL rs' b → FootL rs b) (hk : Kept (FootL rs) w w') : OwnL w' ((A ++ rs') ++ B) := by
 have hA := h.left.kept hk (fun b hb hr => h.cut b hb ((FootL_append _ _ _).2 (.inl hr)))
 have hB := h.right.right.kept hk (fun b hb hr => h.right.cut b hr hb)
 refine (hA.append h' (fun b hb e => h.cut b hb ((FootL_append _ _ _).2 (.inl (hf b e))))).append hB ?_
 intro b hb e
 rcases (FootL_append _ _ _).1 hb with hb | hb
 ·exact h.cut b hb ((FootL_append _ _ _).2 (.inr e))
 ·exact h.right.cut b (hf b hb) e
theorem footMid {A rs rs' B : List Row} (hf : ∀ b, FootL rs' b → FootL rs b) (b : Nat) (h : FootL ((A ++ rs') ++ B) b) : FootL (A ++ (rs ++ B)) b := by
 rcases (FootL_append _ _ _).1 h with h | h
 ·rcases (FootL_append _ _ _).1 h with h | h
  ·exact (FootL_append _ _ _).2 (.inl h)
  ·exact (FootL_append _ _ _).2 (.inr ((FootL_append _ _ _).2 (.inl (hf b h))))
 ·exact (FootL_append _ _ _).2 (.inr ((FootL_append _ _ _).2 (.inr h)))
theorem footIn {A rs B : List Row} (b : Nat) (h : FootL rs b) : FootL (A ++ (rs ++ B)) b := (FootL_append _ _ _).2 (.inr ((FootL_append _ _ _).2 (.inl h)))
structure MkFr (w : World) (v : Value) (ps : List StLogFrame) (c : Int) : Prop where
 own : OwnR kFr 0 55 5 w v (mkS c ps)
 rows : OwnL w (mkRows c ps)
 foot : ∀ b, FootL (mkRows c ps) b → FootL (frRows ps) b
theorem MkFr.kept {R : Nat → Prop} {w w' : World} {v : Value} {ps : List StLogFrame} {c : Int} (h : MkFr w v ps c) (hk : Kept R w w') (hr : ∀ b, footFr v ps b → ¬ R b) : MkFr w' v ps c :=
 ⟨h.own.kept hk (fun b hb => hr b (.inl (footFr_head hb))), h.rows.kept hk (fun b hb => hr b (.inr (h.foot b hb))), h.foot⟩
theorem MkFr.same {w w' : World} {v : Value} {ps : List StLogFrame} {c : Int} (h : MkFr w v ps c) (hk : Same w w') : MkFr w' v ps c := h.kept hk (fun _ _ => id)
theorem markFrames_own (va : Value) (ps : List StLogFrame) (k0 : Int) (w : World) (h0 : 0 ≤ k0) (h1 : k0 + mzFr ps ≤ 1125899906842624) (hn : ps.length ≤ 1125899906842624) (ha : OwnFr w va ps) :
  Calls Tryz.prog 32 #[va, .int .i64 k0] w fun e w' => e = .returned (.int .i64 (k0 + mzFr ps)) ∧ MkFr w' va ps k0 ∧ Kept (footFr va ps) w w' := by
 by_cases hz : ps.length = 0
 ·obtain rfl : ps = [] := List.length_eq_zero_iff.1 hz
  have HA0 := hid ha.own
  obtain ⟨aa, ca, rfl⟩ : ∃ aa ca, va = .slice aa 0 ca := by rcases ha.own.form with ⟨rfl, _⟩ | ⟨g, cap, rfl, _⟩ <;> exact ⟨_, _, rfl⟩
  clear ha hn hz h1
  go_enter Tryz.func32, Tryz.ntmps32
  go_wp2
  refine wp_loop_rounds 1 ?_
  rw [rounds_succ]
  go_wp2
  go_ret
  exact ⟨by simp [mzFr], ⟨HA0.out, OwnL.nil _, fun b hb => hb⟩, Kept.refl _ _⟩
 ·obtain ⟨g, cap, rfl, hg⟩ : ∃ g cap, va = .slice (some ⟨g, 0, none⟩) ps.length cap ∧ g < w.heap.size := by
   rcases ha.own.form with ⟨_, rfl⟩ | ⟨g, cap, h, _, h2, _⟩
   ·simp at hz
   ·exact ⟨g, cap, h, h2⟩
  have HG := (show Hid (∀ b, FootL (frRows ps) b → ¬ b = g) from fun b hb e => ha.out b (by rw [e]; rfl) hb)
  have HA0 := hid ha
  have H1 := hid h1
  clear ha h1
  generalize hl : ps.length = len at *
  have HL : Hid (ps.length = len) := hl
  clear hl
  go_enter Tryz.func32, Tryz.ntmps32
  go_wp2
  go_loopw [1, 5] (fun v i wr => ∃ (k : Nat) (c : Int), k ≤ len ∧ i = .int .i64 k ∧ v = .int .i64 c ∧ Hid (c = k0 + mzFr (ps.take k)) ∧ Hid (OwnR kFr 0 55 5 wr (.slice (some ⟨g, 0, none⟩) len cap) (mkS k0 (ps.take k) ++ ps.drop k)) ∧ Hid (OwnL wr (mkRows k0 (ps.take k) ++ frRows (ps.drop k))) ∧ Hid (∀ b, FootL (mkRows k0 (ps.take k) ++ frRows (ps.drop k)) b → FootL (frRows ps) b) ∧ Hid (Kept (footFr (.slice (some ⟨g, 0, none⟩) len cap) ps) w wr)) (fun _ i _ => len - (intOf i).toNat)
  case atStart => exact ⟨0, k0, Nat.zero_le _, rfl, rfl, by simp [Hid, mzFr], by simpa [Hid, mkS] using HA0.out.own, by simpa [Hid, mkRows] using HA0.out.rows, by simp [Hid, mkRows], Kept.refl _ _⟩
  case round =>
   obtain ⟨k, c0, hk, rfl, rfl, HC, HO, HR, HU, HK0⟩ := hrel
   by_cases hlt : k < len
   ·have hlp : k < ps.length := by rw [HL.out]; exact hlt
    have hst := mzFr_step ps k hlp
    have hle := mzFr_take_le ps (k + 1)
    have hge := mzFr_nonneg (ps.take k)
    have hdr := List.drop_eq_getElem_cons hlp
    have hms := mkS_step k0 ps k hlp
    have hmr := mkRows_step k0 ps k hlp
    rw [← HC.out] at hms hmr
    obtain ⟨P, hP⟩ : ∃ P, ps[k] = P := ⟨_, rfl⟩
    rw [hP] at hst hdr hms hmr
    obtain ⟨qs, hqs⟩ : ∃ z, mkS k0 (ps.take k) = z := ⟨_, rfl⟩
    obtain ⟨Q, hQ⟩ : ∃ z, mkRows k0 (ps.take k) = z := ⟨_, rfl⟩
    have HQL : Hid (qs.length = k) := by unfold Hid; rw [← hqs, mkS_length, List.length_take]; omega
    rw [hqs] at HO hms
    rw [hQ] at HR HU hmr
    have HMS := hid hms
    have HMR := hid hmr
    have hc0 : 0 ≤ c0 := by have := HC.out; omega
    have hsz : P.size = (P.record.before.data.bs.length : Int) + (P.record.after.data.bs.length : Int) + (P.record.txns.bs.length : Int) + (P.record.dirty.bs.length : Int) + (P.record.image.bs.length : Int) := rfl
    have hc9 : c0 + 11 + P.size ≤ 1125899906842624 := by have := HC.out; have := H1.out; omega
    rw [hsz] at hc9
    have hl0 := hc0
    have hu0 : c0 + 11 + (P.record.before.data.bs.length : Int) + (P.record.after.data.bs.length : Int) + (P.record.txns.bs.length : Int) + (P.record.dirty.bs.length : Int) + (P.record.image.bs.length : Int) ≤ 1125899906842624 := by omega
    have HST := (show Hid (k0 + mzFr (ps.take (k + 1)) = c0 + 11 + ((P.record.before.data.bs.length : Int) + (P.record.after.data.bs.length : Int) + (P.record.txns.bs.length : Int) + (P.record.dirty.bs.length : Int) + (P.record.image.bs.length : Int))) from by have := HC.out; rw [← hsz]; show k0 + mzFr (ps.take (k + 1)) = c0 + 11 + P.size; omega)
    have hrw : frRows (ps.drop k) = P.record.before.data.rows ++ (P.record.after.data.rows ++ ((P.record.txns.rows 4) ++ ((P.record.dirty.rows 2) ++ (P.record.image.rows ++ (frRows (ps.drop (k + 1))))))) := by
     rw [hdr, frRows_cons]
     simp only [StLogFrame.rows, StLogRecord.rows, StPageRecord.rows, List.append_assoc]
    have HU0 := (show Hid (∀ b, FootL (Q ++ (P.record.before.data.rows ++ (P.record.after.data.rows ++ ((P.record.txns.rows 4) ++ ((P.record.dirty.rows 2) ++ (P.record.image.rows ++ (frRows (ps.drop (k + 1))))))))) b → FootL (frRows ps) b) from by have h := HU.out; rw [hrw] at h; exact h)
    have HR0 := (show Hid (OwnL wr (Q ++ (P.record.before.data.rows ++ (P.record.after.data.rows ++ ((P.record.txns.rows 4) ++ ((P.record.dirty.rows 2) ++ (P.record.image.rows ++ (frRows (ps.drop (k + 1)))))))))) from by have h := HR.out; rw [hrw] at h; exact h)
    have HO0 := (show Hid (OwnR kFr 0 55 5 wr (.slice (some ⟨g, 0, none⟩) len cap) (qs ++ (fE P P.lsn P.epoch P.record.kind P.record.txn P.record.prev P.record.page P.record.slot P.record.before.used P.record.after.used P.record.uN P.record.nT) :: ps.drop (k + 1))) from by have h := HO.out; rw [hdr] at h; exact h)
    have HLN : ∀ e : StLogFrame, Hid (len = (qs ++ e :: ps.drop (k + 1)).length) := fun e => by have hl := HL.out; have h2 := HQL.out; simp [Hid]; omega
    clear hst hle hge hdr hP hsz HO hc0 hc9 hrw HU hms hmr hqs hQ
    have HR := HR0
    have HK := HK0
    clear HR0
    have z : wr.cell? ⟨g, k * 16, none⟩ = some (.int .i64 P.lsn) := HO0.out.cellMid (HLN _).out 0 (by decide) _ (by rw [HQL.out]; rfl)
    have zf := HO0.out.frozen (HLN _).out (k * 16)
    go_upto_region 5 with fail
    have HO1 := hid (HO0.out.set (p' := (fE P (c0) P.epoch P.record.kind P.record.txn P.record.prev P.record.page P.record.slot P.record.before.used P.record.after.used P.record.uN P.record.nT)) (HLN _).out 0 (.int .i64 (c0)) (by decide) rfl rfl rfl (k * 16) (by rw [HQL.out]; rfl))
    have HK := hid (HK.out.setCell (p := ⟨g, k * 16, none⟩) (.inr (.inl rfl)) (.int .i64 (c0)))
    have HR := hid (HR.out.setG (k * 16) (.int .i64 (c0)) (fun b hb => HG.out b (HU0.out b hb)))
    generalize (wr.setCell ⟨g, k * 16, none⟩ (.int .i64 (c0))) = y0 at HO1 HK HR ⊢
    clear z zf HO0
    have z : y0.cell? ⟨g, k * 16 + 1, none⟩ = some (.int .i64 P.epoch) := HO1.out.cellMid (HLN _).out 1 (by decide) _ (by rw [HQL.out]; rfl)
    have zf := HO1.out.frozen (HLN _).out (k * 16 + 1)
    go_upto_region 7 with fail
    have HO2 := hid (HO1.out.set (p' := (fE P (c0) (c0 + 1) P.record.kind P.record.txn P.record.prev P.record.page P.record.slot P.record.before.used P.record.after.used P.record.uN P.record.nT)) (HLN _).out 1 (.int .i64 (c0 + 1)) (by decide) rfl rfl rfl (k * 16 + 1) (by rw [HQL.out]; rfl))
    have HK := hid (HK.out.setCell (p := ⟨g, k * 16 + 1, none⟩) (.inr (.inl rfl)) (.int .i64 (c0 + 1)))
    have HR := hid (HR.out.setG (k * 16 + 1) (.int .i64 (c0 + 1)) (fun b hb => HG.out b (HU0.out b hb)))
    generalize (y0.setCell ⟨g, k * 16 + 1, none⟩ (.int .i64 (c0 + 1))) = y1 at HO2 HK HR ⊢
    clear z zf HO1
    have z : y1.cell? ⟨g, k * 16 + 2, none⟩ = some (.int .i64 P.record.kind) := HO2.out.cellMid (HLN _).out 2 (by decide) _ (by rw [HQL.out]; rfl)
    have zf := HO2.out.frozen (HLN _).out (k * 16 + 2)
    go_upto_region 9 with fail
    have HO3 := hid (HO2.out.set (p' := (fE P (c0) (c0 + 1) (c0 + 1 + 1) P.record.txn P.record.prev P.record.page P.record.slot P.record.before.used P.record.after.used P.record.uN P.record.nT)) (HLN _).out 2 (.int .i64 (c0 + 1 + 1)) (by decide) rfl rfl rfl (k * 16 + 2) (by rw [HQL.out]; rfl))
    have HK := hid (HK.out.setCell (p := ⟨g, k * 16 + 2, none⟩) (.inr (.inl rfl)) (.int .i64 (c0 + 1 + 1)))
    have HR := hid (HR.out.setG (k * 16 + 2) (.int .i64 (c0 + 1 + 1)) (fun b hb => HG.out b (HU0.out b hb)))
    generalize (y1.setCell ⟨g, k * 16 + 2, none⟩ (.int .i64 (c0 + 1 + 1))) = y2 at HO3 HK HR ⊢
    clear z zf HO2
    have z : y2.cell? ⟨g, k * 16 + 3, none⟩ = some (.int .i64 P.record.txn) := HO3.out.cellMid (HLN _).out 3 (by decide) _ (by rw [HQL.out]; rfl)
    have zf := HO3.out.frozen (HLN _).out (k * 16 + 3)
    go_upto_region 11 with fail
    have HO4 := hid (HO3.out.set (p' := (fE P (c0) (c0 + 1) (c0 + 1 + 1) (c0 + 1 + 1 + 1) P.record.prev P.record.page P.record.slot P.record.before.used P.record.after.used P.record.uN P.record.nT)) (HLN _).out 3 (.int .i64 (c0 + 1 + 1 + 1)) (by decide) rfl rfl rfl (k * 16 + 3) (by rw [HQL.out]; rfl))
    have HK := hid (HK.out.setCell (p := ⟨g, k * 16 + 3, none⟩) (.inr (.inl rfl)) (.int .i64 (c0 + 1 + 1 + 1)))
    have HR := hid (HR.out.setG (k * 16 + 3) (.int .i64 (c0 + 1 + 1 + 1)) (fun b hb => HG.out b (HU0.out b hb)))
    generalize (y2.setCell ⟨g, k * 16 + 3, none⟩ (.int .i64 (c0 + 1 + 1 + 1))) = y3 at HO4 HK HR ⊢
    clear z zf HO3
    have z : y3.cell? ⟨g, k * 16 + 4, none⟩ = some (.int .i64 P.record.prev) := HO4.out.cellMid (HLN _).out 4 (by decide) _ (by rw [HQL.out]; rfl)
    have zf := HO4.out.frozen (HLN _).out (k * 16 + 4)
    go_upto_region 13 with fail
    have HO5 := hid (HO4.out.set (p' := (fE P (c0) (c0 + 1) (c0 + 1 + 1) (c0 + 1 + 1 + 1) (c0 + 1 + 1 + 1 + 1) P.record.page P.record.slot P.record.before.used P.record.after.used P.record.uN P.record.nT)) (HLN _).out 4 (.int .i64 (c0 + 1 + 1 + 1 + 1)) (by decide) rfl rfl rfl (k * 16 + 4) (by rw [HQL.out]; rfl))
    have HK := hid (HK.out.setCell (p := ⟨g, k * 16 + 4, none⟩) (.inr (.inl rfl)) (.int .i64 (c0 + 1 + 1 + 1 + 1)))
    have HR := hid (HR.out.setG (k * 16 + 4) (.int .i64 (c0 + 1 + 1 + 1 + 1)) (fun b hb => HG.out b (HU0.out b hb)))
    generalize (y3.setCell ⟨g, k * 16 + 4, none⟩ (.int .i64 (c0 + 1 + 1 + 1 + 1))) = y4 at HO5 HK HR ⊢
    clear z zf HO4
    have z : y4.cell? ⟨g, k * 16 + 5, none⟩ = some (.int .i64 P.record.page) := HO5.out.cellMid (HLN _).out 5 (by decide) _ (by rw [HQL.out]; rfl)
    have zf := HO5.out.frozen (HLN _).out (k * 16 + 5)
    go_upto_region 15 with fail
    have HO6 := hid (HO5.out.set (p' := (fE P (c0) (c0 + 1) (c0 + 1 + 1) (c0 + 1 + 1 + 1) (c0 + 1 + 1 + 1 + 1) (c0 + 1 + 1 + 1 + 1 + 1) P.record.slot P.record.before.used P.record.after.used P.record.uN P.record.nT)) (HLN _).out 5 (.int .i64 (c0 + 1 + 1 + 1 + 1 + 1)) (by decide) rfl rfl rfl (k * 16 + 5) (by rw [HQL.out]; rfl))
    have HK := hid (HK.out.setCell (p := ⟨g, k * 16 + 5, none⟩) (.inr (.inl rfl)) (.int .i64 (c0 + 1 + 1 + 1 + 1 + 1)))
    have HR := hid (HR.out.setG (k * 16 + 5) (.int .i64 (c0 + 1 + 1 + 1 + 1 + 1)) (fun b hb => HG.out b (HU0.out b hb)))
    generalize (y4.setCell ⟨g, k * 16 + 5, none⟩ (.int .i64 (c0 + 1 + 1 + 1 + 1 + 1))) = y5 at HO6 HK HR ⊢
    clear z zf HO5
    have z : y5.cell? ⟨g, k * 16 + 6, none⟩ = some (.int .i64 P.record.slot) := HO6.out.cellMid (HLN _).out 6 (by decide) _ (by rw [HQL.out]; rfl)
    have zf := HO6.out.frozen (HLN _).out (k * 16 + 6)
    go_upto_region 17 with fail
    have HO7 := hid (HO6.out.set (p' := (fE P (c0) (c0 + 1) (c0 + 1 + 1) (c0 + 1 + 1 + 1) (c0 + 1 + 1 + 1 + 1) (c0 + 1 + 1 + 1 + 1 + 1) (c0 + 1 + 1 + 1 + 1 + 1 + 1) P.record.before.used P.record.after.used P.record.uN P.record.nT)) (HLN _).out 6 (.int .i64 (c0 + 1 + 1 + 1 + 1 + 1 + 1)) (by decide) rfl rfl rfl (k * 16 + 6) (by rw [HQL.out]; rfl))
    have HK := hid (HK.out.setCell (p := ⟨g, k * 16 + 6, none⟩) (.inr (.inl rfl)) (.int .i64 (c0 + 1 + 1 + 1 + 1 + 1 + 1)))
    have HR := hid (HR.out.setG (k * 16 + 6) (.int .i64 (c0 + 1 + 1 + 1 + 1 + 1 + 1)) (fun b hb => HG.out b (HU0.out b hb)))
    generalize (y5.setCell ⟨g, k * 16 + 6, none⟩ (.int .i64 (c0 + 1 + 1 + 1 + 1 + 1 + 1))) = y6 at HO7 HK HR ⊢
    clear z zf HO6
    have z : y6.cell? ⟨g, k * 16 + 7, none⟩ = some (.bool P.record.before.used) := HO7.out.cellMid (HLN _).out 7 (by decide) _ (by rw [HQL.out]; rfl)
    have zf := HO7.out.frozen (HLN _).out (k * 16 + 7)
    go_upto_region 19 with fail
    have HO8 := hid (HO7.out.set (p' := (fE P (c0) (c0 + 1) (c0 + 1 + 1) (c0 + 1 + 1 + 1) (c0 + 1 + 1 + 1 + 1) (c0 + 1 + 1 + 1 + 1 + 1) (c0 + 1 + 1 + 1 + 1 + 1 + 1) ((c0 + 1 + 1 + 1 + 1 + 1 + 1 + 1) % 3 == 0) P.record.after.used P.record.uN P.record.nT)) (HLN _).out 7 (.bool ((c0 + 1 + 1 + 1 + 1 + 1 + 1 + 1) % 3 == 0)) (by decide) rfl rfl rfl (k * 16 + 7) (by rw [HQL.out]; rfl))
    have HK := hid (HK.out.setCell (p := ⟨g, k * 16 + 7, none⟩) (.inr (.inl rfl)) (.bool ((c0 + 1 + 1 + 1 + 1 + 1 + 1 + 1) % 3 == 0)))
    have HR := hid (HR.out.setG (k * 16 + 7) (.bool ((c0 + 1 + 1 + 1 + 1 + 1 + 1 + 1) % 3 == 0)) (fun b hb => HG.out b (HU0.out b hb)))
    generalize (y6.setCell ⟨g, k * 16 + 7, none⟩ (.bool ((c0 + 1 + 1 + 1 + 1 + 1 + 1 + 1) % 3 == 0))) = y7 at HO8 HK HR ⊢
    clear z zf HO7
    have z : y7.cell? ⟨g, k * 16 + 8, none⟩ = some (P.record.before.data.v) := HO8.out.cellMid (HLN _).out 8 (by decide) _ (by rw [HQL.out]; rfl)
    go_wp2_with fail
    refine (markByteS_own 0 P.record.before.data.v P.record.before.data.bs (c0 + 1 + 1 + 1 + 1 + 1 + 1 + 1 + 1) _ (by omega) (by omega) (by omega) (OwnL.of_one HR.out.right.left)).mono ?_
    rintro e x1 ⟨rfl, ho, hk⟩
    have hk : Kept (FootL P.record.before.data.rows) _ x1 := hk.mono (fun b _ h => (footL_ints _ _ _ _ _).2 h)
    have ho : OwnL x1 ((P.record.before.data.marked (c0 + 1 + 1 + 1 + 1 + 1 + 1 + 1 + 1)).rows) := BS.own_marked.2 (OwnL.one ho)
    have HO9 := hid (HO8.out.kept hk (fun b hb h => HG.out b (HU0.out b (footIn b h)) (by have h2 : g = b := (by simpa [Value.ownBlock] using footFr_head hb); exact h2.symm)))
    clear HO8
    have HK := hid (HK.out.next hk (fun b _ h => .inr (HU0.out b (footIn b h))))
    have HR := hid (HR.out.midMark ho (fun b => (BS.foot_marked P.record.before.data (c0 + 1 + 1 + 1 + 1 + 1 + 1 + 1 + 1) b).1) hk)
    have HU1 := hid (fun b hb => HU0.out b (footMid (fun b => (BS.foot_marked P.record.before.data (c0 + 1 + 1 + 1 + 1 + 1 + 1 + 1 + 1) b).1) b hb))
    obtain ⟨c1, hcc⟩ : ∃ z : Int, c0 + 1 + 1 + 1 + 1 + 1 + 1 + 1 + 1 + (P.record.before.data.bs.length : Int) = z := ⟨_, rfl⟩
    have hl1 : 0 ≤ c1 := by omega
    have hu1 : c1 + 3 + (P.record.after.data.bs.length : Int) + (P.record.txns.bs.length : Int) + (P.record.dirty.bs.length : Int) + (P.record.image.bs.length : Int) ≤ 1125899906842624 := by omega
    have HB1 := hid hcc
    rw [hcc]
    clear hcc hk ho z hl0 hu0 HU0
    have z : x1.cell? ⟨g, k * 16 + 9, none⟩ = some (.bool P.record.after.used) := HO9.out.cellMid (HLN _).out 9 (by decide) _ (by rw [HQL.out]; rfl)
    have zf := HO9.out.frozen (HLN _).out (k * 16 + 9)
    go_upto_region 22 with fail
    have HO10 := hid (HO9.out.set (p' := (fE P (c0) (c0 + 1) (c0 + 1 + 1) (c0 + 1 + 1 + 1) (c0 + 1 + 1 + 1 + 1) (c0 + 1 + 1 + 1 + 1 + 1) (c0 + 1 + 1 + 1 + 1 + 1 + 1) ((c0 + 1 + 1 + 1 + 1 + 1 + 1 + 1) % 3 == 0) (c1 % 3 == 0) P.record.uN P.record.nT)) (HLN _).out 9 (.bool (c1 % 3 == 0)) (by decide) rfl rfl rfl (k * 16 + 9) (by rw [HQL.out]; rfl))
    have HK := hid (HK.out.setCell (p := ⟨g, k * 16 + 9, none⟩) (.inr (.inl rfl)) (.bool (c1 % 3 == 0)))
    have HR := hid (HR.out.setG (k * 16 + 9) (.bool (c1 % 3 == 0)) (fun b hb => HG.out b (HU1.out b hb)))
    generalize (x1.setCell ⟨g, k * 16 + 9, none⟩ (.bool (c1 % 3 == 0))) = y9 at HO10 HK HR ⊢
    clear z zf HO9
    have z : y9.cell? ⟨g, k * 16 + 10, none⟩ = some (P.record.after.data.v) := HO10.out.cellMid (HLN _).out 10 (by decide) _ (by rw [HQL.out]; rfl)
    go_wp2_with fail
    refine (markByteS_own 0 P.record.after.data.v P.record.after.data.bs (c1 + 1) _ (by omega) (by omega) (by omega) (OwnL.of_one HR.out.right.left)).mono ?_
    rintro e x2 ⟨rfl, ho, hk⟩
    have hk : Kept (FootL P.record.after.data.rows) _ x2 := hk.mono (fun b _ h => (footL_ints _ _ _ _ _).2 h)
    have ho : OwnL x2 ((P.record.after.data.marked (c1 + 1)).rows) := BS.own_marked.2 (OwnL.one ho)
    have HO11 := hid (HO10.out.kept hk (fun b hb h => HG.out b (HU1.out b (footIn b h)) (by have h2 : g = b := (by simpa [Value.ownBlock] using footFr_head hb); exact h2.symm)))
    clear HO10
    have HK := hid (HK.out.next hk (fun b _ h => .inr (HU1.out b (footIn b h))))
    have HR := hid (HR.out.midMark ho (fun b => (BS.foot_marked P.record.after.data (c1 + 1) b).1) hk)
    have HU2 := hid (fun b hb => HU1.out b (footMid (fun b => (BS.foot_marked P.record.after.data (c1 + 1) b).1) b hb))
    obtain ⟨c2, hcc⟩ : ∃ z : Int, c1 + 1 + (P.record.after.data.bs.length : Int) = z := ⟨_, rfl⟩
    have hl2 : 0 ≤ c2 := by omega
    have hu2 : c2 + 2 + (P.record.txns.bs.length : Int) + (P.record.dirty.bs.length : Int) + (P.record.image.bs.length : Int) ≤ 1125899906842624 := by omega
    have HB2 := hid hcc
    rw [hcc]
    clear hcc hk ho z hl1 hu1 HU1
    have z : x2.cell? ⟨g, k * 16 + 11, none⟩ = some (.int .i64 P.record.uN) := HO11.out.cellMid (HLN _).out 11 (by decide) _ (by rw [HQL.out]; rfl)
    have zf := HO11.out.frozen (HLN _).out (k * 16 + 11)
    go_upto_region 25 with fail
    have HO12 := hid (HO11.out.set (p' := (fE P (c0) (c0 + 1) (c0 + 1 + 1) (c0 + 1 + 1 + 1) (c0 + 1 + 1 + 1 + 1) (c0 + 1 + 1 + 1 + 1 + 1) (c0 + 1 + 1 + 1 + 1 + 1 + 1) ((c0 + 1 + 1 + 1 + 1 + 1 + 1 + 1) % 3 == 0) (c1 % 3 == 0) (c2) P.record.nT)) (HLN _).out 11 (.int .i64 (c2)) (by decide) rfl rfl rfl (k * 16 + 11) (by rw [HQL.out]; rfl))
    have HK := hid (HK.out.setCell (p := ⟨g, k * 16 + 11, none⟩) (.inr (.inl rfl)) (.int .i64 (c2)))
    have HR := hid (HR.out.setG (k * 16 + 11) (.int .i64 (c2)) (fun b hb => HG.out b (HU2.out b hb)))
    generalize (x2.setCell ⟨g, k * 16 + 11, none⟩ (.int .i64 (c2))) = y11 at HO12 HK HR ⊢
    clear z zf HO11
    have z : y11.cell? ⟨g, k * 16 + 12, none⟩ = some (.int .i64 P.record.nT) := HO12.out.cellMid (HLN _).out 12 (by decide) _ (by rw [HQL.out]; rfl)
    have zf := HO12.out.frozen (HLN _).out (k * 16 + 12)
    go_upto_region 27 with fail
    have HO13 := hid (HO12.out.set (p' := (fE P (c0) (c0 + 1) (c0 + 1 + 1) (c0 + 1 + 1 + 1) (c0 + 1 + 1 + 1 + 1) (c0 + 1 + 1 + 1 + 1 + 1) (c0 + 1 + 1 + 1 + 1 + 1 + 1) ((c0 + 1 + 1 + 1 + 1 + 1 + 1 + 1) % 3 == 0) (c1 % 3 == 0) (c2) (c2 + 1))) (HLN _).out 12 (.int .i64 (c2 + 1)) (by decide) rfl rfl rfl (k * 16 + 12) (by rw [HQL.out]; rfl))
    have HK := hid (HK.out.setCell (p := ⟨g, k * 16 + 12, none⟩) (.inr (.inl rfl)) (.int .i64 (c2 + 1)))
    have HR := hid (HR.out.setG (k * 16 + 12) (.int .i64 (c2 + 1)) (fun b hb => HG.out b (HU2.out b hb)))
    generalize (y11.setCell ⟨g, k * 16 + 12, none⟩ (.int .i64 (c2 + 1))) = y12 at HO13 HK HR ⊢
    clear z zf HO12
    have z : y12.cell? ⟨g, k * 16 + 13, none⟩ = some (P.record.txns.v) := HO13.out.cellMid (HLN _).out 13 (by decide) _ (by rw [HQL.out]; rfl)
    go_wp2_with fail
    refine (markTxnEntryS_own P.record.txns (c2 + 1 + 1) _ (by omega) (by omega) HR.out.right.left).mono ?_
    rintro e x3 ⟨rfl, ho, hk⟩
    have hk : Kept (FootL (P.record.txns.rows 4)) _ x3 := hk
    have HO14 := hid (HO13.out.kept hk (fun b hb h => HG.out b (HU2.out b (footIn b h)) (by have h2 : g = b := (by simpa [Value.ownBlock] using footFr_head hb); exact h2.symm)))
    clear HO13
    have HK := hid (HK.out.next hk (fun b _ h => .inr (HU2.out b (footIn b h))))
    have HR := hid (HR.out.midMark ho (fun b => (FR.foot_marked 4 P.record.txns (c2 + 1 + 1) b).1) hk)
    have HU3 := hid (fun b hb => HU2.out b (footMid (fun b => (FR.foot_marked 4 P.record.txns (c2 + 1 + 1) b).1) b hb))
    obtain ⟨c3, hcc⟩ : ∃ z : Int, c2 + 1 + 1 + (P.record.txns.bs.length : Int) = z := ⟨_, rfl⟩
    have hl3 : 0 ≤ c3 := by omega
    have hu3 : c3 + 0 + (P.record.dirty.bs.length : Int) + (P.record.image.bs.length : Int) ≤ 1125899906842624 := by omega
    have HB3 := hid hcc
    rw [hcc]
    clear hcc hk ho z hl2 hu2 HU2
    have z : x3.cell? ⟨g, k * 16 + 14, none⟩ = some (P.record.dirty.v) := HO14.out.cellMid (HLN _).out 14 (by decide) _ (by rw [HQL.out]; rfl)
    go_wp2_with fail
    refine (markDirtyEntryS_own P.record.dirty (c3) _ (by omega) (by omega) HR.out.right.left).mono ?_
    rintro e x4 ⟨rfl, ho, hk⟩
    have hk : Kept (FootL (P.record.dirty.rows 2)) _ x4 := hk
    have HO15 := hid (HO14.out.kept hk (fun b hb h => HG.out b (HU3.out b (footIn b h)) (by have h2 : g = b := (by simpa [Value.ownBlock] using footFr_head hb); exact h2.symm)))
    clear HO14
    have HK := hid (HK.out.next hk (fun b _ h => .inr (HU3.out b (footIn b h))))
    have HR := hid (HR.out.midMark ho (fun b => (FR.foot_marked 2 P.record.dirty (c3) b).1) hk)
    have HU4 := hid (fun b hb => HU3.out b (footMid (fun b => (FR.foot_marked 2 P.record.dirty (c3) b).1) b hb))
    obtain ⟨c4, hcc⟩ : ∃ z : Int, c3 + (P.record.dirty.bs.length : Int) = z := ⟨_, rfl⟩
    have hl4 : 0 ≤ c4 := by omega
    have hu4 : c4 + 0 + (P.record.image.bs.length : Int) ≤ 1125899906842624 := by omega
    have HB4 := hid hcc
    rw [hcc]
    clear hcc hk ho z hl3 hu3 HU3
    have z : x4.cell? ⟨g, k * 16 + 15, none⟩ = some (P.record.image.v) := HO15.out.cellMid (HLN _).out 15 (by decide) _ (by rw [HQL.out]; rfl)
    go_wp2_with fail
    refine (markByteS_own 0 P.record.image.v P.record.image.bs (c4) _ (by omega) (by omega) (by omega) (OwnL.of_one HR.out.right.left)).mono ?_
    rintro e x5 ⟨rfl, ho, hk⟩
    have hk : Kept (FootL P.record.image.rows) _ x5 := hk.mono (fun b _ h => (footL_ints _ _ _ _ _).2 h)
    have ho : OwnL x5 ((P.record.image.marked (c4)).rows) := BS.own_marked.2 (OwnL.one ho)
    have HO16 := hid (HO15.out.kept hk (fun b hb h => HG.out b (HU4.out b (footIn b h)) (by have h2 : g = b := (by simpa [Value.ownBlock] using footFr_head hb); exact h2.symm)))
    clear HO15
    have HK := hid (HK.out.next hk (fun b _ h => .inr (HU4.out b (footIn b h))))
    have HR := hid (HR.out.midMark ho (fun b => (BS.foot_marked P.record.image (c4) b).1) hk)
    have HU5 := hid (fun b hb => HU4.out b (footMid (fun b => (BS.foot_marked P.record.image (c4) b).1) b hb))
    obtain ⟨c5, hcc⟩ : ∃ z : Int, c4 + (P.record.image.bs.length : Int) = z := ⟨_, rfl⟩
    have hl5 : 0 ≤ c5 := by omega
    have hu5 : c5 + 0 ≤ 1125899906842624 := by omega
    have HB5 := hid hcc
    rw [hcc]
    clear hcc hk ho z hl4 hu4 HU4
    go_wp2
    go_roundw
    case rel =>
     have e1 := HB1.out
     have e2 := HB2.out
     have e3 := HB3.out
     have e4 := HB4.out
     have e5 := HB5.out
     have hHO := HO16.out
     have hHR := HR.out
     have hHU := HU5.out
     have hms := HMS.out
     have hmr := HMR.out
     have hst := HST.out
     subst e1 e2 e3 e4 e5
     refine ⟨k + 1, _, by omega, by go_num, rfl, by unfold Hid; rw [hst]; omega, ?_, ?_, ?_, HK⟩
     ·unfold Hid
      rw [hms, List.append_assoc]
      exact hHO
     ·unfold Hid
      rw [hmr]
      unfold mkW
      simp only [List.append_assoc] at hHR ⊢
      exact hHR
     ·unfold Hid
      rw [hmr]
      unfold mkW
      simp only [List.append_assoc] at hHU ⊢
      exact hHU
    case measure => simp [intOf]; omega
   ·go_wp2
    go_ret
    obtain rfl : k = len := by omega
    have h2 := HL.out
    have h3 := HC.out
    have h4 := HO.out
    have h5 := HR.out
    have h6 := HU.out
    rw [← h2, List.take_length] at h3 h4 h5 h6
    rw [List.drop_length] at h4 h5 h6
    rw [List.append_nil] at h4
    rw [show frRows [] = [] from rfl, List.append_nil] at h5 h6
    rw [h2] at h4
    subst h3
    exact ⟨by first | rfl | trivial, ⟨h4, h5, h6⟩, HK0.out⟩
theorem heldLogFrameS_own (va : Value) (ps : List StLogFrame) (k0 : Int) (w : World) (h0 : 0 ≤ k0) (h1 : k0 + mzFr ps ≤ 1125899906842624) (hn : ps.length ≤ 1125899906842624) (ha : MkFr w va ps k0) :
  Calls Tryz.prog 33 #[va, .int .i64 k0] w fun e w' => e = .returned (.int .i64 (k0 + mzFr ps)) ∧ Same w w' := by
 by_cases hz : ps.length = 0
 ·obtain rfl : ps = [] := List.length_eq_zero_iff.1 hz
  obtain ⟨aa, ca, rfl⟩ : ∃ aa ca, va = .slice aa 0 ca := by rcases ha.own.form with ⟨rfl, _⟩ | ⟨g, cap, rfl, _⟩ <;> exact ⟨_, _, rfl⟩
  clear ha hn hz h1
  go_enter Tryz.func33, Tryz.ntmps33
  go_wp2
  refine wp_loop_rounds 1 ?_
  rw [rounds_succ]
  go_wp2
  go_ret
  exact ⟨by simp [mzFr], Kept.refl _ _⟩
 ·obtain ⟨g, cap, rfl⟩ : ∃ g cap, va = .slice (some ⟨g, 0, none⟩) ps.length cap := by
   rcases ha.own.form with ⟨_, h⟩ | ⟨g, cap, h, _⟩
   ·have := congrArg List.length h; rw [mkS_length] at this; exact absurd this hz
   ·exact ⟨g, cap, by rw [h, mkS_length]⟩
  have HA := hid ha
  have H1 := hid h1
  clear ha h1
  generalize hl : ps.length = len at *
  have HL : Hid (ps.length = len) := hl
  clear hl
  go_enter Tryz.func33, Tryz.ntmps33
  go_wp2
  go_loopw [1, 5] (fun v i wr => ∃ (k : Nat) (c : Int), k ≤ len ∧ i = .int .i64 k ∧ v = .int .i64 c ∧ Hid (c = k0 + mzFr (ps.take k)) ∧ Hid (Same w wr)) (fun _ i _ => len - (intOf i).toNat)
  case atStart => exact ⟨0, k0, Nat.zero_le _, rfl, rfl, by simp [Hid, mzFr], Kept.refl _ _⟩
  case round =>
   obtain ⟨k, c0, hk, rfl, rfl, HC, HKr⟩ := hrel
   by_cases hlt : k < len
   ·have hlp : k < ps.length := by rw [HL.out]; exact hlt
    have hst := mzFr_step ps k hlp
    have hat := mkS_at k0 ps k hlp
    have hrw := mkRows_at k hlp HA.out.rows
    rw [← HC.out] at hat hrw
    obtain ⟨P, hP⟩ : ∃ P, ps[k] = P := ⟨_, rfl⟩
    rw [hP] at hst hat hrw
    obtain ⟨c1, hcc1⟩ : ∃ z : Int, c0 + 1 + 1 + 1 + 1 + 1 + 1 + 1 + 1 + (P.record.before.data.bs.length : Int) = z := ⟨_, rfl⟩
    obtain ⟨c2, hcc2⟩ : ∃ z : Int, c1 + 1 + (P.record.after.data.bs.length : Int) = z := ⟨_, rfl⟩
    obtain ⟨c3, hcc3⟩ : ∃ z : Int, c2 + 1 + 1 + (P.record.txns.bs.length : Int) = z := ⟨_, rfl⟩
    obtain ⟨c4, hcc4⟩ : ∃ z : Int, c3 + (P.record.dirty.bs.length : Int) = z := ⟨_, rfl⟩
    obtain ⟨c5, hcc5⟩ : ∃ z : Int, c4 + (P.record.image.bs.length : Int) = z := ⟨_, rfl⟩
    have hat2 : mkE c0 P = (fE P (c0) (c0 + 1) (c0 + 1 + 1) (c0 + 1 + 1 + 1) (c0 + 1 + 1 + 1 + 1) (c0 + 1 + 1 + 1 + 1 + 1) (c0 + 1 + 1 + 1 + 1 + 1 + 1) ((c0 + 1 + 1 + 1 + 1 + 1 + 1 + 1) % 3 == 0) (c1 % 3 == 0) (c2) (c2 + 1)) := by unfold mkE; dsimp only; simp only [hcc1, hcc2, hcc3, hcc4]
    have hrw2 : OwnL w (((P.record.before.data.marked (c0 + 1 + 1 + 1 + 1 + 1 + 1 + 1 + 1)).rows) ++ (((P.record.after.data.marked (c1 + 1)).rows) ++ (((P.record.txns.marked (c2 + 1 + 1)).rows 4) ++ (((P.record.dirty.marked (c3)).rows 2) ++ (((P.record.image.marked (c4)).rows)))))) := by unfold mkW at hrw; dsimp only at hrw; rw [hcc1, hcc2, hcc3, hcc4] at hrw; exact hrw
    rw [hat2] at hat
    have HCE := (show Hid (∀ i, i < 16 → w.cell? ⟨g, k * 16 + i, none⟩ = (kFr.cells (fE P (c0) (c0 + 1) (c0 + 1 + 1) (c0 + 1 + 1 + 1) (c0 + 1 + 1 + 1 + 1) (c0 + 1 + 1 + 1 + 1 + 1) (c0 + 1 + 1 + 1 + 1 + 1 + 1) ((c0 + 1 + 1 + 1 + 1 + 1 + 1 + 1) % 3 == 0) (c1 % 3 == 0) (c2) (c2 + 1)))[i]?) from fun i hi => by
     have h := HA.out.own.cell (by rw [mkS_length]; exact HL.out.symm) k i (by rw [mkS_length]; exact hlp) hi
     rw [hat] at h
     exact h)
    have HRW := hid hrw2
    have hsz : P.size = (P.record.before.data.bs.length : Int) + (P.record.after.data.bs.length : Int) + (P.record.txns.bs.length : Int) + (P.record.dirty.bs.length : Int) + (P.record.image.bs.length : Int) := rfl
    have hc0 : 0 ≤ c0 := by have := HC.out; have := mzFr_nonneg (ps.take k); omega
    have hc9 : c0 + 11 + P.size ≤ 1125899906842624 := by have := HC.out; have := H1.out; have := mzFr_take_le ps (k + 1); omega
    rw [hsz] at hc9 hst
    have HST := (show Hid (k0 + mzFr (ps.take (k + 1)) = c5) from by have := HC.out; unfold Hid; omega)
    have hb0 : c0 + 11 ≤ 1125899906842624 := by omega
    have hb1 : 0 ≤ c1 ∧ c1 + 3 ≤ 1125899906842624 := by omega
    have hb2 : 0 ≤ c2 ∧ c2 + 2 ≤ 1125899906842624 := by omega
    have hb3 : 0 ≤ c3 ∧ c3 ≤ 1125899906842624 := by omega
    have hb4 : 0 ≤ c4 ∧ c4 ≤ 1125899906842624 := by omega
    have hb5 : 0 ≤ c5 ∧ c5 ≤ 1125899906842624 := by omega
    have HB := (show Hid (c0 + 11 + (P.record.before.data.bs.length : Int) + (P.record.after.data.bs.length : Int) + (P.record.txns.bs.length : Int) + (P.record.dirty.bs.length : Int) + (P.record.image.bs.length : Int) ≤ 1125899906842624) from by unfold Hid; omega)
    have HB1 := hid hcc1
    have HB2 := hid hcc2
    have HB3 := hid hcc3
    have HB4 := hid hcc4
    have HB5 := hid hcc5
    clear hst hat hrw hat2 hrw2 hP hsz hc9 hcc1 hcc2 hcc3 hcc4 hcc5
    have z0 : wr.cell? ⟨g, k * 16, none⟩ = some (.int .i64 (c0)) := HKr.out.cellOf (HCE.out 0 (by decide)) id
    have z1 : wr.cell? ⟨g, k * 16 + 1, none⟩ = some (.int .i64 (c0 + 1)) := HKr.out.cellOf (HCE.out 1 (by decide)) id
    have z2 : wr.cell? ⟨g, k * 16 + 2, none⟩ = some (.int .i64 (c0 + 1 + 1)) := HKr.out.cellOf (HCE.out 2 (by decide)) id
    have z3 : wr.cell? ⟨g, k * 16 + 3, none⟩ = some (.int .i64 (c0 + 1 + 1 + 1)) := HKr.out.cellOf (HCE.out 3 (by decide)) id
    have z4 : wr.cell? ⟨g, k * 16 + 4, none⟩ = some (.int .i64 (c0 + 1 + 1 + 1 + 1)) := HKr.out.cellOf (HCE.out 4 (by decide)) id
    have z5 : wr.cell? ⟨g, k * 16 + 5, none⟩ = some (.int .i64 (c0 + 1 + 1 + 1 + 1 + 1)) := HKr.out.cellOf (HCE.out 5 (by decide)) id
    have z6 : wr.cell? ⟨g, k * 16 + 6, none⟩ = some (.int .i64 (c0 + 1 + 1 + 1 + 1 + 1 + 1)) := HKr.out.cellOf (HCE.out 6 (by decide)) id
    have z7 : wr.cell? ⟨g, k * 16 + 7, none⟩ = some (.bool ((c0 + 1 + 1 + 1 + 1 + 1 + 1 + 1) % 3 == 0)) := HKr.out.cellOf (HCE.out 7 (by decide)) id
    have z8 : wr.cell? ⟨g, k * 16 + 8, none⟩ = some (P.record.before.data.v) := HKr.out.cellOf (HCE.out 8 (by decide)) id
    have hng : ¬ c1 < 0 := by omega
    have HQ := (show Hid (Own 0 P.record.before.data.e .u8 wr P.record.before.data.v (marks (c0 + 1 + 1 + 1 + 1 + 1 + 1 + 1 + 1) P.record.before.data.bs.length)) from (OwnL.of_one (BS.own_marked.1 (HRW.out.left))).same HKr.out)
    go_wp2_with fail
    refine (heldByteS_own 0 P.record.before.data.v P.record.before.data.bs.length (c0 + 1 + 1 + 1 + 1 + 1 + 1 + 1 + 1) _ (by have := HB.out; omega) (by omega) (by have := HB.out; omega) HQ.out).mono ?_
    rintro e x1 ⟨rfl, hw⟩
    have HK1 := (show Hid (Same w x1) from by rw [hw]; exact HKr.out)
    clear hw
    rw [HB1.out]
    clear HQ z0 z1 z2 z3 z4 z5 z6 z7 z8
    have z9 : x1.cell? ⟨g, k * 16 + 9, none⟩ = some (.bool (c1 % 3 == 0)) := HK1.out.cellOf (HCE.out 9 (by decide)) id
    have z10 : x1.cell? ⟨g, k * 16 + 10, none⟩ = some (P.record.after.data.v) := HK1.out.cellOf (HCE.out 10 (by decide)) id
    have hng : ¬ c2 < 0 := by omega
    have HQ := (show Hid (Own 0 P.record.after.data.e .u8 x1 P.record.after.data.v (marks (c1 + 1) P.record.after.data.bs.length)) from (OwnL.of_one (BS.own_marked.1 (HRW.out.right.left))).same HK1.out)
    go_wp2_with fail
    refine (heldByteS_own 0 P.record.after.data.v P.record.after.data.bs.length (c1 + 1) _ (by have := HB.out; omega) (by omega) (by have := HB.out; omega) HQ.out).mono ?_
    rintro e x2 ⟨rfl, hw⟩
    have HK2 := (show Hid (Same w x2) from by rw [hw]; exact HK1.out)
    clear hw
    rw [HB2.out]
    clear HQ z9 z10
    have z11 : x2.cell? ⟨g, k * 16 + 11, none⟩ = some (.int .i64 (c2)) := HK2.out.cellOf (HCE.out 11 (by decide)) id
    have z12 : x2.cell? ⟨g, k * 16 + 12, none⟩ = some (.int .i64 (c2 + 1)) := HK2.out.cellOf (HCE.out 12 (by decide)) id
    have z13 : x2.cell? ⟨g, k * 16 + 13, none⟩ = some (P.record.txns.v) := HK2.out.cellOf (HCE.out 13 (by decide)) id
    have hng : ¬ c3 < 0 := by omega
    have HQ := (show Hid (OwnL x2 ((P.record.txns.marked (c2 + 1 + 1)).rows 4)) from (HRW.out.right.right.left).same HK2.out)
    go_wp2_with fail
    refine (heldTxnEntryS_own P.record.txns (c2 + 1 + 1) _ (by omega) (by have := HB1.out; have := HB2.out; have := HB3.out; have := HB4.out; have := HB5.out; omega) HQ.out).mono ?_
    rintro e x3 ⟨rfl, hk⟩
    have HK3 := hid (HK2.out.trans hk)
    clear hk
    rw [HB3.out]
    clear HQ z11 z12 z13
    have z14 : x3.cell? ⟨g, k * 16 + 14, none⟩ = some (P.record.dirty.v) := HK3.out.cellOf (HCE.out 14 (by decide)) id
    have hng : ¬ c4 < 0 := by omega
    have HQ := (show Hid (OwnL x3 ((P.record.dirty.marked (c3)).rows 2)) from (HRW.out.right.right.right.left).same HK3.out)
    go_wp2_with fail
    refine (heldDirtyEntryS_own P.record.dirty (c3) _ (by omega) (by have := HB1.out; have := HB2.out; have := HB3.out; have := HB4.out; have := HB5.out; omega) HQ.out).mono ?_
    rintro e x4 ⟨rfl, hk⟩
    have HK4 := hid (HK3.out.trans hk)
    clear hk
    rw [HB4.out]
    clear HQ z14
    have z15 : x4.cell? ⟨g, k * 16 + 15, none⟩ = some (P.record.image.v) := HK4.out.cellOf (HCE.out 15 (by decide)) id
    have hng : ¬ c5 < 0 := by omega
    have HQ := (show Hid (Own 0 P.record.image.e .u8 x4 P.record.image.v (marks (c4) P.record.image.bs.length)) from (OwnL.of_one (BS.own_marked.1 (HRW.out.right.right.right.right))).same HK4.out)
    go_wp2_with fail
    refine (heldByteS_own 0 P.record.image.v P.record.image.bs.length (c4) _ (by have := HB.out; omega) (by omega) (by have := HB.out; omega) HQ.out).mono ?_
    rintro e x5 ⟨rfl, hw⟩
    have HK5 := (show Hid (Same w x5) from by rw [hw]; exact HK4.out)
    clear hw
    rw [HB5.out]
    clear HQ z15
    go_wp2
    go_roundw
    case rel => exact ⟨k + 1, c5, by omega, by go_num, rfl, HST.out.symm, HK5⟩
    case measure => simp [intOf]; omega
   ·go_wp2
    go_ret
    obtain rfl : k = len := by omega
    have h2 := HL.out
    have h3 := HC.out
    rw [← h2, List.take_length] at h3
    exact ⟨ret_int h3, HKr.out⟩
end Go.Proofs.YtaojjcnmififoaaGreat
