import Derived.Test.YtaojjcnmififoaaGreatG41
namespace Go.Proofs.YtaojjcnmififoaaGreat
set_option maxRecDepth 100000
set_option maxHeartbeats 8000000
set_option linter.unusedVariables false
set_option linter.unusedSimpArgs false
open Go Go.RowKit
def fE (P : StLogFrame) (a b c d e f g : Int) (h i : Bool) (j k : Int) : StLogFrame := ⟨a, b, ⟨c, d, e, f, g, ⟨h, P.record.before.data⟩, ⟨i, P.record.after.data⟩, j, k, P.record.txns, P.record.dirty, P.record.image⟩⟩
theorem OwnL.setG {w : World} {rs : List Row} {g : Nat} (h : OwnL w rs) (j : Nat) (u : Value) (hg : ∀ b, Rf rs b → ¬ b = g) : OwnL (w.setCell ⟨g, j, none⟩ u) rs :=
 h.kept (R := fun b => b = g) (Kept.setCell (R := fun b => b = g) kZ0 (p := ⟨g, j, none⟩) (.inr rfl) _) hg
def mkE (c0 : Int) (P : StLogFrame) : StLogFrame :=
 let c1 := c0 + 1 + 1 + 1 + 1 + 1 + 1 + 1 + 1 + (P.record.before.data.bs.length : Int)
 let c2 := c1 + 1 + (P.record.after.data.bs.length : Int)
 let c3 := c2 + 1 + 1 + (P.record.txns.bs.length : Int)
 let c4 := c3 + (P.record.dirty.bs.length : Int)
 (fE P (c0) (c0 + 1) (c0 + 1 + 1) (c0 + 1 + 1 + 1) (c0 + 1 + 1 + 1 + 1) (c0 + 1 + 1 + 1 + 1 + 1) (c0 + 1 + 1 + 1 + 1 + 1 + 1) ((c0 + 1 + 1 + 1 + 1 + 1 + 1 + 1) % 3 == 0) (c1 % 3 == 0) (c2) (c2 + 1))
def mkW (c0 : Int) (P : StLogFrame) : List Row :=
 let c1 := c0 + 1 + 1 + 1 + 1 + 1 + 1 + 1 + 1 + (P.record.before.data.bs.length : Int)
 let c2 := c1 + 1 + (P.record.after.data.bs.length : Int)
 let c3 := c2 + 1 + 1 + (P.record.txns.bs.length : Int)
 let c4 := c3 + (P.record.dirty.bs.length : Int)
 ((P.record.before.data.marked (c0 + 1 + 1 + 1 + 1 + 1 + 1 + 1 + 1)).rows) ++ (((P.record.after.data.marked (c1 + 1)).rows) ++ (((P.record.txns.marked (c2 + 1 + 1)).rows 4) ++ (((P.record.dirty.marked (c3)).rows 2) ++ (((P.record.image.marked (c4)).rows)))))
def mkS (c : Int) : List StLogFrame → List StLogFrame
 | [] => []
 | p :: ps => mkE c p :: mkS (c + 11 + p.size) ps
def Tf (c : Int) : List StLogFrame → List Row
 | [] => []
 | p :: ps => mkW c p ++ Tf (c + 11 + p.size) ps
theorem YK (c : Int) (ps qs : List StLogFrame) : mkS c (ps ++ qs) = mkS c ps ++ mkS (c + Sn ps) qs := by
 induction ps generalizing c with
 | nil => simp [mkS, Sn]
 | cons p ps ih => simp only [List.cons_append, mkS, Sn, ih, Int.add_assoc]
theorem Wi (c : Int) (ps qs : List StLogFrame) : Tf c (ps ++ qs) = Tf c ps ++ Tf (c + Sn ps) qs := by
 induction ps generalizing c with
 | nil => simp [Tf, Sn]
 | cons p ps ih => simp only [List.cons_append, Tf, Sn, ih, Int.add_assoc, List.append_assoc]
theorem TD (c : Int) (ps : List StLogFrame) : (mkS c ps).length = ps.length := by
 induction ps generalizing c with
 | nil => rfl
 | cons p ps ih => simp [mkS, ih]
theorem jd4 (c : Int) (ps : List StLogFrame) (k : Nat) (h : k < ps.length) : mkS c (ps.take (k + 1)) = mkS c (ps.take k) ++ [mkE (c + Sn (ps.take k)) ps[k]] := by
 rw [List.take_succ_eq_append_getElem h, YK]
 rfl
theorem jbn (c : Int) (ps : List StLogFrame) (k : Nat) (h : k < ps.length) : Tf c (ps.take (k + 1)) = Tf c (ps.take k) ++ mkW (c + Sn (ps.take k)) ps[k] := by
 rw [List.take_succ_eq_append_getElem h, Wi]
 simp [Tf]
theorem jfv (c : Int) (ps : List StLogFrame) (k : Nat) (h : k < ps.length) : (mkS c ps)[k]'(by rw [TD]; exact h) = mkE (c + Sn (ps.take k)) ps[k] := by
 have e : mkS c ps = mkS c (ps.take k) ++ mkS (c + Sn (ps.take k)) (ps.drop k) := by rw [← YK, List.take_append_drop]
 have hd := List.drop_eq_getElem_cons h
 have hl : (mkS c (ps.take k)).length = k := by rw [TD, List.length_take]; omega
 have e2 : (mkS c ps)[k]? = some (mkE (c + Sn (ps.take k)) ps[k]) := by
  rw [e, List.getElem?_append_right (by omega), hl, Nat.sub_self, hd]
  rfl
 exact List.getElem_eq_iff _ |>.2 e2
theorem jda {w : World} {c : Int} {ps : List StLogFrame} (k : Nat) (h : k < ps.length) (ho : OwnL w (Tf c ps)) : OwnL w (mkW (c + Sn (ps.take k)) ps[k]) := by
 have e : Tf c ps = Tf c (ps.take k) ++ (mkW (c + Sn (ps.take k)) ps[k] ++ Tf (c + Sn (ps.take k) + 11 + ps[k].size) (ps.drop (k + 1))) := by
  have h2 := Wi c (ps.take k) (ps.drop k)
  rw [List.take_append_drop, List.drop_eq_getElem_cons h] at h2
  exact h2
 rw [e] at ho
 exact ho.right.left
theorem OwnL.midMark {w w' : World} {A rs kC B : List Row} (h : OwnL w (A ++ (rs ++ B))) (h' : OwnL w' kC) (hf : ∀ b, Rf kC b → Rf rs b) (hk : Kept (Rf rs) w w') : OwnL w' ((A ++ kC) ++ B) := by
 have hA := h.left.kept hk (fun b hb hr => h.cut b hb ((Q7 _ _ _).2 (.inl hr)))
 have hB := h.right.right.kept hk (fun b hb hr => h.right.cut b hr hb)
 refine (hA.append h' (fun b hb e => h.cut b hb ((Q7 _ _ _).2 (.inl (hf b e))))).append hB ?_
 intro b hb e
 rcases (Q7 _ _ _).1 hb with hb | hb
 ·exact h.cut b hb ((Q7 _ _ _).2 (.inr e))
 ·exact h.right.cut b (hf b hb) e
theorem WX {A rs kC B : List Row} (hf : ∀ b, Rf kC b → Rf rs b) (b : Nat) (h : Rf ((A ++ kC) ++ B) b) : Rf (A ++ (rs ++ B)) b := by
 rcases (Q7 _ _ _).1 h with h | h
 ·rcases (Q7 _ _ _).1 h with h | h
  ·exact (Q7 _ _ _).2 (.inl h)
  ·exact (Q7 _ _ _).2 (.inr ((Q7 _ _ _).2 (.inl (hf b h))))
 ·exact (Q7 _ _ _).2 (.inr ((Q7 _ _ _).2 (.inr h)))
theorem U8 {A rs B : List Row} (b : Nat) (h : Rf rs b) : Rf (A ++ (rs ++ B)) b := (Q7 _ _ _).2 (.inr ((Q7 _ _ _).2 (.inl h)))
structure MkFr (w : World) (v : Value) (ps : List StLogFrame) (c : Int) : Prop where
 own : OwnR kFr 0 55 5 w v (mkS c ps)
 rows : OwnL w (Tf c ps)
 foot : ∀ b, Rf (Tf c ps) b → Rf (Sb ps) b
theorem MkFr.kept {R : Nat → Prop} {w w' : World} {v : Value} {ps : List StLogFrame} {c : Int} (h : MkFr w v ps c) (hk : Kept R w w') (hr : ∀ b, Sm v ps b → ¬ R b) : MkFr w' v ps c :=
 ⟨h.own.kept hk (fun b hb => hr b (.inl (TA hb))), h.rows.kept hk (fun b hb => hr b (.inr (h.foot b hb))), h.foot⟩
theorem MkFr.same {w w' : World} {v : Value} {ps : List StLogFrame} {c : Int} (h : MkFr w v ps c) (hk : Same w w') : MkFr w' v ps c := h.kept hk (fun _ _ => id)
theorem YL (va : Value) (ps : List StLogFrame) (k0 : Int) (w : World) (h0 : 0 ≤ k0) (h1 : k0 + Sn ps ≤ 1125899906842624) (hn : ps.length ≤ 1125899906842624) (ha : OwnFr w va ps) :
  Calls Tryz.prog 32 #[va, .int .i64 k0] w fun e w' => e = .returned (.int .i64 (k0 + Sn ps)) ∧ MkFr w' va ps k0 ∧ Kept (Sm va ps) w w' := by
 by_cases hz : ps.length = 0
 ·obtain rfl : ps = [] := List.length_eq_zero_iff.1 hz
  have mQ := hid ha.own
  obtain ⟨aa, ca, rfl⟩ : ∃ aa ca, va = .slice aa 0 ca := by rcases ha.own.form with ⟨rfl, _⟩ | ⟨g, cap, rfl, _⟩ <;> exact ⟨_, _, rfl⟩
  clear ha hn hz h1
  go_enter Tryz.func32, Tryz.ntmps32
  go_wp2
  refine wp_loop_rounds 1 ?_
  rw [rounds_succ]
  go_wp2
  go_ret
  exact ⟨by simp [Sn], ⟨mQ.out, OwnL.nil _, fun b hb => hb⟩, kZ0⟩
 ·obtain ⟨g, cap, rfl, hg⟩ : ∃ g cap, va = .slice (some ⟨g, 0, none⟩) ps.length cap ∧ g < w.heap.size := by
   rcases ha.own.form with ⟨_, rfl⟩ | ⟨g, cap, h, _, h2, _⟩
   ·simp at hz
   ·exact ⟨g, cap, h, h2⟩
  have HG := (show Hid (∀ b, Rf (Sb ps) b → ¬ b = g) from fun b hb e => ha.out b (by rw [e]; rfl) hb)
  have mQ := hid ha
  have H1 := hid h1
  clear ha h1
  generalize hl : ps.length = len at *
  have HL : Hid (ps.length = len) := hl
  clear hl
  go_enter Tryz.func32, Tryz.ntmps32
  go_wp2
  go_loopw [1, 5] (fun v i wr => ∃ (k : Nat) (c : Int), k ≤ len ∧ i = .int .i64 k ∧ v = .int .i64 c ∧ Hid (c = k0 + Sn (ps.take k)) ∧ Hid (OwnR kFr 0 55 5 wr (.slice (some ⟨g, 0, none⟩) len cap) (mkS k0 (ps.take k) ++ ps.drop k)) ∧ Hid (OwnL wr (Tf k0 (ps.take k) ++ Sb (ps.drop k))) ∧ Hid (∀ b, Rf (Tf k0 (ps.take k) ++ Sb (ps.drop k)) b → Rf (Sb ps) b) ∧ Hid (Kept (Sm (.slice (some ⟨g, 0, none⟩) len cap) ps) w wr)) (fun _ i _ => len - (intOf i).toNat)
  case atStart => exact ⟨0, k0, Nat.zero_le _, rfl, rfl, by simp [Hid, Sn], by simpa [Hid, mkS] using mQ.out.own, by simpa [Hid, Tf] using mQ.out.rows, by simp [Hid, Tf], kZ0⟩
  case round =>
   obtain ⟨k, c0, hk, rfl, rfl, HC, HO, HR, HU, aJ⟩ := hrel
   by_cases bH : k < len
   ·have dh : k < ps.length := by rw [HL.out]; exact bH
    have kc := ZR ps k dh
    have kx := WS ps (k + 1)
    have Bv := TB (ps.take k)
    have B1 := List.drop_eq_getElem_cons dh
    have sQ := jd4 k0 ps k dh
    have nG := jbn k0 ps k dh
    rw [← HC.out] at sQ nG
    obtain ⟨P, hP⟩ : ∃ P, ps[k] = P := ⟨_, rfl⟩
    rw [hP] at kc B1 sQ nG
    obtain ⟨qs, GZ⟩ : ∃ z, mkS k0 (ps.take k) = z := ⟨_, rfl⟩
    obtain ⟨Q, hQ⟩ : ∃ z, Tf k0 (ps.take k) = z := ⟨_, rfl⟩
    have gg : Hid (qs.length = k) := by unfold Hid; rw [← GZ, TD, List.length_take]; omega
    rw [GZ] at HO sQ
    rw [hQ] at HR HU nG
    have MM := hid sQ
    have Ms := hid nG
    have kr : 0 ≤ c0 := by have := HC.out; omega
    have gE : P.size = (P.record.before.data.bs.length : Int) + (P.record.after.data.bs.length : Int) + (P.record.txns.bs.length : Int) + (P.record.dirty.bs.length : Int) + (P.record.image.bs.length : Int) := rfl
    have qN : c0 + 11 + P.size ≤ 1125899906842624 := by have := HC.out; have := H1.out; omega
    rw [gE] at qN
    have pO := kr
    have Ly : c0 + 11 + (P.record.before.data.bs.length : Int) + (P.record.after.data.bs.length : Int) + (P.record.txns.bs.length : Int) + (P.record.dirty.bs.length : Int) + (P.record.image.bs.length : Int) ≤ 1125899906842624 := by omega
    have ko := (show Hid (k0 + Sn (ps.take (k + 1)) = c0 + 11 + ((P.record.before.data.bs.length : Int) + (P.record.after.data.bs.length : Int) + (P.record.txns.bs.length : Int) + (P.record.dirty.bs.length : Int) + (P.record.image.bs.length : Int))) from by have := HC.out; rw [← gE]; show k0 + Sn (ps.take (k + 1)) = c0 + 11 + P.size; omega)
    have oX : Sb (ps.drop k) = P.record.before.data.rows ++ (P.record.after.data.rows ++ ((P.record.txns.rows 4) ++ ((P.record.dirty.rows 2) ++ (P.record.image.rows ++ (Sb (ps.drop (k + 1))))))) := by
     rw [B1, XJ]
     simp only [StLogFrame.rows, StLogRecord.rows, StPageRecord.rows, List.append_assoc]
    have nX := (show Hid (∀ b, Rf (Q ++ (P.record.before.data.rows ++ (P.record.after.data.rows ++ ((P.record.txns.rows 4) ++ ((P.record.dirty.rows 2) ++ (P.record.image.rows ++ (Sb (ps.drop (k + 1))))))))) b → Rf (Sb ps) b) from by have h := HU.out; rw [oX] at h; exact h)
    have tG := (show Hid (OwnL wr (Q ++ (P.record.before.data.rows ++ (P.record.after.data.rows ++ ((P.record.txns.rows 4) ++ ((P.record.dirty.rows 2) ++ (P.record.image.rows ++ (Sb (ps.drop (k + 1)))))))))) from by have h := HR.out; rw [oX] at h; exact h)
    have iQ := (show Hid (OwnR kFr 0 55 5 wr (.slice (some ⟨g, 0, none⟩) len cap) (qs ++ (fE P P.lsn P.epoch P.record.kind P.record.txn P.record.prev P.record.page P.record.slot P.record.before.used P.record.after.used P.record.uN P.record.nT) :: ps.drop (k + 1))) from by have h := HO.out; rw [B1] at h; exact h)
    have eU : ∀ e : StLogFrame, Hid (len = (qs ++ e :: ps.drop (k + 1)).length) := fun e => by have hl := HL.out; have h2 := gg.out; simp [Hid]; omega
    clear kc kx Bv B1 hP gE HO kr qN oX HU sQ nG GZ hQ
    have HR := tG
    have HK := aJ
    clear tG
    have z : wr.cell? ⟨g, k * 16, none⟩ = some (.int .i64 P.lsn) := iQ.out.cellMid (eU _).out 0 (by decide) _ (by rw [gg.out]; rfl)
    have zf := iQ.out.frozen (eU _).out (k * 16)
    go_upto_region 5 with fail
    have gP := hid (iQ.out.set (p' := (fE P (c0) P.epoch P.record.kind P.record.txn P.record.prev P.record.page P.record.slot P.record.before.used P.record.after.used P.record.uN P.record.nT)) (eU _).out 0 (.int .i64 (c0)) (by decide) rfl rfl rfl (k * 16) (by rw [gg.out]; rfl))
    have HK := hid (HK.out.setCell (p := ⟨g, k * 16, none⟩) (.inr (.inl rfl)) (.int .i64 (c0)))
    have HR := hid (HR.out.setG (k * 16) (.int .i64 (c0)) (fun b hb => HG.out b (nX.out b hb)))
    generalize (wr.setCell ⟨g, k * 16, none⟩ (.int .i64 (c0))) = y0 at gP HK HR ⊢
    clear z zf iQ
    have z : y0.cell? ⟨g, k * 16 + 1, none⟩ = some (.int .i64 P.epoch) := gP.out.cellMid (eU _).out 1 (by decide) _ (by rw [gg.out]; rfl)
    have zf := gP.out.frozen (eU _).out (k * 16 + 1)
    go_upto_region 7 with fail
    have eF := hid (gP.out.set (p' := (fE P (c0) (c0 + 1) P.record.kind P.record.txn P.record.prev P.record.page P.record.slot P.record.before.used P.record.after.used P.record.uN P.record.nT)) (eU _).out 1 (.int .i64 (c0 + 1)) (by decide) rfl rfl rfl (k * 16 + 1) (by rw [gg.out]; rfl))
    have HK := hid (HK.out.setCell (p := ⟨g, k * 16 + 1, none⟩) (.inr (.inl rfl)) (.int .i64 (c0 + 1)))
    have HR := hid (HR.out.setG (k * 16 + 1) (.int .i64 (c0 + 1)) (fun b hb => HG.out b (nX.out b hb)))
    generalize (y0.setCell ⟨g, k * 16 + 1, none⟩ (.int .i64 (c0 + 1))) = y1 at eF HK HR ⊢
    clear z zf gP
    have z : y1.cell? ⟨g, k * 16 + 2, none⟩ = some (.int .i64 P.record.kind) := eF.out.cellMid (eU _).out 2 (by decide) _ (by rw [gg.out]; rfl)
    have zf := eF.out.frozen (eU _).out (k * 16 + 2)
    go_upto_region 9 with fail
    have fy := hid (eF.out.set (p' := (fE P (c0) (c0 + 1) (c0 + 1 + 1) P.record.txn P.record.prev P.record.page P.record.slot P.record.before.used P.record.after.used P.record.uN P.record.nT)) (eU _).out 2 (.int .i64 (c0 + 1 + 1)) (by decide) rfl rfl rfl (k * 16 + 2) (by rw [gg.out]; rfl))
    have HK := hid (HK.out.setCell (p := ⟨g, k * 16 + 2, none⟩) (.inr (.inl rfl)) (.int .i64 (c0 + 1 + 1)))
    have HR := hid (HR.out.setG (k * 16 + 2) (.int .i64 (c0 + 1 + 1)) (fun b hb => HG.out b (nX.out b hb)))
    generalize (y1.setCell ⟨g, k * 16 + 2, none⟩ (.int .i64 (c0 + 1 + 1))) = y2 at fy HK HR ⊢
    clear z zf eF
    have z : y2.cell? ⟨g, k * 16 + 3, none⟩ = some (.int .i64 P.record.txn) := fy.out.cellMid (eU _).out 3 (by decide) _ (by rw [gg.out]; rfl)
    have zf := fy.out.frozen (eU _).out (k * 16 + 3)
    go_upto_region 11 with fail
    have il := hid (fy.out.set (p' := (fE P (c0) (c0 + 1) (c0 + 1 + 1) (c0 + 1 + 1 + 1) P.record.prev P.record.page P.record.slot P.record.before.used P.record.after.used P.record.uN P.record.nT)) (eU _).out 3 (.int .i64 (c0 + 1 + 1 + 1)) (by decide) rfl rfl rfl (k * 16 + 3) (by rw [gg.out]; rfl))
    have HK := hid (HK.out.setCell (p := ⟨g, k * 16 + 3, none⟩) (.inr (.inl rfl)) (.int .i64 (c0 + 1 + 1 + 1)))
    have HR := hid (HR.out.setG (k * 16 + 3) (.int .i64 (c0 + 1 + 1 + 1)) (fun b hb => HG.out b (nX.out b hb)))
    generalize (y2.setCell ⟨g, k * 16 + 3, none⟩ (.int .i64 (c0 + 1 + 1 + 1))) = y3 at il HK HR ⊢
    clear z zf fy
    have z : y3.cell? ⟨g, k * 16 + 4, none⟩ = some (.int .i64 P.record.prev) := il.out.cellMid (eU _).out 4 (by decide) _ (by rw [gg.out]; rfl)
    have zf := il.out.frozen (eU _).out (k * 16 + 4)
    go_upto_region 13 with fail
    have jN := hid (il.out.set (p' := (fE P (c0) (c0 + 1) (c0 + 1 + 1) (c0 + 1 + 1 + 1) (c0 + 1 + 1 + 1 + 1) P.record.page P.record.slot P.record.before.used P.record.after.used P.record.uN P.record.nT)) (eU _).out 4 (.int .i64 (c0 + 1 + 1 + 1 + 1)) (by decide) rfl rfl rfl (k * 16 + 4) (by rw [gg.out]; rfl))
    have HK := hid (HK.out.setCell (p := ⟨g, k * 16 + 4, none⟩) (.inr (.inl rfl)) (.int .i64 (c0 + 1 + 1 + 1 + 1)))
    have HR := hid (HR.out.setG (k * 16 + 4) (.int .i64 (c0 + 1 + 1 + 1 + 1)) (fun b hb => HG.out b (nX.out b hb)))
    generalize (y3.setCell ⟨g, k * 16 + 4, none⟩ (.int .i64 (c0 + 1 + 1 + 1 + 1))) = y4 at jN HK HR ⊢
    clear z zf il
    have z : y4.cell? ⟨g, k * 16 + 5, none⟩ = some (.int .i64 P.record.page) := jN.out.cellMid (eU _).out 5 (by decide) _ (by rw [gg.out]; rfl)
    have zf := jN.out.frozen (eU _).out (k * 16 + 5)
    go_upto_region 15 with fail
    have iK := hid (jN.out.set (p' := (fE P (c0) (c0 + 1) (c0 + 1 + 1) (c0 + 1 + 1 + 1) (c0 + 1 + 1 + 1 + 1) (c0 + 1 + 1 + 1 + 1 + 1) P.record.slot P.record.before.used P.record.after.used P.record.uN P.record.nT)) (eU _).out 5 (.int .i64 (c0 + 1 + 1 + 1 + 1 + 1)) (by decide) rfl rfl rfl (k * 16 + 5) (by rw [gg.out]; rfl))
    have HK := hid (HK.out.setCell (p := ⟨g, k * 16 + 5, none⟩) (.inr (.inl rfl)) (.int .i64 (c0 + 1 + 1 + 1 + 1 + 1)))
    have HR := hid (HR.out.setG (k * 16 + 5) (.int .i64 (c0 + 1 + 1 + 1 + 1 + 1)) (fun b hb => HG.out b (nX.out b hb)))
    generalize (y4.setCell ⟨g, k * 16 + 5, none⟩ (.int .i64 (c0 + 1 + 1 + 1 + 1 + 1))) = y5 at iK HK HR ⊢
    clear z zf jN
    have z : y5.cell? ⟨g, k * 16 + 6, none⟩ = some (.int .i64 P.record.slot) := iK.out.cellMid (eU _).out 6 (by decide) _ (by rw [gg.out]; rfl)
    have zf := iK.out.frozen (eU _).out (k * 16 + 6)
    go_upto_region 17 with fail
    have lu := hid (iK.out.set (p' := (fE P (c0) (c0 + 1) (c0 + 1 + 1) (c0 + 1 + 1 + 1) (c0 + 1 + 1 + 1 + 1) (c0 + 1 + 1 + 1 + 1 + 1) (c0 + 1 + 1 + 1 + 1 + 1 + 1) P.record.before.used P.record.after.used P.record.uN P.record.nT)) (eU _).out 6 (.int .i64 (c0 + 1 + 1 + 1 + 1 + 1 + 1)) (by decide) rfl rfl rfl (k * 16 + 6) (by rw [gg.out]; rfl))
    have HK := hid (HK.out.setCell (p := ⟨g, k * 16 + 6, none⟩) (.inr (.inl rfl)) (.int .i64 (c0 + 1 + 1 + 1 + 1 + 1 + 1)))
    have HR := hid (HR.out.setG (k * 16 + 6) (.int .i64 (c0 + 1 + 1 + 1 + 1 + 1 + 1)) (fun b hb => HG.out b (nX.out b hb)))
    generalize (y5.setCell ⟨g, k * 16 + 6, none⟩ (.int .i64 (c0 + 1 + 1 + 1 + 1 + 1 + 1))) = y6 at lu HK HR ⊢
    clear z zf iK
    have z : y6.cell? ⟨g, k * 16 + 7, none⟩ = some (.bool P.record.before.used) := lu.out.cellMid (eU _).out 7 (by decide) _ (by rw [gg.out]; rfl)
    have zf := lu.out.frozen (eU _).out (k * 16 + 7)
    go_upto_region 19 with fail
    have sg := hid (lu.out.set (p' := (fE P (c0) (c0 + 1) (c0 + 1 + 1) (c0 + 1 + 1 + 1) (c0 + 1 + 1 + 1 + 1) (c0 + 1 + 1 + 1 + 1 + 1) (c0 + 1 + 1 + 1 + 1 + 1 + 1) ((c0 + 1 + 1 + 1 + 1 + 1 + 1 + 1) % 3 == 0) P.record.after.used P.record.uN P.record.nT)) (eU _).out 7 (.bool ((c0 + 1 + 1 + 1 + 1 + 1 + 1 + 1) % 3 == 0)) (by decide) rfl rfl rfl (k * 16 + 7) (by rw [gg.out]; rfl))
    have HK := hid (HK.out.setCell (p := ⟨g, k * 16 + 7, none⟩) (.inr (.inl rfl)) (.bool ((c0 + 1 + 1 + 1 + 1 + 1 + 1 + 1) % 3 == 0)))
    have HR := hid (HR.out.setG (k * 16 + 7) (.bool ((c0 + 1 + 1 + 1 + 1 + 1 + 1 + 1) % 3 == 0)) (fun b hb => HG.out b (nX.out b hb)))
    generalize (y6.setCell ⟨g, k * 16 + 7, none⟩ (.bool ((c0 + 1 + 1 + 1 + 1 + 1 + 1 + 1) % 3 == 0))) = y7 at sg HK HR ⊢
    clear z zf lu
    have z : y7.cell? ⟨g, k * 16 + 8, none⟩ = some (P.record.before.data.v) := sg.out.cellMid (eU _).out 8 (by decide) _ (by rw [gg.out]; rfl)
    go_wp2_with fail
    refine (TP 0 P.record.before.data.v P.record.before.data.bs (c0 + 1 + 1 + 1 + 1 + 1 + 1 + 1 + 1) _ (by omega) (by omega) (by omega) (OwnL.of_one HR.out.right.left)).mono ?_
    rintro e x1 ⟨rfl, ho, hk⟩
    have hk : Kept (Rf P.record.before.data.rows) _ x1 := hk.mono (fun b _ h => (RF _ _ _ _ _).2 h)
    have ho : OwnL x1 ((P.record.before.data.marked (c0 + 1 + 1 + 1 + 1 + 1 + 1 + 1 + 1)).rows) := BS.own_marked.2 (OwnL.one ho)
    have j9 := hid (sg.out.kept hk (fun b hb h => HG.out b (nX.out b (U8 b h)) (by have h2 : g = b := (by simpa [Value.ownBlock] using TA hb); exact h2.symm)))
    clear sg
    have HK := hid (HK.out.next hk (fun b _ h => .inr (nX.out b (U8 b h))))
    have HR := hid (HR.out.midMark ho (fun b => (BS.foot_marked P.record.before.data (c0 + 1 + 1 + 1 + 1 + 1 + 1 + 1 + 1) b).1) hk)
    have AL := hid (fun b hb => nX.out b (WX (fun b => (BS.foot_marked P.record.before.data (c0 + 1 + 1 + 1 + 1 + 1 + 1 + 1 + 1) b).1) b hb))
    obtain ⟨c1, iR⟩ : ∃ z : Int, c0 + 1 + 1 + 1 + 1 + 1 + 1 + 1 + 1 + (P.record.before.data.bs.length : Int) = z := ⟨_, rfl⟩
    have uB : 0 ≤ c1 := by omega
    have Mb : c1 + 3 + (P.record.after.data.bs.length : Int) + (P.record.txns.bs.length : Int) + (P.record.dirty.bs.length : Int) + (P.record.image.bs.length : Int) ≤ 1125899906842624 := by omega
    have bf := hid iR
    rw [iR]
    clear iR hk ho z pO Ly nX
    have z : x1.cell? ⟨g, k * 16 + 9, none⟩ = some (.bool P.record.after.used) := j9.out.cellMid (eU _).out 9 (by decide) _ (by rw [gg.out]; rfl)
    have zf := j9.out.frozen (eU _).out (k * 16 + 9)
    go_upto_region 22 with fail
    have qj := hid (j9.out.set (p' := (fE P (c0) (c0 + 1) (c0 + 1 + 1) (c0 + 1 + 1 + 1) (c0 + 1 + 1 + 1 + 1) (c0 + 1 + 1 + 1 + 1 + 1) (c0 + 1 + 1 + 1 + 1 + 1 + 1) ((c0 + 1 + 1 + 1 + 1 + 1 + 1 + 1) % 3 == 0) (c1 % 3 == 0) P.record.uN P.record.nT)) (eU _).out 9 (.bool (c1 % 3 == 0)) (by decide) rfl rfl rfl (k * 16 + 9) (by rw [gg.out]; rfl))
    have HK := hid (HK.out.setCell (p := ⟨g, k * 16 + 9, none⟩) (.inr (.inl rfl)) (.bool (c1 % 3 == 0)))
    have HR := hid (HR.out.setG (k * 16 + 9) (.bool (c1 % 3 == 0)) (fun b hb => HG.out b (AL.out b hb)))
    generalize (x1.setCell ⟨g, k * 16 + 9, none⟩ (.bool (c1 % 3 == 0))) = y9 at qj HK HR ⊢
    clear z zf j9
    have z : y9.cell? ⟨g, k * 16 + 10, none⟩ = some (P.record.after.data.v) := qj.out.cellMid (eU _).out 10 (by decide) _ (by rw [gg.out]; rfl)
    go_wp2_with fail
    refine (TP 0 P.record.after.data.v P.record.after.data.bs (c1 + 1) _ (by omega) (by omega) (by omega) (OwnL.of_one HR.out.right.left)).mono ?_
    rintro e x2 ⟨rfl, ho, hk⟩
    have hk : Kept (Rf P.record.after.data.rows) _ x2 := hk.mono (fun b _ h => (RF _ _ _ _ _).2 h)
    have ho : OwnL x2 ((P.record.after.data.marked (c1 + 1)).rows) := BS.own_marked.2 (OwnL.one ho)
    have rR := hid (qj.out.kept hk (fun b hb h => HG.out b (AL.out b (U8 b h)) (by have h2 : g = b := (by simpa [Value.ownBlock] using TA hb); exact h2.symm)))
    clear qj
    have HK := hid (HK.out.next hk (fun b _ h => .inr (AL.out b (U8 b h))))
    have HR := hid (HR.out.midMark ho (fun b => (BS.foot_marked P.record.after.data (c1 + 1) b).1) hk)
    have wB := hid (fun b hb => AL.out b (WX (fun b => (BS.foot_marked P.record.after.data (c1 + 1) b).1) b hb))
    obtain ⟨c2, iR⟩ : ∃ z : Int, c1 + 1 + (P.record.after.data.bs.length : Int) = z := ⟨_, rfl⟩
    have nN : 0 ≤ c2 := by omega
    have nk : c2 + 2 + (P.record.txns.bs.length : Int) + (P.record.dirty.bs.length : Int) + (P.record.image.bs.length : Int) ≤ 1125899906842624 := by omega
    have cm := hid iR
    rw [iR]
    clear iR hk ho z uB Mb AL
    have z : x2.cell? ⟨g, k * 16 + 11, none⟩ = some (.int .i64 P.record.uN) := rR.out.cellMid (eU _).out 11 (by decide) _ (by rw [gg.out]; rfl)
    have zf := rR.out.frozen (eU _).out (k * 16 + 11)
    go_upto_region 25 with fail
    have pg := hid (rR.out.set (p' := (fE P (c0) (c0 + 1) (c0 + 1 + 1) (c0 + 1 + 1 + 1) (c0 + 1 + 1 + 1 + 1) (c0 + 1 + 1 + 1 + 1 + 1) (c0 + 1 + 1 + 1 + 1 + 1 + 1) ((c0 + 1 + 1 + 1 + 1 + 1 + 1 + 1) % 3 == 0) (c1 % 3 == 0) (c2) P.record.nT)) (eU _).out 11 (.int .i64 (c2)) (by decide) rfl rfl rfl (k * 16 + 11) (by rw [gg.out]; rfl))
    have HK := hid (HK.out.setCell (p := ⟨g, k * 16 + 11, none⟩) (.inr (.inl rfl)) (.int .i64 (c2)))
    have HR := hid (HR.out.setG (k * 16 + 11) (.int .i64 (c2)) (fun b hb => HG.out b (wB.out b hb)))
    generalize (x2.setCell ⟨g, k * 16 + 11, none⟩ (.int .i64 (c2))) = I9 at pg HK HR ⊢
    clear z zf rR
    have z : I9.cell? ⟨g, k * 16 + 12, none⟩ = some (.int .i64 P.record.nT) := pg.out.cellMid (eU _).out 12 (by decide) _ (by rw [gg.out]; rfl)
    have zf := pg.out.frozen (eU _).out (k * 16 + 12)
    go_upto_region 27 with fail
    have rM := hid (pg.out.set (p' := (fE P (c0) (c0 + 1) (c0 + 1 + 1) (c0 + 1 + 1 + 1) (c0 + 1 + 1 + 1 + 1) (c0 + 1 + 1 + 1 + 1 + 1) (c0 + 1 + 1 + 1 + 1 + 1 + 1) ((c0 + 1 + 1 + 1 + 1 + 1 + 1 + 1) % 3 == 0) (c1 % 3 == 0) (c2) (c2 + 1))) (eU _).out 12 (.int .i64 (c2 + 1)) (by decide) rfl rfl rfl (k * 16 + 12) (by rw [gg.out]; rfl))
    have HK := hid (HK.out.setCell (p := ⟨g, k * 16 + 12, none⟩) (.inr (.inl rfl)) (.int .i64 (c2 + 1)))
    have HR := hid (HR.out.setG (k * 16 + 12) (.int .i64 (c2 + 1)) (fun b hb => HG.out b (wB.out b hb)))
    generalize (I9.setCell ⟨g, k * 16 + 12, none⟩ (.int .i64 (c2 + 1))) = OU at rM HK HR ⊢
    clear z zf pg
    have z : OU.cell? ⟨g, k * 16 + 13, none⟩ = some (P.record.txns.v) := rM.out.cellMid (eU _).out 13 (by decide) _ (by rw [gg.out]; rfl)
    go_wp2_with fail
    refine (WV P.record.txns (c2 + 1 + 1) _ (by omega) (by omega) HR.out.right.left).mono ?_
    rintro e x3 ⟨rfl, ho, hk⟩
    have hk : Kept (Rf (P.record.txns.rows 4)) _ x3 := hk
    have vC := hid (rM.out.kept hk (fun b hb h => HG.out b (wB.out b (U8 b h)) (by have h2 : g = b := (by simpa [Value.ownBlock] using TA hb); exact h2.symm)))
    clear rM
    have HK := hid (HK.out.next hk (fun b _ h => .inr (wB.out b (U8 b h))))
    have HR := hid (HR.out.midMark ho (fun b => (FR.foot_marked 4 P.record.txns (c2 + 1 + 1) b).1) hk)
    have sZ := hid (fun b hb => wB.out b (WX (fun b => (FR.foot_marked 4 P.record.txns (c2 + 1 + 1) b).1) b hb))
    obtain ⟨c3, iR⟩ : ∃ z : Int, c2 + 1 + 1 + (P.record.txns.bs.length : Int) = z := ⟨_, rfl⟩
    have gW : 0 ≤ c3 := by omega
    have MK : c3 + 0 + (P.record.dirty.bs.length : Int) + (P.record.image.bs.length : Int) ≤ 1125899906842624 := by omega
    have fo := hid iR
    rw [iR]
    clear iR hk ho z nN nk wB
    have z : x3.cell? ⟨g, k * 16 + 14, none⟩ = some (P.record.dirty.v) := vC.out.cellMid (eU _).out 14 (by decide) _ (by rw [gg.out]; rfl)
    go_wp2_with fail
    refine (VW P.record.dirty (c3) _ (by omega) (by omega) HR.out.right.left).mono ?_
    rintro e x4 ⟨rfl, ho, hk⟩
    have hk : Kept (Rf (P.record.dirty.rows 2)) _ x4 := hk
    have vh := hid (vC.out.kept hk (fun b hb h => HG.out b (sZ.out b (U8 b h)) (by have h2 : g = b := (by simpa [Value.ownBlock] using TA hb); exact h2.symm)))
    clear vC
    have HK := hid (HK.out.next hk (fun b _ h => .inr (sZ.out b (U8 b h))))
    have HR := hid (HR.out.midMark ho (fun b => (FR.foot_marked 2 P.record.dirty (c3) b).1) hk)
    have sF := hid (fun b hb => sZ.out b (WX (fun b => (FR.foot_marked 2 P.record.dirty (c3) b).1) b hb))
    obtain ⟨c4, iR⟩ : ∃ z : Int, c3 + (P.record.dirty.bs.length : Int) = z := ⟨_, rfl⟩
    have qd : 0 ≤ c4 := by omega
    have MC : c4 + 0 + (P.record.image.bs.length : Int) ≤ 1125899906842624 := by omega
    have fV := hid iR
    rw [iR]
    clear iR hk ho z gW MK sZ
    have z : x4.cell? ⟨g, k * 16 + 15, none⟩ = some (P.record.image.v) := vh.out.cellMid (eU _).out 15 (by decide) _ (by rw [gg.out]; rfl)
    go_wp2_with fail
    refine (TP 0 P.record.image.v P.record.image.bs (c4) _ (by omega) (by omega) (by omega) (OwnL.of_one HR.out.right.left)).mono ?_
    rintro e x5 ⟨rfl, ho, hk⟩
    have hk : Kept (Rf P.record.image.rows) _ x5 := hk.mono (fun b _ h => (RF _ _ _ _ _).2 h)
    have ho : OwnL x5 ((P.record.image.marked (c4)).rows) := BS.own_marked.2 (OwnL.one ho)
    have CH := hid (vh.out.kept hk (fun b hb h => HG.out b (sF.out b (U8 b h)) (by have h2 : g = b := (by simpa [Value.ownBlock] using TA hb); exact h2.symm)))
    clear vh
    have HK := hid (HK.out.next hk (fun b _ h => .inr (sF.out b (U8 b h))))
    have HR := hid (HR.out.midMark ho (fun b => (BS.foot_marked P.record.image (c4) b).1) hk)
    have Pk := hid (fun b hb => sF.out b (WX (fun b => (BS.foot_marked P.record.image (c4) b).1) b hb))
    obtain ⟨c5, iR⟩ : ∃ z : Int, c4 + (P.record.image.bs.length : Int) = z := ⟨_, rfl⟩
    have QZ : 0 ≤ c5 := by omega
    have Qk : c5 + 0 ≤ 1125899906842624 := by omega
    have fH := hid iR
    rw [iR]
    clear iR hk ho z qd MC sF
    go_wp2
    go_roundw
    case rel =>
     have e1 := bf.out
     have e2 := cm.out
     have e3 := fo.out
     have e4 := fV.out
     have e5 := fH.out
     have O5 := CH.out
     have IK := HR.out
     have Hn := Pk.out
     have sQ := MM.out
     have nG := Ms.out
     have kc := ko.out
     subst e1 e2 e3 e4 e5
     refine ⟨k + 1, _, by omega, by go_num, rfl, by unfold Hid; rw [kc]; omega, ?_, ?_, ?_, HK⟩
     ·unfold Hid
      rw [sQ, List.append_assoc]
      exact O5
     ·unfold Hid
      rw [nG]
      unfold mkW
      simp only [List.append_assoc] at IK ⊢
      exact IK
     ·unfold Hid
      rw [nG]
      unfold mkW
      simp only [List.append_assoc] at Hn ⊢
      exact Hn
    case measure => simp [intOf]; omega
   ·go_wp2
    go_ret
    obtain rfl : k = len := by omega
    have h2 := HL.out
    have h3 := HC.out
    have h4 := HO.out
    have h5 := HR.out
    have h6 := HU.out
    rw [← h2, List.take_length] at h3 h4 h5 h6
    rw [List.drop_length] at h4 h5 h6
    rw [List.append_nil] at h4
    rw [show Sb [] = [] from rfl, List.append_nil] at h5 h6
    rw [h2] at h4
    subst h3
    exact ⟨by first | rfl | trivial, ⟨h4, h5, h6⟩, aJ.out⟩
theorem WY (va : Value) (ps : List StLogFrame) (k0 : Int) (w : World) (h0 : 0 ≤ k0) (h1 : k0 + Sn ps ≤ 1125899906842624) (hn : ps.length ≤ 1125899906842624) (ha : MkFr w va ps k0) :
  Calls Tryz.prog 33 #[va, .int .i64 k0] w fun e w' => e = .returned (.int .i64 (k0 + Sn ps)) ∧ Same w w' := by
 by_cases hz : ps.length = 0
 ·obtain rfl : ps = [] := List.length_eq_zero_iff.1 hz
  obtain ⟨aa, ca, rfl⟩ : ∃ aa ca, va = .slice aa 0 ca := by rcases ha.own.form with ⟨rfl, _⟩ | ⟨g, cap, rfl, _⟩ <;> exact ⟨_, _, rfl⟩
  clear ha hn hz h1
  go_enter Tryz.func33, Tryz.ntmps33
  go_wp2
  refine wp_loop_rounds 1 ?_
  rw [rounds_succ]
  go_wp2
  go_ret
  exact ⟨by simp [Sn], kZ0⟩
 ·obtain ⟨g, cap, rfl⟩ : ∃ g cap, va = .slice (some ⟨g, 0, none⟩) ps.length cap := by
   rcases ha.own.form with ⟨_, h⟩ | ⟨g, cap, h, _⟩
   ·have := congrArg List.length h; rw [TD] at this; exact absurd this hz
   ·exact ⟨g, cap, by rw [h, TD]⟩
  have HA := hid ha
  have H1 := hid h1
  clear ha h1
  generalize hl : ps.length = len at *
  have HL : Hid (ps.length = len) := hl
  clear hl
  go_enter Tryz.func33, Tryz.ntmps33
  go_wp2
  go_loopw [1, 5] (fun v i wr => ∃ (k : Nat) (c : Int), k ≤ len ∧ i = .int .i64 k ∧ v = .int .i64 c ∧ Hid (c = k0 + Sn (ps.take k)) ∧ Hid (Same w wr)) (fun _ i _ => len - (intOf i).toNat)
  case atStart => exact ⟨0, k0, Nat.zero_le _, rfl, rfl, by simp [Hid, Sn], kZ0⟩
  case round =>
   obtain ⟨k, c0, hk, rfl, rfl, HC, dO⟩ := hrel
   by_cases bH : k < len
   ·have dh : k < ps.length := by rw [HL.out]; exact bH
    have kc := ZR ps k dh
    have fk := jfv k0 ps k dh
    have oX := jda k dh HA.out.rows
    rw [← HC.out] at fk oX
    obtain ⟨P, hP⟩ : ∃ P, ps[k] = P := ⟨_, rfl⟩
    rw [hP] at kc fk oX
    obtain ⟨c1, qX⟩ : ∃ z : Int, c0 + 1 + 1 + 1 + 1 + 1 + 1 + 1 + 1 + (P.record.before.data.bs.length : Int) = z := ⟨_, rfl⟩
    obtain ⟨c2, rF⟩ : ∃ z : Int, c1 + 1 + (P.record.after.data.bs.length : Int) = z := ⟨_, rfl⟩
    obtain ⟨c3, rn⟩ : ∃ z : Int, c2 + 1 + 1 + (P.record.txns.bs.length : Int) = z := ⟨_, rfl⟩
    obtain ⟨c4, rv⟩ : ∃ z : Int, c3 + (P.record.dirty.bs.length : Int) = z := ⟨_, rfl⟩
    obtain ⟨c5, yK⟩ : ∃ z : Int, c4 + (P.record.image.bs.length : Int) = z := ⟨_, rfl⟩
    have um : mkE c0 P = (fE P (c0) (c0 + 1) (c0 + 1 + 1) (c0 + 1 + 1 + 1) (c0 + 1 + 1 + 1 + 1) (c0 + 1 + 1 + 1 + 1 + 1) (c0 + 1 + 1 + 1 + 1 + 1 + 1) ((c0 + 1 + 1 + 1 + 1 + 1 + 1 + 1) % 3 == 0) (c1 % 3 == 0) (c2) (c2 + 1)) := by unfold mkE; dsimp only; simp only [qX, rF, rn, rv]
    have xW : OwnL w (((P.record.before.data.marked (c0 + 1 + 1 + 1 + 1 + 1 + 1 + 1 + 1)).rows) ++ (((P.record.after.data.marked (c1 + 1)).rows) ++ (((P.record.txns.marked (c2 + 1 + 1)).rows 4) ++ (((P.record.dirty.marked (c3)).rows 2) ++ (((P.record.image.marked (c4)).rows)))))) := by unfold mkW at oX; dsimp only at oX; rw [qX, rF, rn, rv] at oX; exact oX
    rw [um] at fk
    have lx := (show Hid (∀ i, i < 16 → w.cell? ⟨g, k * 16 + i, none⟩ = (kFr.cells (fE P (c0) (c0 + 1) (c0 + 1 + 1) (c0 + 1 + 1 + 1) (c0 + 1 + 1 + 1 + 1) (c0 + 1 + 1 + 1 + 1 + 1) (c0 + 1 + 1 + 1 + 1 + 1 + 1) ((c0 + 1 + 1 + 1 + 1 + 1 + 1 + 1) % 3 == 0) (c1 % 3 == 0) (c2) (c2 + 1)))[i]?) from fun i hi => by
     have h := HA.out.own.cell (by rw [TD]; exact HL.out.symm) k i (by rw [TD]; exact dh) hi
     rw [fk] at h
     exact h)
    have zZ := hid xW
    have gE : P.size = (P.record.before.data.bs.length : Int) + (P.record.after.data.bs.length : Int) + (P.record.txns.bs.length : Int) + (P.record.dirty.bs.length : Int) + (P.record.image.bs.length : Int) := rfl
    have kr : 0 ≤ c0 := by have := HC.out; have := TB (ps.take k); omega
    have qN : c0 + 11 + P.size ≤ 1125899906842624 := by have := HC.out; have := H1.out; have := WS ps (k + 1); omega
    rw [gE] at qN kc
    have ko := (show Hid (k0 + Sn (ps.take (k + 1)) = c5) from by have := HC.out; unfold Hid; omega)
    have a8 : c0 + 11 ≤ 1125899906842624 := by omega
    have cN : 0 ≤ c1 ∧ c1 + 3 ≤ 1125899906842624 := by omega
    have dL : 0 ≤ c2 ∧ c2 + 2 ≤ 1125899906842624 := by omega
    have lr : 0 ≤ c3 ∧ c3 ≤ 1125899906842624 := by omega
    have BK : 0 ≤ c4 ∧ c4 ≤ 1125899906842624 := by omega
    have sU : 0 ≤ c5 ∧ c5 ≤ 1125899906842624 := by omega
    have HB := (show Hid (c0 + 11 + (P.record.before.data.bs.length : Int) + (P.record.after.data.bs.length : Int) + (P.record.txns.bs.length : Int) + (P.record.dirty.bs.length : Int) + (P.record.image.bs.length : Int) ≤ 1125899906842624) from by unfold Hid; omega)
    have bf := hid qX
    have cm := hid rF
    have fo := hid rn
    have fV := hid rv
    have fH := hid yK
    clear kc fk oX um xW hP gE qN qX rF rn rv yK
    have z0 : wr.cell? ⟨g, k * 16, none⟩ = some (.int .i64 (c0)) := dO.out.cellOf (lx.out 0 (by decide)) id
    have z1 : wr.cell? ⟨g, k * 16 + 1, none⟩ = some (.int .i64 (c0 + 1)) := dO.out.cellOf (lx.out 1 (by decide)) id
    have z2 : wr.cell? ⟨g, k * 16 + 2, none⟩ = some (.int .i64 (c0 + 1 + 1)) := dO.out.cellOf (lx.out 2 (by decide)) id
    have z3 : wr.cell? ⟨g, k * 16 + 3, none⟩ = some (.int .i64 (c0 + 1 + 1 + 1)) := dO.out.cellOf (lx.out 3 (by decide)) id
    have z4 : wr.cell? ⟨g, k * 16 + 4, none⟩ = some (.int .i64 (c0 + 1 + 1 + 1 + 1)) := dO.out.cellOf (lx.out 4 (by decide)) id
    have z5 : wr.cell? ⟨g, k * 16 + 5, none⟩ = some (.int .i64 (c0 + 1 + 1 + 1 + 1 + 1)) := dO.out.cellOf (lx.out 5 (by decide)) id
    have z6 : wr.cell? ⟨g, k * 16 + 6, none⟩ = some (.int .i64 (c0 + 1 + 1 + 1 + 1 + 1 + 1)) := dO.out.cellOf (lx.out 6 (by decide)) id
    have z7 : wr.cell? ⟨g, k * 16 + 7, none⟩ = some (.bool ((c0 + 1 + 1 + 1 + 1 + 1 + 1 + 1) % 3 == 0)) := dO.out.cellOf (lx.out 7 (by decide)) id
    have z8 : wr.cell? ⟨g, k * 16 + 8, none⟩ = some (P.record.before.data.v) := dO.out.cellOf (lx.out 8 (by decide)) id
    have zK : ¬ c1 < 0 := by omega
    have HQ := (show Hid (Own 0 P.record.before.data.e .u8 wr P.record.before.data.v (marks (c0 + 1 + 1 + 1 + 1 + 1 + 1 + 1 + 1) P.record.before.data.bs.length)) from (OwnL.of_one (BS.own_marked.1 (zZ.out.left))).same dO.out)
    go_wp2_with fail
    refine (U0 0 P.record.before.data.v P.record.before.data.bs.length (c0 + 1 + 1 + 1 + 1 + 1 + 1 + 1 + 1) _ (by have := HB.out; omega) (by omega) (by have := HB.out; omega) HQ.out).mono ?_
    rintro e x1 ⟨rfl, hw⟩
    have aM := (show Hid (Same w x1) from by rw [hw]; exact dO.out)
    clear hw
    rw [bf.out]
    clear HQ z0 z1 z2 z3 z4 z5 z6 z7 z8
    have z9 : x1.cell? ⟨g, k * 16 + 9, none⟩ = some (.bool (c1 % 3 == 0)) := aM.out.cellOf (lx.out 9 (by decide)) id
    have ip : x1.cell? ⟨g, k * 16 + 10, none⟩ = some (P.record.after.data.v) := aM.out.cellOf (lx.out 10 (by decide)) id
    have zK : ¬ c2 < 0 := by omega
    have HQ := (show Hid (Own 0 P.record.after.data.e .u8 x1 P.record.after.data.v (marks (c1 + 1) P.record.after.data.bs.length)) from (OwnL.of_one (BS.own_marked.1 (zZ.out.right.left))).same aM.out)
    go_wp2_with fail
    refine (U0 0 P.record.after.data.v P.record.after.data.bs.length (c1 + 1) _ (by have := HB.out; omega) (by omega) (by have := HB.out; omega) HQ.out).mono ?_
    rintro e x2 ⟨rfl, hw⟩
    have aY := (show Hid (Same w x2) from by rw [hw]; exact aM.out)
    clear hw
    rw [cm.out]
    clear HQ z9 ip
    have iw : x2.cell? ⟨g, k * 16 + 11, none⟩ = some (.int .i64 (c2)) := aY.out.cellOf (lx.out 11 (by decide)) id
    have ir : x2.cell? ⟨g, k * 16 + 12, none⟩ = some (.int .i64 (c2 + 1)) := aY.out.cellOf (lx.out 12 (by decide)) id
    have gY : x2.cell? ⟨g, k * 16 + 13, none⟩ = some (P.record.txns.v) := aY.out.cellOf (lx.out 13 (by decide)) id
    have zK : ¬ c3 < 0 := by omega
    have HQ := (show Hid (OwnL x2 ((P.record.txns.marked (c2 + 1 + 1)).rows 4)) from (zZ.out.right.right.left).same aY.out)
    go_wp2_with fail
    refine (WW P.record.txns (c2 + 1 + 1) _ (by omega) (by have := bf.out; have := cm.out; have := fo.out; have := fV.out; have := fH.out; omega) HQ.out).mono ?_
    rintro e x3 ⟨rfl, hk⟩
    have dt := hid (aY.out.trans hk)
    clear hk
    rw [fo.out]
    clear HQ iw ir gY
    have iU : x3.cell? ⟨g, k * 16 + 14, none⟩ = some (P.record.dirty.v) := dt.out.cellOf (lx.out 14 (by decide)) id
    have zK : ¬ c4 < 0 := by omega
    have HQ := (show Hid (OwnL x3 ((P.record.dirty.marked (c3)).rows 2)) from (zZ.out.right.right.right.left).same dt.out)
    go_wp2_with fail
    refine (VX P.record.dirty (c3) _ (by omega) (by have := bf.out; have := cm.out; have := fo.out; have := fV.out; have := fH.out; omega) HQ.out).mono ?_
    rintro e x4 ⟨rfl, hk⟩
    have cu := hid (dt.out.trans hk)
    clear hk
    rw [fV.out]
    clear HQ iU
    have Bz : x4.cell? ⟨g, k * 16 + 15, none⟩ = some (P.record.image.v) := cu.out.cellOf (lx.out 15 (by decide)) id
    have zK : ¬ c5 < 0 := by omega
    have HQ := (show Hid (Own 0 P.record.image.e .u8 x4 P.record.image.v (marks (c4) P.record.image.bs.length)) from (OwnL.of_one (BS.own_marked.1 (zZ.out.right.right.right.right))).same cu.out)
    go_wp2_with fail
    refine (U0 0 P.record.image.v P.record.image.bs.length (c4) _ (by have := HB.out; omega) (by omega) (by have := HB.out; omega) HQ.out).mono ?_
    rintro e x5 ⟨rfl, hw⟩
    have dp := (show Hid (Same w x5) from by rw [hw]; exact cu.out)
    clear hw
    rw [fH.out]
    clear HQ Bz
    go_wp2
    go_roundw
    case rel => exact ⟨k + 1, c5, by omega, by go_num, rfl, ko.out.symm, dp⟩
    case measure => simp [intOf]; omega
   ·go_wp2
    go_ret
    obtain rfl : k = len := by omega
    have h2 := HL.out
    have h3 := HC.out
    rw [← h2, List.take_length] at h3
    exact ⟨Ua h3, dO.out⟩
end Go.Proofs.YtaojjcnmififoaaGreat
