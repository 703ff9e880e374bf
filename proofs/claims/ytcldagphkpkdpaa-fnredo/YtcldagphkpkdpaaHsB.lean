import Derived.Test.YtcldagphkpkdpaaBd4
namespace Go.Proofs.Ytcldagphkpkdpaa
set_option maxRecDepth 100000
set_option maxHeartbeats 8000000
set_option linter.unusedVariables false
set_option linter.unusedSimpArgs false
open Go Go.RowKit
def RcW (r : StLogRecord) : Prop := (IsB r.before.data.bs ∧ IsB r.after.data.bs ∧ IsB r.image.bs) ∧ r.szs ≤ 7000
theorem RcB.w {r : StLogRecord} (h : RcB r) : RcW r := ⟨⟨h.1.1, h.1.2.1, h.1.2.2.1⟩, by have := h.2; omega⟩
theorem rd_kept {R : Nat → Prop} {w w' : World} {r : StLogRecord} (h : StLogRecord.rd w r) (hk : Kept R w w') (hf : ∀ b, FootL r.rows b → ¬ R b) : StLogRecord.rd w' r := by
 obtain ⟨r1, r2, r3, r4, r5⟩ := h
 refine ⟨r1.kept hk (fun b hb => hf b ?_), r2.kept hk (fun b hb => hf b ?_), r3.kept hk (fun b hb => hf b ?_), r4.kept hk (fun b hb => hf b ?_), r5.kept hk (fun b hb => hf b ?_)⟩
 ·exact (FootL_append _ _ _).2 (.inl hb)
 ·exact (FootL_append _ _ _).2 (.inr ((FootL_append _ _ _).2 (.inl hb)))
 ·exact (FootL_append _ _ _).2 (.inr ((FootL_append _ _ _).2 (.inr ((FootL_append _ _ _).2 (.inl ((foot_FR _ _ b).2 hb))))))
 ·exact (FootL_append _ _ _).2 (.inr ((FootL_append _ _ _).2 (.inr ((FootL_append _ _ _).2 (.inr ((FootL_append _ _ _).2 (.inl ((foot_FR _ _ b).2 hb))))))))
 ·exact (FootL_append _ _ _).2 (.inr ((FootL_append _ _ _).2 (.inr ((FootL_append _ _ _).2 (.inr ((FootL_append _ _ _).2 (.inr ((foot_BS _ b).2 hb))))))))
theorem RdFr.kept {R : Nat → Prop} {w w' : World} {v : Value} {ps : List StLogFrame} (h : RdFr w v ps) (hk : Kept R w w') (hr : ∀ b, footFr v ps b → ¬ R b) : RdFr w' v ps :=
 ⟨h.row.kept hk (fun b hb => hr b (.inl (footFr_head hb))), fun p hp => rd_kept (h.data p hp) hk (fun b hb => hr b (.inr (footRows_mem.2 ⟨p, hp, hb⟩)))⟩
theorem OwnFr.some {w : World} {fa : Option Addr} {fn fc : Nat} {qs : List StLogFrame} (h : OwnFr w (.slice fa fn fc) qs) (hq : 1 ≤ qs.length) : ∃ g, fa = .some ⟨g, 0, none⟩ ∧ fn = qs.length := by
 have h1 := h.own.row
 rcases h1.2 with ⟨_, h2⟩ | ⟨g, cap, _, hv, _⟩
 ·omega
 ·injection hv with e1 e2 _
  exact ⟨g, e1, e2⟩
structure BsC (w0 w : World) (B : Nat) (v : Value) (cs : List Int) (k : Nat) (size : Int) (Y X gF fn fc : Nat) (F : Nat → Prop) (qs : List StLogFrame) (en : Int) (wr : World) : Prop where
 box : Blk wr Y 36 [.slice (some ⟨gF, 0, none⟩) fn fc, .int .i64 en]
 res : Blk wr X 36 [.slice none 0 0, .int .i64 0]
 own : OwnFr wr (.slice (some ⟨gF, 0, none⟩) fn fc) qs
 len : fn = qs.length
 small : fn ≤ 110
 each : ∀ p ∈ qs, RcB p.record
 foot : ∀ b, footFr (.slice (some ⟨gF, 0, none⟩) fn fc) qs b → F b
 far : ∀ b, F b → ¬ b = X ∧ ¬ b = Y ∧ ¬ b = B ∧ w0.heap.size ≤ b ∧ b < w.heap.size
 src : SrcR w0 wr B v cs k size
 kept : Kept (fun b => b = B ∨ F b) w wr
 yx : w.heap.size ≤ Y ∧ w.heap.size ≤ X ∧ ¬ X = Y ∧ ¬ Y = B ∧ ¬ X = B ∧ w0.heap.size ≤ w.heap.size
def BsI (w0 w : World) (B : Nat) (v : Value) (cs : List Int) (k : Nat) (size : Int) (Y X : Nat) (F : Nat → Prop) (wr : World) : Prop :=
 ∃ (a : Option Addr) (n c : Nat) (qs : List StLogFrame) (en : Int) (k' : Nat), Blk wr Y 36 [.slice a n c, .int .i64 en] ∧ Blk wr X 36 [.slice none 0 0, .int .i64 0] ∧ RdFr wr (.slice a n c) qs ∧ (∀ b, footFr (.slice a n c) qs b → ¬ b = X ∧ (F b ∨ w.heap.size ≤ b)) ∧ (∀ p ∈ qs, RcW p.record) ∧ (qs.length ≤ 110 ∧ n ≤ c) ∧ k' ≤ k + 40 ∧ SrcR w0 wr B v cs k' size ∧ Kept (fun b => b = B ∨ F b) w wr
section
variable {w0 w wr wx : World} {B : Nat} {v : Value} {cs : List Int} {k k' : Nat} {size : Int} {Y X gF fn fc : Nat} {F : Nat → Prop} {qs : List StLogFrame} {en : Int}
theorem BsC.cap (h : BsC w0 w B v cs k size Y X gF fn fc F qs en wr) : fn ≤ fc := by
 have h1 := h.own.own.row
 rcases h1.2 with ⟨h2, _⟩ | ⟨_, cap, _, hv, _, _, h3, _⟩
 ·cases h2
 ·injection hv with _ e2 e3
  have := h.len
  omega
theorem BsC.fin (h : BsC w0 w B v cs k' size Y X gF fn fc F qs en wr) (hk : k' ≤ k + 40) : BsI w0 w B v cs k size Y X F wr :=
 ⟨_, _, _, qs, en, k', h.box, h.res, h.own.rd, fun b hb => ⟨(h.far b (h.foot b hb)).1, .inl (h.foot b hb)⟩, fun p hp => (h.each p hp).w, ⟨by have := h.len; have := h.small; omega, h.cap⟩, hk, h.src, h.kept⟩
theorem BsC.same (h : BsC w0 w B v cs k size Y X gF fn fc F qs en wr) (hk : Same wr wx) : BsC w0 w B v cs k size Y X gF fn fc F qs en wx :=
 ⟨h.box.same hk, h.res.same hk, h.own.same hk, h.len, h.small, h.each, h.foot, h.far, h.src.same hk, h.kept.next hk (fun _ _ e => e.elim), h.yx⟩
theorem BsC.draw (h : BsC w0 w B v cs k size Y X gF fn fc F qs en wr) (hs : SrcR w0 wx B v cs k' size) (hk : Kept (fun b => b = B) wr wx) : BsC w0 w B v cs k' size Y X gF fn fc F qs en wx :=
 ⟨h.box.kept hk h.yx.2.2.2.1, h.res.kept hk h.yx.2.2.2.2.1, h.own.kept hk (fun b hb => (h.far b (h.foot b hb)).2.2.1), h.len, h.small, h.each, h.foot, h.far, hs, h.kept.next hk (fun _ _ e => .inl e), h.yx⟩
theorem BsC.cell (h : BsC w0 w B v cs k size Y X gF fn fc F qs en wr) (t i : Nat) (ht : t < fn) (hi : i < 16) : wr.cell? ⟨gF, t * 16 + i, none⟩ = (kFr.cells (qs[t]'(by rw [← h.len]; exact ht)))[i]? := by
 rcases h.own.own.rd.row with ⟨h0, _⟩ | ⟨b, off, c, he, hc⟩
 ·have := h.len
  rw [h0] at this
  simp at this
  omega
 ·injection he with e1 _ _
  injection e1 with e1
  injection e1 with e1 e2 _
  have := hc t i (by rw [← h.len]; exact ht) hi
  rw [← e1, ← e2, Nat.zero_add] at this
  exact this
theorem BsC.frz (h : BsC w0 w B v cs k size Y X gF fn fc F qs en wr) (j : Nat) : wr.frozen? ⟨gF, j, none⟩ = false := World.ownsRow.frozenAt (show wr.ownsRow 0 50 16 (.slice (some ⟨gF, 0, none⟩) fn fc) fn (kFr.all qs) from by rw [h.len]; have := h.own.own.row; rw [← h.len] at this ⊢; exact this) j
theorem frRows_set {qs : List StLogFrame} {t : Nat} (ht : t < qs.length) {p : StLogFrame} (hr : p.rows = qs[t].rows) : frRows (qs.set t p) = frRows qs := by
 rw [set_mid ht, frRows_append, frRows_cons, hr]
 conv => rhs; rw [list_mid ht, frRows_append, frRows_cons]
theorem BsC.put (h : BsC w0 w B v cs k size Y X gF fn fc F qs en wr) (t : Nat) (ht : t < qs.length) (i : Nat) (u : Value) (hi : i < 16) (p : StLogFrame) (hc : kFr.cells p = (kFr.cells qs[t]).set i u) (hr : p.rows = qs[t].rows) (hb : RcB p.record) : BsC w0 w B v cs k size Y X gF fn fc F (qs.set t p) en (wr.setCell ⟨gF, t * 16 + i, none⟩ u) := by
 have hk : Kept (fun b => b = gF) wr (wr.setCell ⟨gF, t * 16 + i, none⟩ u) := Kept.setCell (R := fun b => b = gF) (Kept.refl _ _) (.inr (by rfl)) _
 have hg : F gF := h.foot gF (.inl rfl)
 obtain ⟨a1, a2, a3, a4, a5⟩ := h.far gF hg
 have eR := frRows_set ht hr
 refine ⟨h.box.kept hk (fun e => a2 e.symm), h.res.kept hk (fun e => a1 e.symm), ⟨h.own.own.setAt h.len ht i u hi hc rfl rfl _ rfl, by rw [eR]; exact h.own.rows.kept hk (fun b hb e => by have e' : b = gF := e; subst e'; exact h.own.out b rfl hb), by rw [eR]; exact h.own.out⟩, by rw [List.length_set]; exact h.len, h.small, fun q hq => ?_, fun b hb => h.foot b (by unfold footFr at hb ⊢; rw [eR] at hb; exact hb), h.far, h.src.on hk (fun e => a3 e.symm) (fun i hi e => by have e' : i = gF := e; omega), h.kept.next hk (fun i hi e => .inr (by have e' : i = gF := e; rw [e']; exact hg)), h.yx⟩
 rcases List.mem_or_eq_of_mem_set hq with hq | rfl
 ·exact h.each q hq
 ·exact hb
theorem RdFr.pre {w : World} {g off n c : Nat} {qs : List StLogFrame} (h : RdFr w (.slice (some ⟨g, off, none⟩) n c) qs) (t : Nat) (ht : t ≤ qs.length) : RdFr w (.slice (some ⟨g, off, none⟩) t c) (qs.take t) := by
 refine ⟨⟨by rw [List.length_take]; have := h.row.max; omega, ?_, fun p hp => h.row.data p (List.mem_of_mem_take hp)⟩, fun p hp => h.data p (List.mem_of_mem_take hp)⟩
 by_cases h0 : t = 0
 ·subst h0
  exact .inl ⟨by simp, _, _, rfl⟩
 ·rcases h.row.row with ⟨h1, _⟩ | ⟨b, off', c', he, hc⟩
  ·rw [h1] at ht
   simp at ht
   omega
  ·injection he with e1 _ e3
   injection e1 with e1
   injection e1 with e1 e2 _
   subst e1 e2 e3
   refine .inr ⟨g, off, c, by rw [List.length_take, Nat.min_eq_left ht], fun j i hj hi => ?_⟩
   have hj' : j < t := by rw [List.length_take] at hj; omega
   rw [List.getElem_take]
   exact hc j i (by omega) hi
theorem footFr_pre {g c t n : Nat} {qs : List StLogFrame} {b : Nat} (h : footFr (.slice (some ⟨g, 0, none⟩) t c) (qs.take t) b) : footFr (.slice (some ⟨g, 0, none⟩) n c) qs b := by
 rcases h with h | h
 ·exact .inl h
 ·obtain ⟨p, hp, hb⟩ := footRows_mem.1 h
  exact .inr (footRows_mem.2 ⟨p, List.mem_of_mem_take hp, hb⟩)
theorem BsC.cut (h : BsC w0 w B v cs k' size Y X gF fn fc F qs en wr) (t : Nat) (ht : t ≤ fn) (hk : k' ≤ k + 40) : BsI w0 w B v cs k size Y X F (wr.setCell ⟨Y, 0, none⟩ (.slice (some ⟨gF, 0, none⟩) t fc)) := by
 have hkY : Kept (fun b => b = Y) wr (wr.setCell ⟨Y, 0, none⟩ (.slice (some ⟨gF, 0, none⟩) t fc)) := Kept.setCell (R := fun b => b = Y) (Kept.refl _ _) (.inr (by rfl)) _
 have hl := h.len
 have hs := h.small
 have fo : ∀ b, footFr (.slice (some ⟨gF, 0, none⟩) t fc) (qs.take t) b → F b := fun b hb => h.foot b (footFr_pre hb)
 refine ⟨_, _, _, qs.take t, en, k', h.box.stored 0 _, h.res.kept hkY h.yx.2.2.1, (h.own.rd.pre t (by omega)).kept hkY (fun b hb e => (h.far b (fo b hb)).2.1 e), fun b hb => ⟨(h.far b (fo b hb)).1, .inl (fo b hb)⟩, fun p hp => (h.each p (List.mem_of_mem_take hp)).w, ⟨by rw [List.length_take]; omega, by have := h.cap; omega⟩, hk, h.src.on hkY (fun e => h.yx.2.2.2.1 e.symm) (fun i hi e => by have e' : i = Y := e; have := h.yx; omega), h.kept.next hkY (fun i hi e => by have e' : i = Y := e; have := h.yx; omega)⟩
theorem BsC.rng (h : BsC w0 w B v cs k size Y X gF fn fc F qs en wr) (t : Nat) (ht : t < qs.length) : wr.rangeAt gF (t * 16 + 2) (rcCells qs[t].record) := fun j u hu => by
 have hj : j < 14 := by have := (List.getElem?_eq_some_iff.1 hu).1; simpa [rcCells] using this
 have h1 := h.cell t (j + 2) (by rw [h.len]; exact ht) (by omega)
 rw [show t * 16 + (j + 2) = t * 16 + 2 + j from by omega] at h1
 rw [h1, ← hu]
 simp [kFr, StLogFrame.cells, rcCells]
theorem ownR_row {w : World} {v : Value} {qs : List StLogFrame} (h : w.ownsRow 0 50 16 v qs.length (kFr.all qs)) : OwnR kFr 0 50 5 w v qs :=
 ⟨h, fun p _ => Own.nil 0 _ .u8 w, fun u hu b hb e => by
  obtain ⟨p, _, rfl⟩ := List.mem_map.1 hu
  simp [kFr, Value.ownBlock] at e, by
  refine List.pairwise_map.2 (List.pairwise_of_forall (fun a b => fun c hc => ?_))
  simp [kFr, Value.ownBlock] at hc⟩
theorem all_rec (pre post : List StLogFrame) (l e : Int) (r y : StLogRecord) : kFr.all (pre ++ ⟨l, e, y⟩ :: post) = lay (kFr.all (pre ++ ⟨l, e, r⟩ :: post)) (pre.length * 16 + 2) (rcCells y) := by
 have c1 : ∀ r : StLogRecord, kFr.all (pre ++ ⟨l, e, r⟩ :: post) = (kFr.all pre ++ [.int .i64 l, .int .i64 e]) ++ (rcCells r ++ kFr.all post) := fun r => by
  rw [kFr.all_append, RowK.all]
  simp [kFr, StLogFrame.cells, rcCells]
 have hl : (kFr.all pre ++ [Value.int .i64 l, .int .i64 e]).length = pre.length * 16 + 2 := by rw [List.length_append, kFr.all_length]; rfl
 rw [c1 y, c1 r, ← hl, lay_midR _ _ _ _ (by rfl)]
theorem BsC.bend (h : BsC w0 w B v cs k size Y X gF fn fc F qs en wr) (t : Nat) (ht : t < qs.length) (y : StLogRecord) {w4 : World} (hkk : Kept (fun b => b = B ∨ FootL qs[t].record.rows b) wr w4) (hrd : StLogRecord.rd w4 y) (hft : ∀ b, FootL y.rows b → (FootL qs[t].record.rows b ∨ wr.heap.size ≤ b) ∧ w0.heap.size ≤ b) (hB : RcW y) (hs : SrcR w0 w4 B v cs k' size) {k0 : Nat} (hk0 : k' ≤ k0 + 40) :
  BsI w0 w B v cs k0 size Y X F (w4.setCells gF (t * 16 + 2) (rcCells y)) ∧ w4.there gF (t * 16 + 2) 14 ∧ w4.cell? ⟨Y, 0, none⟩ = some (.slice (some ⟨gF, 0, none⟩) fn fc) ∧ w4.rangeAt gF (t * 16 + 2) (rcCells qs[t].record) := by
 obtain ⟨e1, e2, e3, e4, e5, e6⟩ := h.yx
 have hin : ∀ b, FootL qs[t].record.rows b → F b := fun b hb => h.foot b (.inr (footRows_mem.2 ⟨qs[t], List.getElem_mem ht, hb⟩))
 have hgF : F gF := h.foot gF (.inl rfl)
 have hgn : ¬ (gF = B ∨ FootL qs[t].record.rows gF) := fun e => e.elim (fun e => (h.far gF hgF).2.2.1 e) (fun e => h.own.out gF rfl (footRows_mem.2 ⟨qs[t], List.getElem_mem ht, e⟩))
 have hrow := hkk.owns h.own.own.row (fun b hb => by have e : gF = b := (by simpa [Value.ownBlock] using hb); rw [← e]; exact hgn)
 have hbx := h.box.kept hkk (fun e => e.elim e4 (fun e => (h.far Y (hin Y e)).2.1 rfl))
 have hkS : Kept (fun b => b = gF) w4 (w4.setCells gF (t * 16 + 2) (rcCells y)) := Kept.setCells (R := fun b => b = gF) (.inr rfl) _ _ (Kept.refl _ _)
 have hk2 : Kept (fun b => b = B ∨ F b) w w4 := h.kept.next hkk (fun i hi e => e.imp_right (hin i))
 have hl := h.len
 have hsm := h.small
 have hrow2 : w4.ownsRow 0 50 16 (.slice (some ⟨gF, 0, none⟩) fn fc) fn (kFr.all qs) := by rw [← hl] at hrow; exact hrow
 have hset := owns_setCells (rcCells y) (t * 16 + 2) hrow2 (by rw [kFr.all_length]; show t * 16 + 2 + 14 ≤ qs.length * 16; omega)
 have hnew : kFr.all (qs.set t ⟨qs[t].lsn, qs[t].epoch, y⟩) = lay (kFr.all qs) (t * 16 + 2) (rcCells y) := by
  rw [set_mid ht, all_rec (qs.take t) (qs.drop (t + 1)) qs[t].lsn qs[t].epoch qs[t].record y, List.length_take, Nat.min_eq_left (Nat.le_of_lt ht)]
  congr 1
  exact congrArg kFr.all (list_mid ht).symm
 have hown : OwnR kFr 0 50 5 (w4.setCells gF (t * 16 + 2) (rcCells y)) (.slice (some ⟨gF, 0, none⟩) fn fc) (qs.set t ⟨qs[t].lsn, qs[t].epoch, y⟩) := ownR_row (by rw [List.length_set, ← hl, hnew]; exact hset)
 have hsp : frRows qs = frRows (qs.take t) ++ (qs[t].rows ++ frRows (qs.drop (t + 1))) := by
  conv => lhs; rw [list_mid ht, frRows_append, frRows_cons]
 have ho := h.own.rows
 rw [hsp] at ho
 have ap : ∀ {rs ss : List Row}, OwnL wr (rs ++ ss) → ∀ b, FootL rs b → FootL ss b → False := fun {rs ss} h b h1 h2 => by
  obtain ⟨r, hr, e⟩ := h1
  obtain ⟨s, hs, e'⟩ := h2
  exact (List.pairwise_append.1 h.apart).2.2 r hr s hs b e e'
 have hoth : ∀ p, p ∈ qs.take t ∨ p ∈ qs.drop (t + 1) → StLogFrame.rd (w4.setCells gF (t * 16 + 2) (rcCells y)) p := fun p hp => by
  have hpm : p ∈ qs := hp.elim List.mem_of_mem_take List.mem_of_mem_drop
  have h1 := StLogFrame.own_rd (h.own.rows.mem p hpm)
  refine rd_kept (rd_kept h1 hkk (fun b hb e => ?_)) hkS (fun b hb e => ?_)
  ·rcases e with e | e
   ·exact (h.far b (h.foot b (.inr (footRows_mem.2 ⟨p, hpm, hb⟩)))).2.2.1 e
   ·rcases hp with hp | hp
    ·exact ap ho b (footRows_mem.2 ⟨p, hp, hb⟩) ((FootL_append _ _ _).2 (.inl e))
    ·exact ap ho.right b e (footRows_mem.2 ⟨p, hp, hb⟩)
  ·have e' : b = gF := e
   subst e'
   exact h.own.out b rfl (footRows_mem.2 ⟨p, hpm, hb⟩)
 have hyg : ∀ b, FootL y.rows b → ¬ b = gF := fun b hb e => by
  subst e
  rcases (hft b hb).1 with e | e
  ·exact h.own.out b rfl (footRows_mem.2 ⟨qs[t], List.getElem_mem ht, e⟩)
  ·have := h.own.lt b (.inl rfl)
   omega
 have hYl := h.box.lt
 have hXl := h.res.lt
 have hBl := h.src.lt
 refine ⟨⟨_, _, _, qs.set t ⟨qs[t].lsn, qs[t].epoch, y⟩, en, k', hbx.kept hkS (fun e => (h.far gF hgF).2.1 e.symm), (h.res.kept hkk (fun e => e.elim e5 (fun e => (h.far X (hin X e)).1 rfl))).kept hkS (fun e => (h.far gF hgF).1 e.symm), ⟨hown.rd, fun p hp => ?_⟩, fun b hb => ?_, fun p hp => ?_, ⟨by rw [List.length_set]; omega, h.cap⟩, hk0, hs.on hkS (fun e => (h.far gF hgF).2.2.1 e.symm) (fun i hi e => by have e' : i = gF := e; have := (h.far gF hgF).2.2.2.1; omega), hk2.next hkS (fun i hi e => .inr (by have e' : i = gF := e; rw [e']; exact hgF))⟩, fun j hj => ?_, hbx.cell 0, fun j u hu => hkk.cellOf (h.rng t ht j u hu) hgn⟩
 ·rw [set_mid ht] at hp
  rcases List.mem_append.1 hp with hp | hp
  ·exact hoth p (.inl hp)
  ·rcases List.mem_cons.1 hp with rfl | hp
   ·exact rd_kept hrd hkS (fun b hb e => hyg b hb e)
   ·exact hoth p (.inr hp)
 ·have key : F b ∨ FootL y.rows b := by
   rcases hb with hb | hb
   ·exact .inl (h.foot b (.inl hb))
   ·obtain ⟨p, hp, hb⟩ := footRows_mem.1 hb
    rcases List.mem_or_eq_of_mem_set hp with hp | rfl
    ·exact .inl (h.foot b (.inr (footRows_mem.2 ⟨p, hp, hb⟩)))
    ·exact .inr hb
  rcases key with e | e
  ·exact ⟨(h.far b e).1, .inl e⟩
  ·obtain ⟨e1', e2'⟩ := hft b e
   rcases e1' with e | e
   ·exact ⟨(h.far b (hin b e)).1, .inl (hin b e)⟩
   ·exact ⟨by omega, .inr (Nat.le_trans h.kept.size e)⟩
 ·rcases List.mem_or_eq_of_mem_set hp with hp | rfl
  ·exact (h.each p hp).w
  ·exact hB
 ·refine ⟨?_, World.ownsRow.frozenAt hrow2 _⟩
  rw [World.ownsRow.cellAt hrow2 (t * 16 + 2 + j) (by omega), List.getElem?_eq_getElem (by rw [kFr.all_length]; show t * 16 + 2 + j < qs.length * 16; omega)]
  rfl
theorem all_one (qs : List StLogFrame) : ∀ u ∈ kFr.all qs, u.oneCell' = true := by
 induction qs with
 | nil => intro u hu; simp [RowK.all] at hu
 | cons p qs ih =>
  intro u hu
  rcases List.mem_append.1 hu with hu | hu
  ·simp only [kFr, StLogFrame.cells, List.mem_cons, List.not_mem_nil, or_false] at hu
   rcases hu with rfl | rfl | rfl | rfl | rfl | rfl | rfl | rfl | rfl | rfl | rfl | rfl | rfl | rfl | rfl | rfl <;> rfl
  ·exact ih u hu
theorem run_appF {ty : TypeId} {w : World} {v : Value} {ps rs : List StLogFrame} (ho : w.ownsRow 0 50 16 v ps.length (kFr.all ps)) (ad : Addr) (m c : Nat) (hm : rs.length = m) (hn : ∀ j u, (kFr.all rs)[j]? = some u → w.cell? (ad.add j) = some u) (hle : ps.length + rs.length ≤ 10000) :
  ∃ a' n' c' w', (Builtin.append_ #[23, 23] ty #[v, .slice (some ad) m c]).run Try.prog w = .ok (.slice a' n' c') w' ∧ w'.ownsRow 0 50 16 (.slice a' n' c') (ps ++ rs).length (kFr.all (ps ++ rs)) ∧ Kept (fun b => v.ownBlock = some b) w w' ∧ ∀ b, (Value.slice a' n' c').ownBlock = some b → v.ownBlock = some b ∨ w.heap.size ≤ b := by
 obtain ⟨i0, hi, hz0, hz1, hz2⟩ := info_parts Try.infoLF
 subst hm
 obtain ⟨v', w', hr, h2, h3, _, h5⟩ := run_append_own_at (P := Try.prog) w 0 23 ty 50 i0 _ 16 208 Try.underlying23 hi hz0 hz1 hz2 rfl (by omega) v ps.length (kFr.all ps) ho ad rs.length c (kFr.all rs) (by rw [kFr.all_length]; rfl) hn (all_one rs) (by unfold maxLen; omega) (by omega) (Nat.zero_le _)
 obtain ⟨a', c', rfl⟩ : ∃ a' c', v' = .slice a' (ps.length + rs.length) c' := by
  rcases h2.2 with ⟨h, h0⟩ | ⟨g, cap, xs, h, _⟩
  ·exact ⟨none, 0, by rw [h, h0]⟩
  ·exact ⟨_, _, h⟩
 refine ⟨a', _, c', w', hr, by rw [List.length_append, kFr.all_append]; exact h2, Kept.of_grown h3 (fun k e => e), fun b hb => ?_⟩
 rcases h5 with h5 | h5
 ·exact .inl (by rw [← h5]; exact hb)
 ·rw [h5] at hb
  exact .inr (by have := Option.some.inj hb; omega)
theorem step_append_runF {P : Program} {ops : Array Oper} {o : Oper} {a : Act} {w : World} {K : Act → World → Prop} {Q : Exit → Act → World → Prop} {E : Prop} (hgd : o.guard = none) (s x : Operand) (t tn : TypeId)
  (ho : o.op = .call { callee := .builtin .append, args := #[s, x], argTypes := #[t, tn] }) (vs vx : Value) (hs : a.eval s = vs) (hx : a.eval x = vx)
  (v' : Value) (w' : World) (hr : (Builtin.append_ #[t, tn] o.type #[vs, vx]).run P w = .ok v' w') (h : K (a.put o.dst v') w') : if Region.wanted o (yielded ops a.tmps) = true then Oper.wp P o a w K Q else E := by
 have hw : Region.wanted o (yielded ops a.tmps) = true := by simp [Region.wanted, hgd]
 rw [if_pos hw]
 unfold Oper.wp execOp
 simp only [ho, resolve, invoke, builtin, Sem.run_bind, Sem.run_pure, Result.andThen_ok, List.map_toArray, List.map_cons, List.map_nil, hs, hx, hr]
 exact h
theorem madeF (w : World) : (w.alloc (.cells #[] 50)).ownsRow 0 50 16 (.slice (some ⟨w.heap.size, 0, none⟩) 0 0) ([] : List StLogFrame).length (kFr.all []) :=
 ⟨by simp [RowK.all], .inr ⟨w.heap.size, 0, #[], rfl, Nat.zero_le _, Blk.new w #[] _, Nat.le_refl _, Nat.zero_le _, by simp, by simp [RowK.all]⟩⟩
theorem BsC.some_cells (h : BsC w0 w B v cs k size Y X gF fn fc F qs en wr) (o n : Nat) (hn : o + n ≤ fn) (j : Nat) (u : Value) (hu : (kFr.all ((qs.drop o).take n))[j]? = some u) : wr.cell? ((⟨gF, o * 16, none⟩ : Addr).add j) = some u := by
 have hl := h.len
 have hj : j < n * 16 := by
  have := (List.getElem?_eq_some_iff.1 hu).1
  rw [kFr.all_length, List.length_take, List.length_drop] at this
  have e : kFr.m = 16 := rfl
  rw [e] at this
  omega
 have hq : j / 16 < n := by omega
 have hlt : j / 16 < ((qs.drop o).take n).length := by rw [List.length_take, List.length_drop]; omega
 have h1 := kFr.all_at ((qs.drop o).take n) (j / 16) (j % 16) hlt (by show j % 16 < 16; omega)
 have e0 : j / 16 * kFr.m + j % 16 = j := by show j / 16 * 16 + j % 16 = j; omega
 rw [e0, hu] at h1
 have h2 := h.cell (o + j / 16) (j % 16) (by omega) (by omega)
 rw [Addr.add_mid, show o * 16 + j = (o + j / 16) * 16 + j % 16 from by omega, h2, h1]
 simp [List.getElem_take, List.getElem_drop]
theorem BsC.erase (h : BsC w0 w B v cs k' size Y X gF fn fc F qs en wr) {w9 : World} (hk : Same wr w9) {a : Option Addr} {n c : Nat} {rs : List StLogFrame} (hrs : ∀ p ∈ rs, p ∈ qs) (hrl : rs.length ≤ 110) (hrow : w9.ownsRow 0 50 16 (.slice a n c) rs.length (kFr.all rs)) (hnew : ∀ b, (Value.slice a n c).ownBlock = some b → wr.heap.size ≤ b) (hk0 : k' ≤ k + 40) : BsI w0 w B v cs k size Y X F (w9.setCell ⟨Y, 0, none⟩ (.slice a n c)) := by
 have h' := h.same hk
 obtain ⟨e1, e2, e3, e4, e5, e6⟩ := h.yx
 have hYl := h.box.lt
 have hXl := h.res.lt
 have hBl := h.src.lt
 have hws := h.kept.size
 have hkY : Kept (fun b => b = Y) w9 (w9.setCell ⟨Y, 0, none⟩ (.slice a n c)) := Kept.setCell (R := fun b => b = Y) (Kept.refl _ _) (.inr (by rfl)) _
 have hft : ∀ b, footFr (.slice a n c) rs b → ¬ b = X ∧ (F b ∨ w.heap.size ≤ b) ∧ ¬ b = Y := fun b hb => by
  rcases hb with hb | hb
  ·have := hnew b hb
   exact ⟨by omega, .inr (by omega), by omega⟩
  ·obtain ⟨p, hp, hb⟩ := footRows_mem.1 hb
   have hFb := h.foot b (.inr (footRows_mem.2 ⟨p, hrs p hp, hb⟩))
   exact ⟨(h.far b hFb).1, .inl hFb, (h.far b hFb).2.1⟩
 have hcap : n ≤ c := by
  rcases hrow.2 with ⟨h2, _⟩ | ⟨_, cap, _, hv, _, _, h3, _⟩
  ·injection h2 with _ e2 e3
   omega
  ·injection hv with _ e2 e3
   omega
 have hrd : RdFr w9 (.slice a n c) rs := ⟨(ownR_row hrow).rd, fun p hp => StLogFrame.own_rd (h'.own.rows.mem p (hrs p hp))⟩
 exact ⟨a, n, c, rs, en, k', h'.box.stored 0 _, h'.res.kept hkY e3, hrd.kept hkY (fun b hb e => (hft b hb).2.2 e), fun b hb => ⟨(hft b hb).1, (hft b hb).2.1⟩, fun p hp => (h.each p (hrs p hp)).w, ⟨hrl, hcap⟩, hk0, h'.src.on hkY (fun e => e4 e.symm) (fun i hi e => by have e' : i = Y := e; omega), h'.kept.next hkY (fun i hi e => by have e' : i = Y := e; omega)⟩
end
def BsR (w0 w w' : World) (e : Ending) (B : Nat) (v : Value) (cs : List Int) (k : Nat) (size : Int) (F : Nat → Prop) : Prop :=
 ∃ (a : Option Addr) (n c : Nat) (qs : List StLogFrame) (en : Int) (k' : Nat), e = .returned (.agg #[.slice a n c, .int .i64 en]) ∧ RdFr w' (.slice a n c) qs ∧ (∀ b, footFr (.slice a n c) qs b → F b ∨ w.heap.size ≤ b) ∧ (∀ p ∈ qs, RcW p.record) ∧ (qs.length ≤ 110 ∧ n ≤ c) ∧ k' ≤ k + 40 ∧ SrcR w0 w' B v cs k' size ∧ Kept (fun b => b = B ∨ F b) w w'
theorem bscan_k {w0 w : World} {B : Nat} {v : Value} {cs : List Int} {k : Nat} {size : Int} (h : SrcR w0 w B v cs k size) (hk : k ≤ 1072000000) (hw : w0.heap.size ≤ w.heap.size) (fa : Option Addr) (fn fc : Nat) (qs : List StLogFrame) (en : Int) (ho : OwnFr w (.slice fa fn fc) qs) (hq : 1 ≤ qs.length) (hq2 : qs.length ≤ 110) (he : ∀ p ∈ qs, RcB p.record) (hf : ∀ b, footFr (.slice fa fn fc) qs b → ¬ b = B ∧ w0.heap.size ≤ b) :
  Calls Try.prog 18 #[.pointer (some ⟨B, 0, none⟩), .agg #[.slice fa fn fc, .int .i64 en]] w fun e w' => BsR w0 w w' e B v cs k size (footFr (.slice fa fn fc) qs) := by
 obtain ⟨gF, rfl, hfn⟩ := ho.some hq
 have hBw := h.lt
 obtain ⟨N, hN⟩ : ∃ N, w.heap.size = N := ⟨_, rfl⟩
 have b0 := Blk.newL w [.slice (some ⟨gF, 0, none⟩) fn fc, .int .i64 en] 36
 have hk0 : Same w (w.alloc (.cells #[.slice (some ⟨gF, 0, none⟩) fn fc, .int .i64 en] 36)) := (Kept.refl _ _).alloc _
 have hz0 : (w.alloc (.cells #[.slice (some ⟨gF, 0, none⟩) fn fc, .int .i64 en] 36)).heap.size = N + 1 := by simp [← hN]
 have b1 := Blk.new (w.alloc (.cells #[.slice (some ⟨gF, 0, none⟩) fn fc, .int .i64 en] 36)) #[.slice none 0 0, .int .i64 0] 36
 have hk1 : Same (w.alloc (.cells #[.slice (some ⟨gF, 0, none⟩) fn fc, .int .i64 en] 36)) ((w.alloc (.cells #[.slice (some ⟨gF, 0, none⟩) fn fc, .int .i64 en] 36)).alloc (.cells #[.slice none 0 0, .int .i64 0] 36)) := (Kept.refl _ _).alloc _
 rw [hN] at b0
 rw [hz0] at b1
 obtain ⟨F, hF⟩ : ∃ F, footFr (.slice (some ⟨gF, 0, none⟩) fn fc) qs = F := ⟨_, rfl⟩
 have HC := (show Hid (BsC w0 w B v cs k size N (N + 1) gF fn fc F qs en ((w.alloc (.cells #[.slice (some ⟨gF, 0, none⟩) fn fc, .int .i64 en] 36)).alloc (.cells #[.slice none 0 0, .int .i64 0] 36))) from ⟨b0.same hk1, b1, (ho.same hk0).same hk1, hfn, by omega, he, fun b hb => by rw [← hF]; exact hb, fun b hb => by rw [← hF] at hb; have h1 := ho.lt b hb; have h2 := hf b hb; exact ⟨by omega, by omega, h2.1, h2.2, h1⟩, (h.same hk0).same hk1, (hk0.trans hk1).mono (fun _ _ e => e.elim), by omega, by omega, by omega, by omega, by omega, by omega⟩)
 rw [hF]
 have HN := hid hN
 have HL := hid hfn
 have hfn1 : 1 ≤ fn := by omega
 have hfn2 : fn ≤ 110 := by omega
 clear b0 hk0 b1 hk1 ho hf h he hF hfn hq hq2
 go_enter Try.func18, Try.ntmps18
 go_upto_region 1 with fail
 try simp only [hz0]
 try simp only [hN]
 clear hN hz0
 generalize World.alloc _ _ = w1 at HC ⊢
 have c0 : w1.cell? ⟨N, 0, none⟩ = some (.slice (some ⟨gF, 0, none⟩) fn fc) := HC.out.box.cell 0
 have ef : ((fn : Int) == 0) = false := by simp; omega
 go_wp2_with fail
 refine (next_k (fn : Int) HC.out.src (by omega) (by constructor <;> omega)).mono ?_
 rintro e w2 ⟨t, rfl, hd, hs', hk'⟩
 obtain ⟨ht1, ht2⟩ := hd.2 (by omega)
 have HC2 := hid (HC.out.draw hs' hk')
 clear HC hd hs' hk' c0 ef
 obtain ⟨t, rfl⟩ : ∃ m : Nat, t = (m : Int) := ⟨t.toNat, by omega⟩
 have htn : t < fn := by omega
 clear ht1
 go_wp2_with fail
 refine (next_k 6 HC2.out.src (by omega) (by constructor <;> decide)).mono ?_
 rintro e w3 ⟨z, rfl, hd, hs', hk'⟩
 have HC3 := hid (HC2.out.draw hs' hk')
 clear HC2 hd hs' hk'
 have c0 : w3.cell? ⟨N, 0, none⟩ = some (.slice (some ⟨gF, 0, none⟩) fn fc) := HC3.out.box.cell 0
 go_upto_block 0 with fail
 go_cut [3] (fun x wx => x = .pointer (some ⟨N, 0, none⟩) ∧ Hid (BsI w0 w B v cs k size N (N + 1) F wx))
 case first =>
  by_cases z0 : z = 0
  ·subst z0
   as_aux_lemma =>
   have hcap : (t : Int) ≤ (fc : Int) := by have := HC3.out.cap; omega
   have f0 := HC3.out.box.frozen 0
   have HF := (show Hid (BsI w0 w B v cs k size N (N + 1) F (w3.setCell ⟨N, 0, none⟩ (.slice (some ⟨gF, 0, none⟩) t fc))) from HC3.out.cut t (by omega) (by omega))
   clear HC3
   go_wp2_with fail
   generalize World.setCell _ ⟨N, 0, none⟩ _ = w9 at HF ⊢
   go_meet
   case rel => exact ⟨rfl, HF⟩
  have e0 : (z == 0) = false := by simp [z0]
  clear z0
  by_cases z1 : z = 1
  ·subst z1
   as_aux_lemma =>
   have hti : (t : Int) < (fn : Int) := by omega
   obtain ⟨zc, hzc⟩ : ∃ z, (qs[t]'(by have := HL.out; omega)).lsn = z := ⟨_, rfl⟩
   have HZC := (show Hid (∀ kx wx, BsC w0 w B v cs kx size N (N + 1) gF fn fc F qs en wx → wx.cell? ⟨gF, t * 16, none⟩ = some (.int .i64 zc)) from fun kx wx h => by rw [← hzc]; exact h.cell t 0 htn (by omega))
   clear hzc
   obtain ⟨zo, hzo⟩ : ∃ z, (qs[t]'(by have := HL.out; omega)).lsn = z := ⟨_, rfl⟩
   have HZO := (show Hid (∀ kx wx, BsC w0 w B v cs kx size N (N + 1) gF fn fc F qs en wx → wx.cell? ⟨gF, t * 16, none⟩ = some (.int .i64 zo)) from fun kx wx h => by rw [← hzo]; exact h.cell t 0 htn (by omega))
   clear hzo
   go_wp2_with fail
   refine wp_region_V (fun wx : World => wx.cell? ⟨N, 0, none⟩ = some (.slice (some ⟨gF, 0, none⟩) fn fc) ∧ wx.cell? ⟨gF, t * 16, none⟩ = some (.int .i64 zc)) 15 16 rfl (by kernel_rfl) ?_
   generalize hwd : World.drew w3 = w7
   have hk7 : Same w3 w7 := by rw [← hwd]; exact (Kept.refl _ _).drew
   clear hwd
   have HC7 := hid (HC3.out.same hk7)
   have hS : (fun wx : World => wx.cell? ⟨N, 0, none⟩ = some (.slice (some ⟨gF, 0, none⟩) fn fc) ∧ wx.cell? ⟨gF, t * 16, none⟩ = some (.int .i64 zc)) w7 := ⟨HC7.out.box.cell 0, HZC.out _ _ HC7.out⟩
   clear HC3 hk7
   refine tk 0 28 hS ?_
   refine tk 1 29 hS ?_
   refine tk 2 30 hS ?_
   refine tk 3 31 hS ?_
   refine tk 4 32 hS ?_
   refine tk 5 33 hS ?_
   refine tk 6 34 hS ?_
   refine tk 7 35 hS ?_
   refine tk 8 36 hS ?_
   refine tk 9 37 hS ?_
   refine wpAnyV_one (i := 10) (by kernel_rfl) rfl (fun K hK => ?_)
   go_simp
   refine (next_k 400 HC7.out.src (by omega) (by constructor <;> decide)).mono ?_
   rintro e w4 ⟨q, rfl, hd, hs', hk'⟩
   have HC4 := hid (HC7.out.draw hs' hk')
   have hS : (fun wx : World => wx.cell? ⟨N, 0, none⟩ = some (.slice (some ⟨gF, 0, none⟩) fn fc) ∧ wx.cell? ⟨gF, t * 16, none⟩ = some (.int .i64 zc)) w4 := ⟨HC4.out.box.cell 0, HZC.out _ _ HC4.out⟩
   clear HC7 hd hs' hk'
   go_wp2_with fail
   refine hK.out _ _ (fun _ => hS) ?_
   clear hK K
   try simp only [Act.put, sA, s0, sS]
   obtain ⟨m1, hm1⟩ : ∃ m, IntKind.i64.wrap (zc + q) = m := ⟨_, rfl⟩
   obtain ⟨m2, hm2⟩ : ∃ m, IntKind.i64.wrap (m1 - 200) = m := ⟨_, rfl⟩
   have htq : t < qs.length := by have := HL.out; omega
   have cO : w4.cell? ⟨gF, t * 16, none⟩ = some (.int .i64 zo) := HZO.out _ w4 HC4.out
   have fO := HC4.out.frz (t * 16)
   have HF := hid (HC4.out.put t htq 0 (.int .i64 m2) (by omega) ⟨m2, qs[t].epoch, qs[t].record⟩ rfl rfl (by have h := HC4.out.each qs[t] (List.getElem_mem htq); exact h))
   clear HC4 HZO
   refine wpAnyV_one (i := 11) (by kernel_rfl) rfl (fun K hK => ?_)
   go_simp
   refine hK.out _ _ (fun _ => hS) ?_
   clear hK K
   try simp only [Act.put, sA, s0, sS]
   refine wpAnyV_one (i := 12) (by kernel_rfl) rfl (fun K hK => ?_)
   go_simp
   refine hK.out _ _ (fun _ => hS) ?_
   clear hK K
   try simp only [Act.put, sA, s0, sS]
   refine wpAnyV_one (i := 13) (by kernel_rfl) rfl (fun K hK => ?_)
   go_simp
   refine hK.out _ _ (fun _ => hS) ?_
   clear hK K
   try simp only [Act.put, sA, s0, sS]
   refine wpAnyV_one (i := 14) (by kernel_rfl) rfl (fun K hK => ?_)
   go_simp
   refine hK.out _ _ (fun _ => hS) ?_
   clear hK K
   try simp only [Act.put, sA, s0, sS]
   refine wpAnyV_one (i := 15) (by kernel_rfl) rfl (fun K hK => ?_)
   go_simp
   refine hK.out _ _ (fun h => absurd rfl h) ?_
   clear hK K
   refine wpAnyV_done (by kernel_rfl) ?_
   try simp only [Act.put, sA, s0, sS]
   clear hS cO fO
   generalize World.setCell _ ⟨gF, t * 16, none⟩ _ = w9 at HF ⊢
   go_wp2_with fail
   go_meet
   case rel => exact ⟨rfl, HF.out.fin (by omega)⟩
  have e1 : (z == 1) = false := by simp [z1]
  clear z1
  by_cases z2 : z = 2
  ·subst z2
   as_aux_lemma =>
   have hti : (t : Int) < (fn : Int) := by omega
   obtain ⟨zc, hzc⟩ : ∃ z, (qs[t]'(by have := HL.out; omega)).record.prev = z := ⟨_, rfl⟩
   have HZC := (show Hid (∀ kx wx, BsC w0 w B v cs kx size N (N + 1) gF fn fc F qs en wx → wx.cell? ⟨gF, t * 16 + 4, none⟩ = some (.int .i64 zc)) from fun kx wx h => by rw [← hzc]; exact h.cell t 4 htn (by omega))
   clear hzc
   obtain ⟨zo, hzo⟩ : ∃ z, (qs[t]'(by have := HL.out; omega)).record.prev = z := ⟨_, rfl⟩
   have HZO := (show Hid (∀ kx wx, BsC w0 w B v cs kx size N (N + 1) gF fn fc F qs en wx → wx.cell? ⟨gF, t * 16 + 4, none⟩ = some (.int .i64 zo)) from fun kx wx h => by rw [← hzo]; exact h.cell t 4 htn (by omega))
   clear hzo
   go_wp2_with fail
   refine wp_region_V (fun wx : World => wx.cell? ⟨N, 0, none⟩ = some (.slice (some ⟨gF, 0, none⟩) fn fc) ∧ wx.cell? ⟨gF, t * 16 + 4, none⟩ = some (.int .i64 zc)) 14 15 rfl (by kernel_rfl) ?_
   generalize hwd : World.drew w3 = w7
   have hk7 : Same w3 w7 := by rw [← hwd]; exact (Kept.refl _ _).drew
   clear hwd
   have HC7 := hid (HC3.out.same hk7)
   have hS : (fun wx : World => wx.cell? ⟨N, 0, none⟩ = some (.slice (some ⟨gF, 0, none⟩) fn fc) ∧ wx.cell? ⟨gF, t * 16 + 4, none⟩ = some (.int .i64 zc)) w7 := ⟨HC7.out.box.cell 0, HZC.out _ _ HC7.out⟩
   clear HC3 hk7
   obtain ⟨m1, hm1⟩ : ∃ m, IntKind.i64.wrap (zc + 1) = m := ⟨_, rfl⟩
   refine tk 0 45 hS ?_
   refine tk 1 46 hS ?_
   refine tk 2 47 hS ?_
   refine tk 3 48 hS ?_
   refine tk 4 49 hS ?_
   refine tk 5 50 hS ?_
   refine tk 6 51 hS ?_
   refine tk 7 52 hS ?_
   refine tk 8 53 hS ?_
   refine tk 9 54 hS ?_
   refine tk 10 55 hS ?_
   have htq : t < qs.length := by have := HL.out; omega
   have cO : w7.cell? ⟨gF, t * 16 + 4, none⟩ = some (.int .i64 zo) := HZO.out _ w7 HC7.out
   have fO := HC7.out.frz (t * 16 + 4)
   have HF := hid (HC7.out.put t htq 4 (.int .i64 m1) (by omega) ⟨qs[t].lsn, qs[t].epoch, { qs[t].record with prev := m1 }⟩ rfl rfl (by have h := HC7.out.each qs[t] (List.getElem_mem htq); exact h))
   clear HC7 HZO
   refine wpAnyV_one (i := 11) (by kernel_rfl) rfl (fun K hK => ?_)
   go_simp
   refine hK.out _ _ (fun _ => hS) ?_
   clear hK K
   try simp only [Act.put, sA, s0, sS]
   refine wpAnyV_one (i := 12) (by kernel_rfl) rfl (fun K hK => ?_)
   go_simp
   refine hK.out _ _ (fun _ => hS) ?_
   clear hK K
   try simp only [Act.put, sA, s0, sS]
   refine wpAnyV_one (i := 13) (by kernel_rfl) rfl (fun K hK => ?_)
   go_simp
   refine hK.out _ _ (fun _ => hS) ?_
   clear hK K
   try simp only [Act.put, sA, s0, sS]
   refine wpAnyV_one (i := 14) (by kernel_rfl) rfl (fun K hK => ?_)
   go_simp
   refine hK.out _ _ (fun h => absurd rfl h) ?_
   clear hK K
   refine wpAnyV_done (by kernel_rfl) ?_
   try simp only [Act.put, sA, s0, sS]
   clear hS cO fO
   generalize World.setCell _ ⟨gF, t * 16 + 4, none⟩ _ = w9 at HF ⊢
   go_wp2_with fail
   go_meet
   case rel => exact ⟨rfl, HF.out.fin (by omega)⟩
  have e2 : (z == 2) = false := by simp [z2]
  clear z2
  by_cases z3 : z = 3
  ·subst z3
   as_aux_lemma =>
   clear c0
   go_wp2_with fail
   obtain ⟨t1, ht1⟩ : ∃ z, t = z := ⟨_, rfl⟩
   rw [ht1] at htn ⊢
   clear ht1 ht2
   go_loopw [6, 7] (fun a kk wr => ∃ t j : Nat, t < fn ∧ j ≤ fn ∧ a = .int .i64 (t : Int) ∧ kk = .int .i64 (j : Int) ∧ Hid (BsC w0 w B v cs (k + 1 + 1) size N (N + 1) gF fn fc F qs en wr)) (fun _ kk _ => fn - (intOf kk).toNat)
   case atStart => exact ⟨t1, 0, htn, by omega, rfl, rfl, HC3⟩
   case round =>
   clear htn HC3
   obtain ⟨t, j, htn, hj, rfl, rfl, HC4⟩ := hrel
   have hti : (t : Int) < (fn : Int) := by omega
   have c0 : wr.cell? ⟨N, 0, none⟩ = some (.slice (some ⟨gF, 0, none⟩) fn fc) := HC4.out.box.cell 0
   obtain ⟨zk, hzk⟩ : ∃ z, (qs[t]'(by have := HL.out; omega)).record.kind = z := ⟨_, rfl⟩
   have ck : wr.cell? ⟨gF, t * 16 + 2, none⟩ = some (.int .i64 zk) := by rw [← hzk]; exact HC4.out.cell t 2 htn (by omega)
   clear hzk
   go_upto_region 14 with fail
   go_cut [73] (fun x wx => Hid (∃ b : Bool, x = .bool b ∧ (b = true → j < fn)) ∧ wr = wx)
   case first =>
    by_cases hlt : j < fn
    ·have hji : (j : Int) < (fn : Int) := by omega
     go_wp2_with fail
     go_meet
     case rel => exact ⟨⟨_, rfl, fun _ => hlt⟩, rfl⟩
    ·have hji : ¬ (j : Int) < (fn : Int) := by omega
     go_wp2_with fail
     go_meet
     case rel => exact ⟨⟨_, rfl, fun h => absurd h (by simp)⟩, rfl⟩
   case rest =>
   obtain ⟨⟨bb, rfl, hbb⟩, rfl⟩ := hcut
   clear ck
   cases bb
   case true =>
    have hlt := hbb rfl
    obtain ⟨t2, ht2⟩ : ∃ m : Nat, (t + 1) % fn = m := ⟨_, rfl⟩
    have ht3 : t2 < fn := by rw [← ht2]; exact Nat.mod_lt _ (by omega)
    have q1 : IntKind.i64.wrap ((t : Int) + 1) = (t : Int) + 1 := by rw [IntKind.wrap_i64]; omega
    have q2 : ((t : Int) + 1) % (fn : Int) = (t2 : Int) := by rw [← ht2, Int.natCast_emod, Int.natCast_add]; rfl
    have q3 : ((fn : Int) == 0) = false := by simp; omega
    have q4 : ¬ (fn : Int) = 0 := by omega
    have q5 : 0 ≤ (t : Int) + 1 := by omega
    clear ht2 hbb
    go_wp2_with fail
    go_roundw
    case rel => exact ⟨t2, j + 1, ht3, by omega, by first | rfl | go_num, by go_num, HC4⟩
    case measure => simp [intOf]; omega
   clear hbb
   go_upto_region 17 with fail
   obtain ⟨zc, hzc⟩ : ∃ z, (qs[t]'(by have := HL.out; omega)).lsn = z := ⟨_, rfl⟩
   have HZC := (show Hid (∀ kx wx, BsC w0 w B v cs kx size N (N + 1) gF fn fc F qs en wx → wx.cell? ⟨gF, t * 16, none⟩ = some (.int .i64 zc)) from fun kx wx h => by rw [← hzc]; exact h.cell t 0 htn (by omega))
   clear hzc
   obtain ⟨zo, hzo⟩ : ∃ z, (qs[t]'(by have := HL.out; omega)).record.uN = z := ⟨_, rfl⟩
   have HZO := (show Hid (∀ kx wx, BsC w0 w B v cs kx size N (N + 1) gF fn fc F qs en wx → wx.cell? ⟨gF, t * 16 + 11, none⟩ = some (.int .i64 zo)) from fun kx wx h => by rw [← hzo]; exact h.cell t 11 htn (by omega))
   clear hzo
   refine wp_region_V (fun wx : World => wx.cell? ⟨N, 0, none⟩ = some (.slice (some ⟨gF, 0, none⟩) fn fc) ∧ wx.cell? ⟨gF, t * 16, none⟩ = some (.int .i64 zc)) 16 17 rfl (by kernel_rfl) ?_
   generalize hwd : World.drew wr = w7
   have hk7 : Same wr w7 := by rw [← hwd]; exact (Kept.refl _ _).drew
   clear hwd
   have HC7 := hid (HC4.out.same hk7)
   have hS : (fun wx : World => wx.cell? ⟨N, 0, none⟩ = some (.slice (some ⟨gF, 0, none⟩) fn fc) ∧ wx.cell? ⟨gF, t * 16, none⟩ = some (.int .i64 zc)) w7 := ⟨HC7.out.box.cell 0, HZC.out _ _ HC7.out⟩
   clear HC4 hk7
   refine tk 0 80 hS ?_
   refine tk 1 81 hS ?_
   refine tk 2 82 hS ?_
   refine tk 3 83 hS ?_
   refine tk 4 84 hS ?_
   refine tk 5 85 hS ?_
   refine tk 6 86 hS ?_
   refine tk 7 87 hS ?_
   refine tk 8 88 hS ?_
   refine tk 9 89 hS ?_
   refine wpAnyV_one (i := 10) (by kernel_rfl) rfl (fun K hK => ?_)
   go_simp
   refine (next_k 3 HC7.out.src (by omega) (by constructor <;> decide)).mono ?_
   rintro e w5 ⟨q, rfl, hd, hs', hk'⟩
   have HC5 := hid (HC7.out.draw hs' hk')
   have hS : (fun wx : World => wx.cell? ⟨N, 0, none⟩ = some (.slice (some ⟨gF, 0, none⟩) fn fc) ∧ wx.cell? ⟨gF, t * 16, none⟩ = some (.int .i64 zc)) w5 := ⟨HC5.out.box.cell 0, HZC.out _ _ HC5.out⟩
   clear HC7 hd hs' hk'
   go_wp2_with fail
   refine hK.out _ _ (fun _ => hS) ?_
   clear hK K
   try simp only [Act.put, sA, s0, sS]
   obtain ⟨m1, hm1⟩ : ∃ m, IntKind.i64.wrap (zc - q) = m := ⟨_, rfl⟩
   obtain ⟨m2, hm2⟩ : ∃ m, IntKind.i64.wrap (m1 + 1) = m := ⟨_, rfl⟩
   have htq : t < qs.length := by have := HL.out; omega
   have cO : w5.cell? ⟨gF, t * 16 + 11, none⟩ = some (.int .i64 zo) := HZO.out _ w5 HC5.out
   have fO := HC5.out.frz (t * 16 + 11)
   have HF := hid (HC5.out.put t htq 11 (.int .i64 m2) (by omega) ⟨qs[t].lsn, qs[t].epoch, { qs[t].record with uN := m2 }⟩ rfl rfl (by have h := HC5.out.each qs[t] (List.getElem_mem htq); exact h))
   clear HC5 HZO
   refine wpAnyV_one (i := 11) (by kernel_rfl) rfl (fun K hK => ?_)
   go_simp
   refine hK.out _ _ (fun _ => hS) ?_
   clear hK K
   try simp only [Act.put, sA, s0, sS]
   refine wpAnyV_one (i := 12) (by kernel_rfl) rfl (fun K hK => ?_)
   go_simp
   refine hK.out _ _ (fun _ => hS) ?_
   clear hK K
   try simp only [Act.put, sA, s0, sS]
   refine wpAnyV_one (i := 13) (by kernel_rfl) rfl (fun K hK => ?_)
   go_simp
   refine hK.out _ _ (fun _ => hS) ?_
   clear hK K
   try simp only [Act.put, sA, s0, sS]
   refine wpAnyV_one (i := 14) (by kernel_rfl) rfl (fun K hK => ?_)
   go_simp
   refine hK.out _ _ (fun _ => hS) ?_
   clear hK K
   try simp only [Act.put, sA, s0, sS]
   refine wpAnyV_one (i := 15) (by kernel_rfl) rfl (fun K hK => ?_)
   go_simp
   refine hK.out _ _ (fun _ => hS) ?_
   clear hK K
   try simp only [Act.put, sA, s0, sS]
   refine wpAnyV_one (i := 16) (by kernel_rfl) rfl (fun K hK => ?_)
   go_simp
   refine hK.out _ _ (fun h => absurd rfl h) ?_
   clear hK K
   refine wpAnyV_done (by kernel_rfl) ?_
   try simp only [Act.put, sA, s0, sS]
   clear hS cO fO
   generalize World.setCell _ ⟨gF, t * 16 + 11, none⟩ _ = w9 at HF ⊢
   go_wp2_with fail
   go_meet
   case rel => exact ⟨rfl, HF.out.fin (by omega)⟩
  have e3 : (z == 3) = false := by simp [z3]
  clear z3
  by_cases z4 : z = 4
  ·subst z4
   as_aux_lemma =>
   have hcap := HC3.out.cap
   have hti : (t : Int) ≤ (fc : Int) := by omega
   have hti1 : (t : Int) + 1 ≤ (fn : Int) := by omega
   have hti2 : (t : Int) + 1 ≤ (fc : Int) := by omega
   have hti3 : (fn : Int) ≤ (fc : Int) := by omega
   have q1 : IntKind.i64.wrap ((t : Int) + 1) = (t : Int) + 1 := by rw [IntKind.wrap_i64]; omega
   by_cases hfc : fc = t + 1
   case neg =>
    go_wp2_with fail
    refine wp_region_V (fun wx : World => wx.cell? ⟨N, 0, none⟩ = some (.slice (some ⟨gF, 0, none⟩) fn fc)) 13 14 rfl (by kernel_rfl) ?_
    generalize hwd : World.drew w3 = w7
    have hk7 : Same w3 w7 := by rw [← hwd]; exact (Kept.refl _ _).drew
    clear hwd
    have HC7 := hid (HC3.out.same hk7)
    have hS : (fun wx : World => wx.cell? ⟨N, 0, none⟩ = some (.slice (some ⟨gF, 0, none⟩) fn fc)) w7 := HC7.out.box.cell 0
    clear HC3 hk7
    refine tk 1 99 hS ?_
    refine tk 2 100 hS ?_
    refine tk 3 101 hS ?_
    refine tkV 4 102 (.slice (some ⟨gF, 0, none⟩) t fc) hS ?_
    refine tk 6 104 hS ?_
    refine tk 7 105 hS ?_
    refine tk 8 106 hS ?_
    refine tk 9 107 hS ?_
    refine tkV 10 108 (.slice (some ⟨gF, (t + 1) * 16, none⟩) (fn - (t + 1)) (fc - (t + 1))) hS ?_
    refine wpAnyV_one (i := 0) (by kernel_rfl) rfl (fun K hK => ?_)
    go_simp
    have hr8 := madeF w7
    have hk8 : Same w7 (w7.alloc (.cells #[] 50)) := (Kept.refl _ _).alloc _
    obtain ⟨G, hG⟩ : ∃ G, w7.heap.size = G := ⟨_, rfl⟩
    rw [hG] at hr8
    try rw [hG]
    generalize w7.alloc (.cells #[] 50) = w8 at hr8 hk8 ⊢
    have HR8 := hid hr8
    have HK8 := hid hk8
    have HG := hid hG
    have HC8 := hid (HC7.out.same hk8)
    have hS : (fun wx : World => wx.cell? ⟨N, 0, none⟩ = some (.slice (some ⟨gF, 0, none⟩) fn fc)) w8 := HC8.out.box.cell 0
    clear hr8 hk8 hG
    refine hK.out _ _ (fun _ => hS) ?_
    clear hK K
    try simp only [Act.put, sA, s0, sS]
    obtain ⟨a1, n1, c1, w9, hrun1, hrow1, hkp1, hnew1⟩ := run_appF (ty := 23) (rs := qs.take t) HR8.out ⟨gF, 0, none⟩ t fc (by rw [List.length_take]; have := HL.out; omega) (fun j u hu => by have h := HC8.out.some_cells 0 t (by omega) j u (by rw [List.drop_zero]; exact hu); rw [Nat.zero_mul] at h; exact h) (by simp; have := HL.out; omega)
    have HK9 := (show Hid (Same w7 w9) from HK8.out.next hkp1 (fun i hi e => by have e1 : G = i := (by simpa [Value.ownBlock] using e); have := HG.out; omega))
    have HC9 := hid (HC7.out.same HK9.out)
    have HW1 := (show Hid (∀ b, (Value.slice a1 n1 c1).ownBlock = some b → w7.heap.size ≤ b) from fun b hb => (hnew1 b hb).elim (fun e => by have e1 : G = b := (by simpa [Value.ownBlock] using e); have := HG.out; omega) (fun e => Nat.le_trans HK8.out.size e))
    have HRW1 := hid hrow1
    have HRUN1 := hid hrun1
    have hS : (fun wx : World => wx.cell? ⟨N, 0, none⟩ = some (.slice (some ⟨gF, 0, none⟩) fn fc)) w9 := HC9.out.box.cell 0
    clear hrun1 hrow1 hkp1 hnew1
    refine wpAnyV_one (i := 5) (by kernel_rfl) rfl (fun K hK => ?_)
    refine step_append_runF rfl (.tmp 98) (.tmp 102) 23 23 (by rfl) _ _ (by rfl) (by rfl) _ w9 HRUN1.out ?_
    refine hK.out _ _ (fun _ => hS) ?_
    clear hK K HRUN1
    try simp only [Act.put, sA, s0, sS]
    try simp only [List.getElem_toArray, List.getElem_cons_succ, List.getElem_cons_zero]
    obtain ⟨a2, n2, c2, w10, hrun2, hrow2, hkp2, hnew2⟩ := run_appF (ty := 23) (ps := [] ++ qs.take t) (rs := qs.drop (t + 1)) HRW1.out ⟨gF, (t + 1) * 16, none⟩ (fn - (t + 1)) (fc - (t + 1)) (by rw [List.length_drop]; have := HL.out; omega) (fun j u hu => by have h := HC9.out.some_cells (t + 1) (fn - (t + 1)) (by omega) j u (by rw [List.take_of_length_le (by rw [List.length_drop]; have := HL.out; omega)]; exact hu); exact h) (by simp; have := HL.out; omega)
    have HK10 := (show Hid (Same w7 w10) from HK9.out.next hkp2 (fun i hi e => by have := HW1.out i e; omega))
    have HW2 := (show Hid (∀ b, (Value.slice a2 n2 c2).ownBlock = some b → w7.heap.size ≤ b) from fun b hb => (hnew2 b hb).elim (fun e => HW1.out b e) (fun e => Nat.le_trans HK9.out.size e))
    have HF := hid (HC7.out.erase (k := k) HK10.out (rs := ([] ++ qs.take t) ++ qs.drop (t + 1)) (fun p hp => (List.mem_append.1 hp).elim (fun h => List.mem_of_mem_take (by simpa using h)) List.mem_of_mem_drop) (by simp; have := HL.out; omega) hrow2 HW2.out (by omega))
    have HC10 := hid (HC7.out.same HK10.out)
    have HRUN2 := hid hrun2
    have hS : (fun wx : World => wx.cell? ⟨N, 0, none⟩ = some (.slice (some ⟨gF, 0, none⟩) fn fc)) w10 := HC10.out.box.cell 0
    have f10 := HC10.out.box.frozen 0
    clear hrun2 hrow2 hkp2 hnew2
    refine wpAnyV_one (i := 11) (by kernel_rfl) rfl (fun K hK => ?_)
    refine step_append_runF rfl (.tmp 103) (.tmp 108) 23 23 (by rfl) _ _ (by rfl) (by rfl) _ w10 HRUN2.out ?_
    refine hK.out _ _ (fun _ => hS) ?_
    clear hK K HRUN2 HC7 HC8 HC9 HC10 HK9 HK10 HK8 HRW1 HW1 HW2 HR8
    try simp only [Act.put, sA, s0, sS]
    try simp only [List.getElem_toArray, List.getElem_cons_succ, List.getElem_cons_zero]
    refine wpAnyV_one (i := 12) (by kernel_rfl) rfl (fun K hK => ?_)
    go_simp
    refine hK.out _ _ (fun _ => hS) ?_
    clear hK K
    try simp only [Act.put, sA, s0, sS]
    refine wpAnyV_one (i := 13) (by kernel_rfl) rfl (fun K hK => ?_)
    go_simp
    refine hK.out _ _ (fun h => absurd rfl h) ?_
    clear hK K
    refine wpAnyV_done (by kernel_rfl) ?_
    try simp only [Act.put, sA, s0, sS]
    clear hS f10
    generalize World.setCell w10 ⟨N, 0, none⟩ _ = w11 at HF ⊢
    try simp only [List.getElem_toArray, List.getElem_cons_succ, List.getElem_cons_zero]
    go_wp2_with fail
    go_meet
    case rel => exact ⟨rfl, HF⟩
   have HFC := hid hfc
   clear hfc
   go_wp2_with fail
   refine wp_region_V (fun wx : World => wx.cell? ⟨N, 0, none⟩ = some (.slice (some ⟨gF, 0, none⟩) fn fc)) 13 14 rfl (by kernel_rfl) ?_
   generalize hwd : World.drew w3 = w7
   have hk7 : Same w3 w7 := by rw [← hwd]; exact (Kept.refl _ _).drew
   clear hwd
   have HC7 := hid (HC3.out.same hk7)
   have hS : (fun wx : World => wx.cell? ⟨N, 0, none⟩ = some (.slice (some ⟨gF, 0, none⟩) fn fc)) w7 := HC7.out.box.cell 0
   clear HC3 hk7
   refine tk 1 99 hS ?_
   refine tk 2 100 hS ?_
   refine tk 3 101 hS ?_
   refine tkV 4 102 (.slice (some ⟨gF, 0, none⟩) t fc) hS ?_
   refine tk 6 104 hS ?_
   refine tk 7 105 hS ?_
   refine tk 8 106 hS ?_
   refine tk 9 107 hS ?_
   refine tkV 10 108 (.slice (some ⟨gF, 0, none⟩) (fn - (t + 1)) (fc - (t + 1))) hS ?_ (hy := by intro wx hSw; (try dsimp (config := { zetaDelta := true }) only at hSw); have hfc := HFC.out; go_simp; (try simp [hfc]); (try omega))
   refine wpAnyV_one (i := 0) (by kernel_rfl) rfl (fun K hK => ?_)
   go_simp
   have hr8 := madeF w7
   have hk8 : Same w7 (w7.alloc (.cells #[] 50)) := (Kept.refl _ _).alloc _
   obtain ⟨G, hG⟩ : ∃ G, w7.heap.size = G := ⟨_, rfl⟩
   rw [hG] at hr8
   try rw [hG]
   generalize w7.alloc (.cells #[] 50) = w8 at hr8 hk8 ⊢
   have HR8 := hid hr8
   have HK8 := hid hk8
   have HG := hid hG
   have HC8 := hid (HC7.out.same hk8)
   have hS : (fun wx : World => wx.cell? ⟨N, 0, none⟩ = some (.slice (some ⟨gF, 0, none⟩) fn fc)) w8 := HC8.out.box.cell 0
   clear hr8 hk8 hG
   refine hK.out _ _ (fun _ => hS) ?_
   clear hK K
   try simp only [Act.put, sA, s0, sS]
   obtain ⟨a1, n1, c1, w9, hrun1, hrow1, hkp1, hnew1⟩ := run_appF (ty := 23) (rs := qs.take t) HR8.out ⟨gF, 0, none⟩ t fc (by rw [List.length_take]; have := HL.out; omega) (fun j u hu => by have h := HC8.out.some_cells 0 t (by omega) j u (by rw [List.drop_zero]; exact hu); rw [Nat.zero_mul] at h; exact h) (by simp; have := HL.out; omega)
   have HK9 := (show Hid (Same w7 w9) from HK8.out.next hkp1 (fun i hi e => by have e1 : G = i := (by simpa [Value.ownBlock] using e); have := HG.out; omega))
   have HC9 := hid (HC7.out.same HK9.out)
   have HW1 := (show Hid (∀ b, (Value.slice a1 n1 c1).ownBlock = some b → w7.heap.size ≤ b) from fun b hb => (hnew1 b hb).elim (fun e => by have e1 : G = b := (by simpa [Value.ownBlock] using e); have := HG.out; omega) (fun e => Nat.le_trans HK8.out.size e))
   have HRW1 := hid hrow1
   have HRUN1 := hid hrun1
   have hS : (fun wx : World => wx.cell? ⟨N, 0, none⟩ = some (.slice (some ⟨gF, 0, none⟩) fn fc)) w9 := HC9.out.box.cell 0
   clear hrun1 hrow1 hkp1 hnew1
   refine wpAnyV_one (i := 5) (by kernel_rfl) rfl (fun K hK => ?_)
   refine step_append_runF rfl (.tmp 98) (.tmp 102) 23 23 (by rfl) _ _ (by rfl) (by rfl) _ w9 HRUN1.out ?_
   refine hK.out _ _ (fun _ => hS) ?_
   clear hK K HRUN1
   try simp only [Act.put, sA, s0, sS]
   try simp only [List.getElem_toArray, List.getElem_cons_succ, List.getElem_cons_zero]
   obtain ⟨a2, n2, c2, w10, hrun2, hrow2, hkp2, hnew2⟩ := run_appF (ty := 23) (ps := [] ++ qs.take t) (rs := qs.drop (t + 1)) HRW1.out ⟨gF, 0, none⟩ (fn - (t + 1)) (fc - (t + 1)) (by rw [List.length_drop]; have := HL.out; omega) (fun j u hu => by exfalso; have h0 := (List.getElem?_eq_some_iff.1 hu).1; rw [kFr.all_length, List.length_drop] at h0; have h1 := HL.out; have h2 := HC9.out.cap; have h3 := HFC.out; have e : qs.length - (t + 1) = 0 := (by omega); rw [e] at h0; omega) (by simp; have := HL.out; omega)
   have HK10 := (show Hid (Same w7 w10) from HK9.out.next hkp2 (fun i hi e => by have := HW1.out i e; omega))
   have HW2 := (show Hid (∀ b, (Value.slice a2 n2 c2).ownBlock = some b → w7.heap.size ≤ b) from fun b hb => (hnew2 b hb).elim (fun e => HW1.out b e) (fun e => Nat.le_trans HK9.out.size e))
   have HF := hid (HC7.out.erase (k := k) HK10.out (rs := ([] ++ qs.take t) ++ qs.drop (t + 1)) (fun p hp => (List.mem_append.1 hp).elim (fun h => List.mem_of_mem_take (by simpa using h)) List.mem_of_mem_drop) (by simp; have := HL.out; omega) hrow2 HW2.out (by omega))
   have HC10 := hid (HC7.out.same HK10.out)
   have HRUN2 := hid hrun2
   have hS : (fun wx : World => wx.cell? ⟨N, 0, none⟩ = some (.slice (some ⟨gF, 0, none⟩) fn fc)) w10 := HC10.out.box.cell 0
   have f10 := HC10.out.box.frozen 0
   clear hrun2 hrow2 hkp2 hnew2
   refine wpAnyV_one (i := 11) (by kernel_rfl) rfl (fun K hK => ?_)
   refine step_append_runF rfl (.tmp 103) (.tmp 108) 23 23 (by rfl) _ _ (by rfl) (by rfl) _ w10 HRUN2.out ?_
   refine hK.out _ _ (fun _ => hS) ?_
   clear hK K HRUN2 HC7 HC8 HC9 HC10 HK9 HK10 HK8 HRW1 HW1 HW2 HR8
   try simp only [Act.put, sA, s0, sS]
   try simp only [List.getElem_toArray, List.getElem_cons_succ, List.getElem_cons_zero]
   refine wpAnyV_one (i := 12) (by kernel_rfl) rfl (fun K hK => ?_)
   go_simp
   refine hK.out _ _ (fun _ => hS) ?_
   clear hK K
   try simp only [Act.put, sA, s0, sS]
   refine wpAnyV_one (i := 13) (by kernel_rfl) rfl (fun K hK => ?_)
   go_simp
   refine hK.out _ _ (fun h => absurd rfl h) ?_
   clear hK K
   refine wpAnyV_done (by kernel_rfl) ?_
   try simp only [Act.put, sA, s0, sS]
   clear hS f10
   generalize World.setCell w10 ⟨N, 0, none⟩ _ = w11 at HF ⊢
   try simp only [List.getElem_toArray, List.getElem_cons_succ, List.getElem_cons_zero]
   go_wp2_with fail
   go_meet
   case rel => exact ⟨rfl, HF⟩
  have e4 : (z == 4) = false := by simp [z4]
  clear z4
  by_cases z5 : z = 5
  ·subst z5
   as_aux_lemma =>
   have hti : (t : Int) < (fn : Int) := by omega
   have htq : t < qs.length := by have := HL.out; omega
   obtain ⟨rc, hrc⟩ : ∃ z, rcCells qs[t].record = z := ⟨_, rfl⟩
   have HI14 := (show Hid ((Try.prog.info? 48).map (·.size) = some rc.length) from by unfold Hid; rw [← hrc]; exact infoLR14)
   have HRC := hid hrc
   go_wp2_with fail
   refine wp_region_V (fun wx : World => wx.cell? ⟨N, 0, none⟩ = some (.slice (some ⟨gF, 0, none⟩) fn fc) ∧ wx.rangeAt gF (t * 16 + 2) rc) 13 14 rfl (by kernel_rfl) ?_
   generalize hwd : World.drew w3 = w7
   have hk7 : Same w3 w7 := by rw [← hwd]; exact (Kept.refl _ _).drew
   clear hwd
   have HC7 := hid (HC3.out.same hk7)
   have hS : (fun wx : World => wx.cell? ⟨N, 0, none⟩ = some (.slice (some ⟨gF, 0, none⟩) fn fc) ∧ wx.rangeAt gF (t * 16 + 2) rc) w7 := ⟨HC7.out.box.cell 0, by rw [← HRC.out]; exact HC7.out.rng t htq⟩
   clear HC3 hk7
   refine tk 0 113 hS ?_
   refine tk 1 114 hS ?_
   refine tk 2 115 hS ?_
   refine tk 3 116 hS ?_
   refine tk 4 117 hS ?_
   refine tk 5 118 hS ?_
   refine tk 6 119 hS ?_
   refine tk 7 120 hS ?_
   refine tk 8 121 hS ?_
   refine tkV 9 122 (.agg rc.toArray) hS ?_ (hy := fun wx hSx => exec_load_mid 48 (.tmp 121) rfl gF (t * 16 + 2) rfl rc _ hSx.2 Try.underlying48 rfl HI14.out)
   have kB := bend4_k HC7.out.src (by omega) (by have := HC7.out.kept.size; omega) qs[t].record (HC7.out.each _ (List.getElem_mem htq)) (HC7.out.own.rows.mem _ (List.getElem_mem htq)) (fun b hb => by have := HC7.out.far b (HC7.out.foot b (.inr (footRows_mem.2 ⟨qs[t], List.getElem_mem htq, hb⟩))); exact ⟨this.2.2.1, this.2.2.2.1⟩)
   rw [hrc] at kB
   clear hrc
   refine wpAnyV_one (i := 10) (by kernel_rfl) rfl (fun K hK => ?_)
   go_simp
   refine kB.mono ?_
   rintro e w4 ⟨y, k4, rfl, hrd, hft, hk4, hs4, hkk, hB, hz⟩
   have HF0 := hid (HC7.out.bend t htq y hkk hrd hft ⟨hB, hz⟩ hs4 (k0 := k) (by omega))
   clear hrd hft hs4 hkk hB hz kB HC7
   obtain ⟨hF1, hF2, hF3, hF4⟩ := HF0.out
   rw [HRC.out] at hF4
   have hS : (fun wx : World => wx.cell? ⟨N, 0, none⟩ = some (.slice (some ⟨gF, 0, none⟩) fn fc) ∧ wx.rangeAt gF (t * 16 + 2) rc) w4 := ⟨hF3, hF4⟩
   obtain ⟨yc, hyc⟩ : ∃ z, rcCells y = z := ⟨_, rfl⟩
   have HCY := (show Hid (yc.length = 14) from by unfold Hid; rw [← hyc]; rfl)
   have HON := (show Hid (yc.toArray.all (·.oneCell') = true) from by unfold Hid; rw [← hyc]; exact rcCells_one _)
   rw [hyc] at hF1 ⊢
   have HF := hid hF1
   have HTH := hid hF2
   clear hyc hF1 hF2 hF3 hF4 HF0
   go_wp2_with fail
   refine hK.out _ _ (fun _ => hS) ?_
   clear hK K
   try simp only [Act.put, sA, s0, sS]
   refine wpAnyV_one (i := 11) (by kernel_rfl) rfl (fun K hK => ?_)
   go_simp
   refine hK.out _ _ (fun _ => hS) ?_
   clear hK K
   try simp only [Act.put, sA, s0, sS]
   refine wpAnyV_one (i := 12) (by kernel_rfl) rfl (fun K hK => ?_)
   go_simp
   refine hK.out _ _ (fun _ => hS) ?_
   clear hK K
   try simp only [Act.put, sA, s0, sS]
   refine wpAnyV_one (i := 13) (by kernel_rfl) rfl (fun K hK => ?_)
   refine step_store_mid (by rfl) 48 (.tmp 125) (.tmp 123) (by rfl) gF (t * 16 + 2) yc.toArray (by rfl) (by rfl) (by rw [List.size_toArray, HCY.out]; exact HTH.out) (by rw [List.size_toArray, HCY.out]; exact infoLR14) HON.out ?_
   refine hK.out _ _ (fun h => absurd rfl h) ?_
   clear hK K
   refine wpAnyV_done (by kernel_rfl) ?_
   try simp only [Act.put, sA, s0, sS]
   clear hS HTH
   generalize World.setCells w4 gF (t * 16 + 2) _ = w9 at HF ⊢
   go_wp2_with fail
   go_meet
   case rel => exact ⟨rfl, HF⟩
  have e5 : (z == 5) = false := by simp [z5]
  clear z5
  go_wp2_with fail
  go_meet
  case rel => exact ⟨rfl, HC3.out.fin (by omega)⟩
 case rest =>
 obtain ⟨rfl, HI⟩ := hcut
 clear c0 HC3
 obtain ⟨a, n, c, ps, e9, k9, hb, hx, hrd, hft, hpw, hpl, hk9, hs, hkk⟩ := HI.out
 have HX := hid hx
 have HRD := hid hrd
 have HFT := hid hft
 have HPW := hid hpw
 have HSR := hid hs
 have HKK := hid hkk
 have c0 : wc.cell? ⟨N, 0, none⟩ = some (.slice a n c) := hb.cell 0
 have c1 : wc.cell? ⟨N, 1, none⟩ = some (.int .i64 e9) := hb.cell 1
 have x0 : wc.cell? ⟨N + 1, 0, none⟩ = some (.slice none 0 0) := hx.cell 0
 have x1 : wc.cell? ⟨N + 1, 1, none⟩ = some (.int .i64 0) := hx.cell 1
 have ff := hx.frozen
 have hb9 : Blk ((wc.setCell ⟨N + 1, 0, none⟩ (.slice a n c)).setCell ⟨N + 1, 1, none⟩ (.int .i64 e9)) (N + 1) 36 [.slice a n c, .int .i64 e9] := (hx.stored 0 _).stored 1 _
 have hkr : Kept (fun b => b = N + 1) wc ((wc.setCell ⟨N + 1, 0, none⟩ (.slice a n c)).setCell ⟨N + 1, 1, none⟩ (.int .i64 e9)) := by
  iterate 2 refine Kept.setCell ?_ (.inr (by rfl)) _
  exact Kept.refl _ _
 have HB9 := hid hb9
 have HKR := hid hkr
 clear HI hb hx hrd hft hpw hs hkk hb9 hkr
 go_wp2_with fail
 generalize World.setCell _ ⟨N + 1, 1, none⟩ _ = wz at HB9 HKR ⊢
 refine bodyPost_ret (v := .agg #[.slice a n c, .int .i64 e9]) (endV Try.results18 rfl HB9.out.rangeAll Try.underlying36 rfl (by kernel_rfl)) rfl ?_
 have hNw := HN.out
 exact ⟨a, n, c, ps, e9, k9, rfl, HRD.out.kept HKR.out (fun b hb e => (HFT.out b hb).1 e), fun b hb => (HFT.out b hb).2, HPW.out, hpl, hk9, HSR.out.on HKR.out (fun e => by omega) (fun i hi e => by have e' : i = N + 1 := e; omega), HKK.out.next HKR.out (fun i hi e => by have e' : i = N + 1 := e; omega)⟩
end Go.Proofs.Ytcldagphkpkdpaa
