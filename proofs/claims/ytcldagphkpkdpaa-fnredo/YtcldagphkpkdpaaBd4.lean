import Derived.Test.YtcldagphkpkdpaaG12
import Derived.Deep.CutBlock
namespace Go.Proofs.Ytcldagphkpkdpaa
set_option maxRecDepth 100000
set_option maxHeartbeats 8000000
set_option linter.unusedVariables false
set_option linter.unusedSimpArgs false
open Go Go.RowKit
def rcZ : List Value := [.int .i64 0, .int .i64 0, .int .i64 0, .int .i64 0, .int .i64 0, .bool false, .slice none 0 0, .bool false, .slice none 0 0, .int .i64 0, .int .i64 0, .slice none 0 0, .slice none 0 0, .slice none 0 0]
structure Bd4C (w0 w : World) (B : Nat) (v : Value) (cs : List Int) (k : Nat) (size : Int) (Y X : Nat) (r y : StLogRecord) (wr : World) : Prop where
  box : Blk wr Y 48 (rcCells y)
  res : Blk wr X 48 rcZ
  own : OwnL wr y.rows
  ft : ∀ b, FootL y.rows b → (FootL r.rows b ∨ w.heap.size ≤ b) ∧ ¬ b = X ∧ ¬ b = Y ∧ ¬ b = B ∧ w0.heap.size ≤ b
  src : SrcR w0 wr B v cs k size
  kept : Kept (fun b => b = B ∨ FootL r.rows b) w wr
  isB : IsB y.before.data.bs ∧ IsB y.after.data.bs ∧ IsB y.image.bs
  szs : y.szs ≤ 7000
  yx : w.heap.size ≤ Y ∧ w.heap.size ≤ X ∧ ¬ X = Y ∧ ¬ Y = B ∧ ¬ X = B ∧ w0.heap.size ≤ w.heap.size
def Bd4I (w0 w : World) (B : Nat) (v : Value) (cs : List Int) (k : Nat) (size : Int) (Y X : Nat) (r : StLogRecord) (wr : World) : Prop :=
  ∃ (y : StLogRecord) (k' : Nat), Blk wr Y 48 (rcCells y) ∧ Blk wr X 48 rcZ ∧ StLogRecord.rd wr y ∧ (∀ b, FootL y.rows b → (FootL r.rows b ∨ w.heap.size ≤ b) ∧ ¬ b = X ∧ ¬ b = Y ∧ ¬ b = B ∧ w0.heap.size ≤ b) ∧ k' ≤ k + 20 ∧ SrcR w0 wr B v cs k' size ∧ Kept (fun b => b = B ∨ FootL r.rows b) w wr ∧ (IsB y.before.data.bs ∧ IsB y.after.data.bs ∧ IsB y.image.bs) ∧ y.szs ≤ 7000
section
variable {w0 w wr wx : World} {B : Nat} {v : Value} {cs : List Int} {k k' : Nat} {size : Int} {Y X : Nat} {r y : StLogRecord}
theorem Bd4C.fin (h : Bd4C w0 w B v cs k' size Y X r y wr) (hk : k' ≤ k + 20) : Bd4I w0 w B v cs k size Y X r wr := ⟨y, k', h.box, h.res, StLogRecord.own_rd h.own, h.ft, hk, h.src, h.kept, h.isB, h.szs⟩
theorem Bd4C.same (h : Bd4C w0 w B v cs k size Y X r y wr) (hk : Same wr wx) : Bd4C w0 w B v cs k size Y X r y wx :=
  ⟨h.box.same hk, h.res.same hk, h.own.same hk, h.ft, h.src.same hk, h.kept.next hk (fun _ _ e => e.elim), h.isB, h.szs, h.yx⟩
theorem Bd4C.draw (h : Bd4C w0 w B v cs k size Y X r y wr) (hs : SrcR w0 wx B v cs k' size) (hk : Kept (fun b => b = B) wr wx) : Bd4C w0 w B v cs k' size Y X r y wx :=
  ⟨h.box.kept hk h.yx.2.2.2.1, h.res.kept hk h.yx.2.2.2.2.1, h.own.kept hk (fun b hb => (h.ft b hb).2.2.2.1), h.ft, hs, h.kept.next hk (fun _ _ e => .inl e), h.isB, h.szs, h.yx⟩
theorem Bd4C.next (h : Bd4C w0 w B v cs k size Y X r y wr) (y' : StLogRecord) (hbox : Blk wx Y 48 (rcCells y')) (hk : Kept (fun b => b = Y ∨ FootL y.rows b) wr wx) (ho : OwnL wx y'.rows) (hf : ∀ b, FootL y'.rows b → FootL y.rows b ∨ wr.heap.size ≤ b) (hb : IsB y'.before.data.bs ∧ IsB y'.after.data.bs ∧ IsB y'.image.bs) (hz : y'.szs ≤ 7000) : Bd4C w0 w B v cs k size Y X r y' wx := by
  obtain ⟨e1, e2, e3, e4, e5, e6⟩ := h.yx
  have h1 := h.box.lt
  have h2 := h.res.lt
  have h3 := h.src.lt
  have h4 := h.kept.size
  refine ⟨hbox, h.res.kept hk (fun e => e.elim (fun e => e3 e) (fun e => (h.ft X e).2.1 rfl)), ho, fun b hb => ?_, h.src.on hk (fun e => e.elim (fun e => e4 e.symm) (fun e => (h.ft B e).2.2.2.1 rfl)) (fun i hi e => e.elim (fun e => by have e' : i = Y := e; omega) (fun e => by have := (h.ft i e).2.2.2.2; omega)), h.kept.next hk (fun i hi e => e.elim (fun e => by have e' : i = Y := e; omega) (fun e => .inr ((h.ft i e).1.elim id (fun e => by omega)))), hb, hz, h.yx⟩
  rcases hf b hb with e | e
  · exact h.ft b e
  · exact ⟨.inr (by omega), by omega, by omega, by omega, by omega⟩
theorem Bd4C.next2 (h : Bd4C w0 w B v cs k size Y X r y wr) (y' : StLogRecord) (hbox : Blk wx Y 48 (rcCells y')) (hk : Kept (fun b => b = Y) wr wx) (ho : OwnL wr y'.rows) (G : Nat) (hG : w.heap.size ≤ G ∧ ¬ G = X ∧ ¬ G = Y ∧ ¬ G = B) (hf : ∀ b, FootL y'.rows b → FootL y.rows b ∨ b = G) (hb : IsB y'.before.data.bs ∧ IsB y'.after.data.bs ∧ IsB y'.image.bs) (hz : y'.szs ≤ 7000) : Bd4C w0 w B v cs k size Y X r y' wx := by
  obtain ⟨e1, e2, e3, e4, e5, e6⟩ := h.yx
  have hft : ∀ b, FootL y'.rows b → (FootL r.rows b ∨ w.heap.size ≤ b) ∧ ¬ b = X ∧ ¬ b = Y ∧ ¬ b = B ∧ w0.heap.size ≤ b := fun b hb => by
    rcases hf b hb with e | e
    · exact h.ft b e
    · subst e
      exact ⟨.inr hG.1, hG.2.1, hG.2.2.1, hG.2.2.2, by omega⟩
  exact ⟨hbox, h.res.kept hk e3, ho.kept hk (fun b hb e => (hft b hb).2.2.1 e), hft, h.src.on hk (fun e => e4 e.symm) (fun i hi e => by have e' : i = Y := e; omega), h.kept.next hk (fun i hi e => by have e' : i = Y := e; omega), hb, hz, h.yx⟩
theorem OwnL.repl {w : World} {A X C X' : List Row} (h : OwnL w (A ++ (X ++ C))) (hx : OwnL w X') (hf : ∀ b, FootL X' b → ¬ FootL (A ++ (X ++ C)) b) : OwnL w (A ++ (X' ++ C)) ∧ ∀ b, FootL (A ++ (X' ++ C)) b → FootL (A ++ (X ++ C)) b ∨ FootL X' b := by
  have ap : ∀ {rs ss : List Row}, OwnL w (rs ++ ss) → ∀ b, FootL rs b → FootL ss b → False := fun {rs ss} h b h1 h2 => by
    obtain ⟨r, hr, e⟩ := h1
    obtain ⟨s, hs, e'⟩ := h2
    exact (List.pairwise_append.1 h.apart).2.2 r hr s hs b e e'
  refine ⟨h.left.append (hx.append h.right.right (fun b h1 h2 => hf b h1 ((FootL_append _ _ _).2 (.inr ((FootL_append _ _ _).2 (.inr h2)))))) (fun b h1 h2 => ?_), fun b hb => ?_⟩
  · rcases (FootL_append _ _ _).1 h2 with h2 | h2
    · exact hf b h2 ((FootL_append _ _ _).2 (.inl h1))
    · exact ap h b h1 ((FootL_append _ _ _).2 (.inr h2))
  · rcases (FootL_append _ _ _).1 hb with hb | hb
    · exact .inl ((FootL_append _ _ _).2 (.inl hb))
    rcases (FootL_append _ _ _).1 hb with hb | hb
    · exact .inr hb
    · exact .inl ((FootL_append _ _ _).2 (.inr ((FootL_append _ _ _).2 (.inr hb))))
theorem rp_before {w : World} {r : StLogRecord} {u : Bool} {d : BS} (h : OwnL w r.rows) (hd : OwnL w d.rows) (hf : ∀ b, d.v.ownBlock = some b → ¬ FootL r.rows b) : OwnL w (StLogRecord.rows { r with before := ⟨u, d⟩ }) ∧ ∀ b, FootL (StLogRecord.rows { r with before := ⟨u, d⟩ }) b → FootL r.rows b ∨ d.v.ownBlock = some b := by
  have h1 := OwnL.repl (A := []) (X := r.before.data.rows) (X' := d.rows) h hd (fun b hb => hf b ((foot_BS _ b).1 hb))
  exact ⟨h1.1, fun b hb => (h1.2 b hb).imp_right (fun e => (foot_BS _ b).1 e)⟩
theorem rp_after {w : World} {r : StLogRecord} {u : Bool} {d : BS} (h : OwnL w r.rows) (hd : OwnL w d.rows) (hf : ∀ b, d.v.ownBlock = some b → ¬ FootL r.rows b) : OwnL w (StLogRecord.rows { r with after := ⟨u, d⟩ }) ∧ ∀ b, FootL (StLogRecord.rows { r with after := ⟨u, d⟩ }) b → FootL r.rows b ∨ d.v.ownBlock = some b := by
  have h1 := OwnL.repl (A := r.before.rows) (X := r.after.data.rows) (X' := d.rows) h hd (fun b hb => hf b ((foot_BS _ b).1 hb))
  exact ⟨h1.1, fun b hb => (h1.2 b hb).imp_right (fun e => (foot_BS _ b).1 e)⟩
theorem rp_image {w : World} {r : StLogRecord} {d : BS} (h : OwnL w r.rows) (hd : OwnL w d.rows) (hf : ∀ b, d.v.ownBlock = some b → ¬ FootL r.rows b) : OwnL w (StLogRecord.rows { r with image := d }) ∧ ∀ b, FootL (StLogRecord.rows { r with image := d }) b → FootL r.rows b ∨ d.v.ownBlock = some b := by
  have e1 : r.rows = (r.before.rows ++ (r.after.rows ++ (r.txns.rows 4 ++ r.dirty.rows 2))) ++ (r.image.rows ++ []) := by simp [StLogRecord.rows]
  have e2 : StLogRecord.rows { r with image := d } = (r.before.rows ++ (r.after.rows ++ (r.txns.rows 4 ++ r.dirty.rows 2))) ++ (d.rows ++ []) := by simp [StLogRecord.rows]
  rw [e1] at h hf ⊢
  rw [e2]
  have h1 := OwnL.repl (X' := d.rows) h hd (fun b hb => hf b ((foot_BS _ b).1 hb))
  exact ⟨h1.1, fun b hb => (h1.2 b hb).imp_right (fun e => (foot_BS _ b).1 e)⟩
theorem Bd4C.appT (h : Bd4C w0 w B v cs k size Y X r y wr) (o : Obj) {w9 : World} {g c : Nat} {x1 x2 x3 x4 : Int} (ho : w9.ownsRow 0 106 4 (.slice (some ⟨g, 0, none⟩) (y.txns.n + 1) c) (y.txns.n + 1) (vals .i64 y.txns.bs ++ [.int .i64 x1, .int .i64 x2, .int .i64 x3, .int .i64 x4])) (hg : (wr.alloc o).grownBy w9 y.txns.v.ownBlock) (hat : y.txns.v.ownBlock = some g ∨ g = (wr.alloc o).heap.size) (hz : y.szs ≤ 6999) :
    Bd4C w0 w B v cs k size Y X r { y with txns := ⟨106, some ⟨g, 0, none⟩, y.txns.n + 1, c, y.txns.bs ++ [x1, x2, x3, x4]⟩ } (w9.setCell ⟨Y, 11, none⟩ (.slice (some ⟨g, 0, none⟩) (y.txns.n + 1) c)) ∧ w9.cell? ⟨Y, 11, none⟩ = some y.txns.v ∧ w9.frozen? ⟨Y, 11, none⟩ = false := by
  have h' := h.same ((Kept.refl (fun _ => False) wr).alloc o)
  have hk : Kept (fun b => y.txns.v.ownBlock = some b) (wr.alloc o) w9 := Kept.of_grown hg (fun k e => e)
  have hin : ∀ b, y.txns.v.ownBlock = some b → FootL y.rows b := fun b e => (FootL_append _ _ _).2 (.inr ((FootL_append _ _ _).2 (.inr ((FootL_append _ _ _).2 (.inl ((foot_FR _ _ b).2 e))))))
  have hbx := h'.box.kept hk (fun e => (h'.ft Y (hin Y e)).2.2.1 rfl)
  obtain ⟨s1, s2⟩ := sw_txns (d := ⟨106, some ⟨g, 0, none⟩, y.txns.n + 1, c, y.txns.bs ++ [x1, x2, x3, x4]⟩) h'.own hk (row_app4 ho) (fun b hb => by
    have e1 : g = b := (by simpa [Value.ownBlock, FR.v] using hb)
    subst e1
    exact hat.imp_right (fun e => Nat.le_of_eq e.symm))
  have hk5 : Kept (fun b => b = Y) w9 (w9.setCell ⟨Y, 11, none⟩ (.slice (some ⟨g, 0, none⟩) (y.txns.n + 1) c)) := Kept.setCell (R := fun b => b = Y) (Kept.refl _ _) (.inr (by rfl)) _
  have hfY : ∀ b, FootL (StLogRecord.rows { y with txns := ⟨106, some ⟨g, 0, none⟩, y.txns.n + 1, c, y.txns.bs ++ [x1, x2, x3, x4]⟩ }) b → ¬ b = Y := fun b hb e => by
    have h1 := h'.box.lt
    rcases s2 b hb with e' | e'
    · exact (h'.ft b e').2.2.1 e
    · omega
  refine ⟨h'.next _ (hbx.stored 11 _) ((hk.mono (fun b _ e => .inr (hin b e))).trans (hk5.mono (fun _ _ e => .inl e))) (s1.kept hk5 (fun b hb e => hfY b hb e)) s2 h.isB ?_, hbx.cell 11, hbx.frozen 11⟩
  have hs := hz
  simp only [StLogRecord.szs] at hs ⊢
  omega
theorem Bd4C.appD (h : Bd4C w0 w B v cs k size Y X r y wr) (o : Obj) {w9 : World} {g c : Nat} {x1 x2 : Int} (ho : w9.ownsRow 0 108 2 (.slice (some ⟨g, 0, none⟩) (y.dirty.n + 1) c) (y.dirty.n + 1) (vals .i64 y.dirty.bs ++ [.int .i64 x1, .int .i64 x2])) (hg : (wr.alloc o).grownBy w9 y.dirty.v.ownBlock) (hat : y.dirty.v.ownBlock = some g ∨ g = (wr.alloc o).heap.size) (hz : y.szs ≤ 6999) :
    Bd4C w0 w B v cs k size Y X r { y with dirty := ⟨108, some ⟨g, 0, none⟩, y.dirty.n + 1, c, y.dirty.bs ++ [x1, x2]⟩ } (w9.setCell ⟨Y, 12, none⟩ (.slice (some ⟨g, 0, none⟩) (y.dirty.n + 1) c)) ∧ w9.cell? ⟨Y, 12, none⟩ = some y.dirty.v ∧ w9.frozen? ⟨Y, 12, none⟩ = false := by
  have h' := h.same ((Kept.refl (fun _ => False) wr).alloc o)
  have hk : Kept (fun b => y.dirty.v.ownBlock = some b) (wr.alloc o) w9 := Kept.of_grown hg (fun k e => e)
  have hin : ∀ b, y.dirty.v.ownBlock = some b → FootL y.rows b := fun b e => (FootL_append _ _ _).2 (.inr ((FootL_append _ _ _).2 (.inr ((FootL_append _ _ _).2 (.inr ((FootL_append _ _ _).2 (.inl ((foot_FR _ _ b).2 e))))))))
  have hbx := h'.box.kept hk (fun e => (h'.ft Y (hin Y e)).2.2.1 rfl)
  obtain ⟨s1, s2⟩ := sw_dirty (d := ⟨108, some ⟨g, 0, none⟩, y.dirty.n + 1, c, y.dirty.bs ++ [x1, x2]⟩) h'.own hk (row_app2 ho) (fun b hb => by
    have e1 : g = b := (by simpa [Value.ownBlock, FR.v] using hb)
    subst e1
    exact hat.imp_right (fun e => Nat.le_of_eq e.symm))
  have hk5 : Kept (fun b => b = Y) w9 (w9.setCell ⟨Y, 12, none⟩ (.slice (some ⟨g, 0, none⟩) (y.dirty.n + 1) c)) := Kept.setCell (R := fun b => b = Y) (Kept.refl _ _) (.inr (by rfl)) _
  have hfY : ∀ b, FootL (StLogRecord.rows { y with dirty := ⟨108, some ⟨g, 0, none⟩, y.dirty.n + 1, c, y.dirty.bs ++ [x1, x2]⟩ }) b → ¬ b = Y := fun b hb e => by
    have h1 := h'.box.lt
    rcases s2 b hb with e' | e'
    · exact (h'.ft b e').2.2.1 e
    · omega
  refine ⟨h'.next _ (hbx.stored 12 _) ((hk.mono (fun b _ e => .inr (hin b e))).trans (hk5.mono (fun _ _ e => .inl e))) (s1.kept hk5 (fun b hb e => hfY b hb e)) s2 h.isB ?_, hbx.cell 12, hbx.frozen 12⟩
  have hs := hz
  simp only [StLogRecord.szs] at hs ⊢
  omega
theorem Bd4C.setT {g n c : Nat} {e : TypeId} {bs : List Int} (h : Bd4C w0 w B v cs k size Y X r y wr) (ht : y.txns = ⟨e, some ⟨g, 0, none⟩, n, c, bs⟩) (j : Nat) (z : Int) : Bd4C w0 w B v cs k size Y X r { y with txns := ⟨e, some ⟨g, 0, none⟩, n, c, bs.set j z⟩ } (wr.setCell ⟨g, j, none⟩ (.int .i64 z)) := by
  have hk : Kept (fun b => y.txns.v.ownBlock = some b) wr (wr.setCell ⟨g, j, none⟩ (.int .i64 z)) := Kept.setCell (R := fun b => y.txns.v.ownBlock = some b) (Kept.refl _ _) (.inr (by rw [ht]; rfl)) _
  have hin : ∀ b, y.txns.v.ownBlock = some b → FootL y.rows b := fun b e => (FootL_append _ _ _).2 (.inr ((FootL_append _ _ _).2 (.inr ((FootL_append _ _ _).2 (.inl ((foot_FR _ _ b).2 e))))))
  have ho := FR.own_one h.own.right.right.left
  rw [ht] at ho
  obtain ⟨s1, s2⟩ := sw_txns (d := ⟨e, some ⟨g, 0, none⟩, n, c, bs.set j z⟩) h.own hk (OwnF.stored (show OwnF 4 e wr g n c bs from ho) j z).out (fun b hb => .inl (by rw [ht]; exact hb))
  have hbx := h.box.kept hk (fun e => (h.ft Y (hin Y e)).2.2.1 rfl)
  refine h.next _ (by have e1 : rcCells { y with txns := ⟨e, some ⟨g, 0, none⟩, n, c, bs.set j z⟩ } = rcCells y := by simp only [rcCells, ht, FR.v]
                      rw [e1]; exact hbx) (hk.mono (fun b _ e => .inr (hin b e))) s1 s2 h.isB ?_
  have hs := h.szs
  simp only [StLogRecord.szs, ht] at hs ⊢
  exact hs
theorem Bd4C.setD {g n c : Nat} {e : TypeId} {bs : List Int} (h : Bd4C w0 w B v cs k size Y X r y wr) (ht : y.dirty = ⟨e, some ⟨g, 0, none⟩, n, c, bs⟩) (j : Nat) (z : Int) : Bd4C w0 w B v cs k size Y X r { y with dirty := ⟨e, some ⟨g, 0, none⟩, n, c, bs.set j z⟩ } (wr.setCell ⟨g, j, none⟩ (.int .i64 z)) := by
  have hk : Kept (fun b => y.dirty.v.ownBlock = some b) wr (wr.setCell ⟨g, j, none⟩ (.int .i64 z)) := Kept.setCell (R := fun b => y.dirty.v.ownBlock = some b) (Kept.refl _ _) (.inr (by rw [ht]; rfl)) _
  have hin : ∀ b, y.dirty.v.ownBlock = some b → FootL y.rows b := fun b e => (FootL_append _ _ _).2 (.inr ((FootL_append _ _ _).2 (.inr ((FootL_append _ _ _).2 (.inr ((FootL_append _ _ _).2 (.inl ((foot_FR _ _ b).2 e))))))))
  have ho := FR.own_one h.own.right.right.right.left
  rw [ht] at ho
  obtain ⟨s1, s2⟩ := sw_dirty (d := ⟨e, some ⟨g, 0, none⟩, n, c, bs.set j z⟩) h.own hk (OwnF.stored (show OwnF 2 e wr g n c bs from ho) j z).out (fun b hb => .inl (by rw [ht]; exact hb))
  have hbx := h.box.kept hk (fun e => (h.ft Y (hin Y e)).2.2.1 rfl)
  refine h.next _ (by have e1 : rcCells { y with dirty := ⟨e, some ⟨g, 0, none⟩, n, c, bs.set j z⟩ } = rcCells y := by simp only [rcCells, ht, FR.v]
                      rw [e1]; exact hbx) (hk.mono (fun b _ e => .inr (hin b e))) s1 s2 h.isB ?_
  have hs := h.szs
  simp only [StLogRecord.szs, ht] at hs ⊢
  exact hs
theorem Bd4C.looseI (h : Bd4C w0 w B v cs k size Y X r y wr) (d : BS) (hbox : Blk wx Y 48 (rcCells { y with image := d })) (hk : Kept (fun b => b = B ∨ b = Y ∨ y.image.v.ownBlock = some b) wr wx) (hd : Rd .u8 wx d.v d.bs) (hdB : IsB d.bs) (hdl : d.bs.length ≤ 4096) (hdf : ∀ b, d.v.ownBlock = some b → y.image.v.ownBlock = some b) (hs : SrcR w0 wx B v cs k' size) {k0 : Nat} (hk0 : k' ≤ k0 + 20) (hz : y.szs ≤ 2900 ∨ d.bs.length ≤ y.image.bs.length) : Bd4I w0 w B v cs k0 size Y X r wx := by
  obtain ⟨e1, e2, e3, e4, e5, e6⟩ := h.yx
  have hin : ∀ b, y.image.v.ownBlock = some b → FootL y.rows b := fun b e => (FootL_append _ _ _).2 (.inr ((FootL_append _ _ _).2 (.inr ((FootL_append _ _ _).2 (.inr ((FootL_append _ _ _).2 (.inr ((foot_BS _ b).2 e))))))))
  have eR : y.rows = (y.before.rows ++ (y.after.rows ++ (y.txns.rows 4 ++ y.dirty.rows 2))) ++ y.image.rows := by simp [StLogRecord.rows]
  have ho := h.own
  rw [eR] at ho
  have hA := ho.left.kept hk (fun b hb e => by
    have hy : FootL y.rows b := by rw [eR]; exact (FootL_append _ _ _).2 (.inl hb)
    rcases e with e | e | e
    · exact (h.ft b hy).2.2.2.1 e
    · exact (h.ft b hy).2.2.1 e
    · obtain ⟨r1, hr1, q1⟩ := hb
      exact (List.pairwise_append.1 ho.apart).2.2 r1 hr1 _ (List.mem_singleton.2 rfl) b q1 e)
  have hs2 := h.szs
  refine ⟨{ y with image := d }, k', hbox, h.res.kept hk (fun e => by rcases e with e | e | e ; exact e5 e; exact e3 e; exact (h.ft X (hin X e)).2.1 rfl), ⟨StPageRecord.own_rd hA.left, StPageRecord.own_rd hA.right.left, FR.own_rd hA.right.right.left, FR.own_rd hA.right.right.right, hd⟩, fun b hb => ?_, hk0, hs, h.kept.next hk (fun i hi e => ?_), ⟨h.isB.1, h.isB.2.1, hdB⟩, ?_⟩
  · have e2' : StLogRecord.rows { y with image := d } = (y.before.rows ++ (y.after.rows ++ (y.txns.rows 4 ++ y.dirty.rows 2))) ++ d.rows := by simp [StLogRecord.rows]
    rw [e2'] at hb
    rcases (FootL_append _ _ _).1 hb with hb | hb
    · exact h.ft b (by rw [eR]; exact (FootL_append _ _ _).2 (.inl hb))
    · exact h.ft b (hin b (hdf b ((foot_BS _ b).1 hb)))
  · rcases e with e | e | e
    · exact .inl e
    · have e' : i = Y := e
      omega
    · exact .inr ((h.ft i (hin i e)).1.elim id (fun e => by omega))
  · simp only [StLogRecord.szs, StPageRecord.szs] at hs2 hz ⊢
    omega
theorem Bd4C.looseT (h : Bd4C w0 w B v cs k size Y X r y wr) (d : FR) (hbox : Blk wx Y 48 (rcCells { y with txns := d })) (hk : Kept (fun b => b = B ∨ b = Y) wr wx) (hd : RdF 4 wx d) (hdl : d.n ≤ y.txns.n) (hdf : ∀ b, d.v.ownBlock = some b → y.txns.v.ownBlock = some b) (hs : SrcR w0 wx B v cs k' size) {k0 : Nat} (hk0 : k' ≤ k0 + 20) : Bd4I w0 w B v cs k0 size Y X r wx := by
  obtain ⟨e1, e2, e3, e4, e5, e6⟩ := h.yx
  have hin : ∀ b, y.txns.v.ownBlock = some b → FootL y.rows b := fun b e => (FootL_append _ _ _).2 (.inr ((FootL_append _ _ _).2 (.inr ((FootL_append _ _ _).2 (.inl ((foot_FR _ _ b).2 e))))))
  have hA := h.own.kept hk (fun b hb e => by
    rcases e with e | e
    · exact (h.ft b hb).2.2.2.1 e
    · exact (h.ft b hb).2.2.1 e)
  have hs2 := h.szs
  have hR := StLogRecord.own_rd hA
  refine ⟨{ y with txns := d }, k', hbox, h.res.kept hk (fun e => e.elim e5 e3), ⟨hR.1, hR.2.1, hd, hR.2.2.2.1, hR.2.2.2.2⟩, fun b hb => ?_, hk0, hs, h.kept.next hk (fun i hi e => ?_), h.isB, ?_⟩
  · rcases (FootL_append _ _ _).1 hb with hb | hb
    · exact h.ft b ((FootL_append _ _ _).2 (.inl hb))
    rcases (FootL_append _ _ _).1 hb with hb | hb
    · exact h.ft b ((FootL_append _ _ _).2 (.inr ((FootL_append _ _ _).2 (.inl hb))))
    rcases (FootL_append _ _ _).1 hb with hb | hb
    · exact h.ft b (hin b (hdf b ((foot_FR _ _ b).1 hb)))
    · exact h.ft b ((FootL_append _ _ _).2 (.inr ((FootL_append _ _ _).2 (.inr ((FootL_append _ _ _).2 (.inr hb))))))
  · rcases e with e | e
    · exact .inl e
    · have e' : i = Y := e
      omega
  · simp only [StLogRecord.szs, StPageRecord.szs] at hs2 ⊢
    omega
theorem Bd4C.put (h : Bd4C w0 w B v cs k size Y X r y wr) (y' : StLogRecord) (j : Nat) (u : Value) (hc : rcCells y' = (rcCells y).set j u) (hr : y'.rows = y.rows) (hb : IsB y'.before.data.bs ∧ IsB y'.after.data.bs ∧ IsB y'.image.bs) (hz : y'.szs = y.szs) : Bd4C w0 w B v cs k size Y X r y' (wr.setCell ⟨Y, j, none⟩ u) := by
  have hk : Kept (fun b => b = Y) wr (wr.setCell ⟨Y, j, none⟩ u) := Kept.setCell (R := fun b => b = Y) (Kept.refl _ _) (.inr (by rfl)) _
  refine h.next y' (by rw [hc]; exact h.box.stored j u) (hk.mono (fun _ _ e => .inl e)) (by rw [hr]; exact h.own.kept hk (fun b hb e => (h.ft b hb).2.2.1 e)) (fun b hb => .inl (by rw [← hr]; exact hb)) hb (by rw [hz]; exact h.szs)
end
def Bd4R (w0 w w' : World) (e : Ending) (B : Nat) (v : Value) (cs : List Int) (k : Nat) (size : Int) (r : StLogRecord) : Prop :=
  ∃ (y : StLogRecord) (k' : Nat), e = .returned (.agg (rcCells y).toArray) ∧ StLogRecord.rd w' y ∧ (∀ b, FootL y.rows b → (FootL r.rows b ∨ w.heap.size ≤ b) ∧ w0.heap.size ≤ b) ∧ k' ≤ k + 20 ∧ SrcR w0 w' B v cs k' size ∧ Kept (fun b => b = B ∨ FootL r.rows b) w w' ∧ (IsB y.before.data.bs ∧ IsB y.after.data.bs ∧ IsB y.image.bs) ∧ y.szs ≤ 7000
theorem bend4_t {w0 w : World} {B : Nat} {v : Value} {cs : List Int} {k : Nat} {size : Int} (h : SrcR w0 w B v cs k size) (hk : k ≤ 1073000000) (hw : w0.heap.size ≤ w.heap.size) (r : StLogRecord) (hr : RcB r) (hte : r.txns.e = 106) (hde : r.dirty.e = 108) (hie : r.image.e = 5) (ho : OwnL w r.rows) (hf : ∀ b, FootL r.rows b → ¬ b = B ∧ w0.heap.size ≤ b) :
    Calls Try.prog 39 #[.pointer (some ⟨B, 0, none⟩), .agg (rcCells r).toArray] w fun e w' => Bd4R w0 w w' e B v cs k size r := by
  obtain ⟨kd, tx, pv, pg, sl, ⟨bU, ⟨bE, bA, bC, bB⟩⟩, ⟨aU, ⟨aE, aA, aC, aB⟩⟩, un, nt, ⟨tE, tA, tN, tC, tB⟩, ⟨dE, dA, dN, dC, dB⟩, ⟨iE, iA, iC, iB⟩⟩ := r
  dsimp only at hte hde hie
  subst hte hde hie
  have hBw := h.lt
  obtain ⟨N, hN⟩ : ∃ N, w.heap.size = N := ⟨_, rfl⟩
  have b0 := Blk.newL w [.int .i64 kd, .int .i64 tx, .int .i64 pv, .int .i64 pg, .int .i64 sl, .bool bU, .slice bA bB.length bC, .bool aU, .slice aA aB.length aC, .int .i64 un, .int .i64 nt, .slice tA tN tC, .slice dA dN dC, .slice iA iB.length iC] 48
  have hk0 : Same w (w.alloc (.cells #[.int .i64 kd, .int .i64 tx, .int .i64 pv, .int .i64 pg, .int .i64 sl, .bool bU, .slice bA bB.length bC, .bool aU, .slice aA aB.length aC, .int .i64 un, .int .i64 nt, .slice tA tN tC, .slice dA dN dC, .slice iA iB.length iC] 48)) := (Kept.refl _ _).alloc _
  have hz0 : (w.alloc (.cells #[.int .i64 kd, .int .i64 tx, .int .i64 pv, .int .i64 pg, .int .i64 sl, .bool bU, .slice bA bB.length bC, .bool aU, .slice aA aB.length aC, .int .i64 un, .int .i64 nt, .slice tA tN tC, .slice dA dN dC, .slice iA iB.length iC] 48)).heap.size = N + 1 := by simp [← hN]
  have b1 := Blk.new (w.alloc (.cells #[.int .i64 kd, .int .i64 tx, .int .i64 pv, .int .i64 pg, .int .i64 sl, .bool bU, .slice bA bB.length bC, .bool aU, .slice aA aB.length aC, .int .i64 un, .int .i64 nt, .slice tA tN tC, .slice dA dN dC, .slice iA iB.length iC] 48)) #[.int .i64 0, .int .i64 0, .int .i64 0, .int .i64 0, .int .i64 0, .bool false, .slice none 0 0, .bool false, .slice none 0 0, .int .i64 0, .int .i64 0, .slice none 0 0, .slice none 0 0, .slice none 0 0] 48
  have hk1 : Same (w.alloc (.cells #[.int .i64 kd, .int .i64 tx, .int .i64 pv, .int .i64 pg, .int .i64 sl, .bool bU, .slice bA bB.length bC, .bool aU, .slice aA aB.length aC, .int .i64 un, .int .i64 nt, .slice tA tN tC, .slice dA dN dC, .slice iA iB.length iC] 48)) ((w.alloc (.cells #[.int .i64 kd, .int .i64 tx, .int .i64 pv, .int .i64 pg, .int .i64 sl, .bool bU, .slice bA bB.length bC, .bool aU, .slice aA aB.length aC, .int .i64 un, .int .i64 nt, .slice tA tN tC, .slice dA dN dC, .slice iA iB.length iC] 48)).alloc (.cells #[.int .i64 0, .int .i64 0, .int .i64 0, .int .i64 0, .int .i64 0, .bool false, .slice none 0 0, .bool false, .slice none 0 0, .int .i64 0, .int .i64 0, .slice none 0 0, .slice none 0 0, .slice none 0 0] 48)) := (Kept.refl _ _).alloc _
  rw [hN] at b0
  rw [hz0] at b1
  have HC := (show Hid (Bd4C w0 w B v cs k size N (N + 1) ⟨kd, tx, pv, pg, sl, ⟨bU, ⟨bE, bA, bC, bB⟩⟩, ⟨aU, ⟨aE, aA, aC, aB⟩⟩, un, nt, ⟨106, tA, tN, tC, tB⟩, ⟨108, dA, dN, dC, dB⟩, ⟨5, iA, iC, iB⟩⟩ ⟨kd, tx, pv, pg, sl, ⟨bU, ⟨bE, bA, bC, bB⟩⟩, ⟨aU, ⟨aE, aA, aC, aB⟩⟩, un, nt, ⟨106, tA, tN, tC, tB⟩, ⟨108, dA, dN, dC, dB⟩, ⟨5, iA, iC, iB⟩⟩ ((w.alloc (.cells #[.int .i64 kd, .int .i64 tx, .int .i64 pv, .int .i64 pg, .int .i64 sl, .bool bU, .slice bA bB.length bC, .bool aU, .slice aA aB.length aC, .int .i64 un, .int .i64 nt, .slice tA tN tC, .slice dA dN dC, .slice iA iB.length iC] 48)).alloc (.cells #[.int .i64 0, .int .i64 0, .int .i64 0, .int .i64 0, .int .i64 0, .bool false, .slice none 0 0, .bool false, .slice none 0 0, .int .i64 0, .int .i64 0, .slice none 0 0, .slice none 0 0, .slice none 0 0] 48))) from ⟨b0.same hk1, b1, (ho.same hk0).same hk1, fun b hb => ⟨.inl hb, by have := ho.lt b hb; omega, by have := ho.lt b hb; omega, (hf b hb).1, (hf b hb).2⟩, (h.same hk0).same hk1, (hk0.trans hk1).mono (fun _ _ e => e.elim), ⟨hr.1.1, hr.1.2.1, hr.1.2.2.1⟩, by have := hr.2; omega, by omega, by omega, by omega, by omega, by omega, by omega⟩)
  have hzz := hr.2
  simp only [StLogRecord.szs, StPageRecord.szs] at hzz
  have HN := hid hN
  clear b0 hk0 b1 hk1 ho hf h hr
  dsimp only [rcCells, BS.v, FR.v]
  go_enter Try.func39, Try.ntmps39
  go_upto_region 1 with fail
  try simp only [hz0]
  try simp only [hN]
  clear hN hz0
  generalize World.alloc _ _ = w1 at HC ⊢
  go_wp2_with fail
  refine (next_k 20 HC.out.src (by omega) (by constructor <;> decide)).mono ?_
  rintro e w2 ⟨z, rfl, hd, hs', hk'⟩
  have HC2 := hid (HC.out.draw hs' hk')
  clear HC hd hs' hk'
  go_upto_block 0 with fail
  go_cut [3] (fun x wx => x = .pointer (some ⟨N, 0, none⟩) ∧ Hid (Bd4I w0 w B v cs k size N (N + 1) ⟨kd, tx, pv, pg, sl, ⟨bU, ⟨bE, bA, bC, bB⟩⟩, ⟨aU, ⟨aE, aA, aC, aB⟩⟩, un, nt, ⟨106, tA, tN, tC, tB⟩, ⟨108, dA, dN, dC, dB⟩, ⟨5, iA, iC, iB⟩⟩ wx))
  case first =>
    by_cases z0 : z = 0
    · subst z0
      as_aux_lemma =>
      go_wp2_with fail
      refine (next_k 2 HC2.out.src (by omega) (by constructor <;> decide)).mono ?_
      rintro e w3 ⟨q, rfl, hd, hs', hk'⟩
      obtain ⟨hq1, hq2⟩ := hd.2 (by decide)
      have HC3 := hid (HC2.out.draw hs' hk')
      clear hd hs' hk' HC2
      obtain ⟨m, hm⟩ : ∃ m, IntKind.i64.wrap (9 * q) = m := ⟨_, rfl⟩
      have c0 : w3.cell? ⟨N, 0, none⟩ = some (.int .i64 kd) := HC3.out.box.cell 0
      have f0 := HC3.out.box.frozen 0
      have HF := hid (HC3.out.put ⟨m, tx, pv, pg, sl, ⟨bU, ⟨bE, bA, bC, bB⟩⟩, ⟨aU, ⟨aE, aA, aC, aB⟩⟩, un, nt, ⟨106, tA, tN, tC, tB⟩, ⟨108, dA, dN, dC, dB⟩, ⟨5, iA, iC, iB⟩⟩ 0 (.int .i64 m) rfl rfl HC3.out.isB rfl)
      clear HC3
      go_wp2_with fail
      generalize World.setCell _ ⟨N, 0, none⟩ _ = w9 at HF ⊢
      go_meet
      case rel => exact ⟨rfl, HF.out.fin (by omega)⟩
    have e0 : (z == 0) = false := by simp [z0]
    clear z0
    by_cases z1 : z = 1
    · subst z1
      as_aux_lemma =>
      go_wp2_with fail
      refine (next_k 8 HC2.out.src (by omega) (by constructor <;> decide)).mono ?_
      rintro e w3 ⟨q, rfl, hd, hs', hk'⟩
      obtain ⟨hq1, hq2⟩ := hd.2 (by decide)
      have HC3 := hid (HC2.out.draw hs' hk')
      clear hd hs' hk' HC2
      obtain ⟨m, hm⟩ : ∃ m, IntKind.i64.wrap (1 + q) = m := ⟨_, rfl⟩
      have c0 : w3.cell? ⟨N, 0, none⟩ = some (.int .i64 kd) := HC3.out.box.cell 0
      have f0 := HC3.out.box.frozen 0
      have HF := hid (HC3.out.put ⟨m, tx, pv, pg, sl, ⟨bU, ⟨bE, bA, bC, bB⟩⟩, ⟨aU, ⟨aE, aA, aC, aB⟩⟩, un, nt, ⟨106, tA, tN, tC, tB⟩, ⟨108, dA, dN, dC, dB⟩, ⟨5, iA, iC, iB⟩⟩ 0 (.int .i64 m) rfl rfl HC3.out.isB rfl)
      clear HC3
      go_wp2_with fail
      generalize World.setCell _ ⟨N, 0, none⟩ _ = w9 at HF ⊢
      go_meet
      case rel => exact ⟨rfl, HF.out.fin (by omega)⟩
    have e1 : (z == 1) = false := by simp [z1]
    clear z1
    by_cases z2 : z = 2
    · subst z2
      as_aux_lemma =>
      have hk3 : Same w2 (w2.alloc (.cells #[.int .i64 0, .int .i64 2147483647, .int .i64 2147483648] 2)) := (Kept.refl _ _).alloc _
      have hb3 := Blk.newL w2 [.int .i64 0, .int .i64 2147483647, .int .i64 2147483648] 2
      obtain ⟨U, hU⟩ : ∃ U, w2.heap.size = U := ⟨_, rfl⟩
      have HCa := hid (HC2.out.same hk3)
      rw [hU] at hb3
      have hUB : ¬ U = B := by have := HC2.out.src.lt; omega
      have hUN : ¬ U = N := by have := HC2.out.box.lt; omega
      clear HC2 hk3
      go_wp2_with fail
      try rw [hU]
      generalize World.alloc _ _ = w2a at HCa hb3 ⊢
      clear hU
      refine (next_k 3 HCa.out.src (by omega) (by constructor <;> decide)).mono ?_
      rintro e w3 ⟨q, rfl, hd, hs', hk'⟩
      obtain ⟨hq1, hq2⟩ := hd.2 (by decide)
      have HC3 := hid (HCa.out.draw hs' hk')
      have hb4 := hb3.kept hk' hUB
      clear hd hs' hk' HCa hb3
      obtain ⟨q, rfl⟩ : ∃ m : Nat, q = (m : Int) := ⟨q.toNat, by omega⟩
      have hq3 : q < 3 := by omega
      obtain ⟨m, hm⟩ : ∃ m : Int, w3.cell? ⟨U, q, none⟩ = some (.int .i64 m) := by
        have h := hb4.cell q
        rcases q with _ | _ | _ | q
        · exact ⟨_, h⟩
        · exact ⟨_, h⟩
        · exact ⟨_, h⟩
        · omega
      clear hb4
      have c0 : w3.cell? ⟨N, 1, none⟩ = some (.int .i64 tx) := HC3.out.box.cell 1
      have f0 := HC3.out.box.frozen 1
      have HF := hid (HC3.out.put ⟨kd, m, pv, pg, sl, ⟨bU, ⟨bE, bA, bC, bB⟩⟩, ⟨aU, ⟨aE, aA, aC, aB⟩⟩, un, nt, ⟨106, tA, tN, tC, tB⟩, ⟨108, dA, dN, dC, dB⟩, ⟨5, iA, iC, iB⟩⟩ 1 (.int .i64 m) rfl rfl HC3.out.isB rfl)
      clear HC3
      go_wp2_with fail
      generalize World.setCell _ ⟨N, 1, none⟩ _ = w9 at HF ⊢
      go_meet
      case rel => exact ⟨rfl, HF.out.fin (by omega)⟩
    have e2 : (z == 2) = false := by simp [z2]
    clear z2
    by_cases z3 : z = 3
    · subst z3
      as_aux_lemma =>
      have hk3 : Same w2 (w2.alloc (.cells #[.int .i64 (-1), .int .i64 1099511627776, .int .i64 1099511627777] 2)) := (Kept.refl _ _).alloc _
      have hb3 := Blk.newL w2 [.int .i64 (-1), .int .i64 1099511627776, .int .i64 1099511627777] 2
      obtain ⟨U, hU⟩ : ∃ U, w2.heap.size = U := ⟨_, rfl⟩
      have HCa := hid (HC2.out.same hk3)
      rw [hU] at hb3
      have hUB : ¬ U = B := by have := HC2.out.src.lt; omega
      have hUN : ¬ U = N := by have := HC2.out.box.lt; omega
      clear HC2 hk3
      go_wp2_with fail
      try rw [hU]
      generalize World.alloc _ _ = w2a at HCa hb3 ⊢
      clear hU
      refine (next_k 3 HCa.out.src (by omega) (by constructor <;> decide)).mono ?_
      rintro e w3 ⟨q, rfl, hd, hs', hk'⟩
      obtain ⟨hq1, hq2⟩ := hd.2 (by decide)
      have HC3 := hid (HCa.out.draw hs' hk')
      have hb4 := hb3.kept hk' hUB
      clear hd hs' hk' HCa hb3
      obtain ⟨q, rfl⟩ : ∃ m : Nat, q = (m : Int) := ⟨q.toNat, by omega⟩
      have hq3 : q < 3 := by omega
      obtain ⟨m, hm⟩ : ∃ m : Int, w3.cell? ⟨U, q, none⟩ = some (.int .i64 m) := by
        have h := hb4.cell q
        rcases q with _ | _ | _ | q
        · exact ⟨_, h⟩
        · exact ⟨_, h⟩
        · exact ⟨_, h⟩
        · omega
      clear hb4
      have c0 : w3.cell? ⟨N, 2, none⟩ = some (.int .i64 pv) := HC3.out.box.cell 2
      have f0 := HC3.out.box.frozen 2
      have HF := hid (HC3.out.put ⟨kd, tx, m, pg, sl, ⟨bU, ⟨bE, bA, bC, bB⟩⟩, ⟨aU, ⟨aE, aA, aC, aB⟩⟩, un, nt, ⟨106, tA, tN, tC, tB⟩, ⟨108, dA, dN, dC, dB⟩, ⟨5, iA, iC, iB⟩⟩ 2 (.int .i64 m) rfl rfl HC3.out.isB rfl)
      clear HC3
      go_wp2_with fail
      generalize World.setCell _ ⟨N, 2, none⟩ _ = w9 at HF ⊢
      go_meet
      case rel => exact ⟨rfl, HF.out.fin (by omega)⟩
    have e3 : (z == 3) = false := by simp [z3]
    clear z3
    by_cases z4 : z = 4
    · subst z4
      as_aux_lemma =>
      go_wp2_with fail
      refine (next_k 2 HC2.out.src (by omega) (by constructor <;> decide)).mono ?_
      rintro e w3 ⟨q, rfl, hd, hs', hk'⟩
      obtain ⟨hq1, hq2⟩ := hd.2 (by decide)
      have HC3 := hid (HC2.out.draw hs' hk')
      clear hd hs' hk' HC2
      obtain ⟨m, hm⟩ : ∃ m, IntKind.i64.wrap (16 - q) = m := ⟨_, rfl⟩
      have c0 : w3.cell? ⟨N, 3, none⟩ = some (.int .i64 pg) := HC3.out.box.cell 3
      have f0 := HC3.out.box.frozen 3
      have HF := hid (HC3.out.put ⟨kd, tx, pv, m, sl, ⟨bU, ⟨bE, bA, bC, bB⟩⟩, ⟨aU, ⟨aE, aA, aC, aB⟩⟩, un, nt, ⟨106, tA, tN, tC, tB⟩, ⟨108, dA, dN, dC, dB⟩, ⟨5, iA, iC, iB⟩⟩ 3 (.int .i64 m) rfl rfl HC3.out.isB rfl)
      clear HC3
      go_wp2_with fail
      generalize World.setCell _ ⟨N, 3, none⟩ _ = w9 at HF ⊢
      go_meet
      case rel => exact ⟨rfl, HF.out.fin (by omega)⟩
    have e4 : (z == 4) = false := by simp [z4]
    clear z4
    by_cases z5 : z = 5
    · subst z5
      as_aux_lemma =>
      go_wp2_with fail
      refine (next_k 2 HC2.out.src (by omega) (by constructor <;> decide)).mono ?_
      rintro e w3 ⟨q, rfl, hd, hs', hk'⟩
      obtain ⟨hq1, hq2⟩ := hd.2 (by decide)
      have HC3 := hid (HC2.out.draw hs' hk')
      clear hd hs' hk' HC2
      obtain ⟨m, hm⟩ : ∃ m, IntKind.i64.wrap (32 - q) = m := ⟨_, rfl⟩
      have c0 : w3.cell? ⟨N, 4, none⟩ = some (.int .i64 sl) := HC3.out.box.cell 4
      have f0 := HC3.out.box.frozen 4
      have HF := hid (HC3.out.put ⟨kd, tx, pv, pg, m, ⟨bU, ⟨bE, bA, bC, bB⟩⟩, ⟨aU, ⟨aE, aA, aC, aB⟩⟩, un, nt, ⟨106, tA, tN, tC, tB⟩, ⟨108, dA, dN, dC, dB⟩, ⟨5, iA, iC, iB⟩⟩ 4 (.int .i64 m) rfl rfl HC3.out.isB rfl)
      clear HC3
      go_wp2_with fail
      generalize World.setCell _ ⟨N, 4, none⟩ _ = w9 at HF ⊢
      go_meet
      case rel => exact ⟨rfl, HF.out.fin (by omega)⟩
    have e5 : (z == 5) = false := by simp [z5]
    clear z5
    by_cases z6 : z = 6
    · subst z6
      as_aux_lemma =>
      have c0 : w2.cell? ⟨N, 7, none⟩ = some (.bool aU) := HC2.out.box.cell 7
      have f0 := HC2.out.box.frozen 7
      have HF := hid (HC2.out.put ⟨kd, tx, pv, pg, sl, ⟨bU, ⟨bE, bA, bC, bB⟩⟩, ⟨!aU, ⟨aE, aA, aC, aB⟩⟩, un, nt, ⟨106, tA, tN, tC, tB⟩, ⟨108, dA, dN, dC, dB⟩, ⟨5, iA, iC, iB⟩⟩ 7 (.bool (!aU)) rfl rfl HC2.out.isB rfl)
      clear HC2
      go_wp2_with fail
      generalize World.setCell _ ⟨N, 7, none⟩ _ = w9 at HF ⊢
      go_meet
      case rel => exact ⟨rfl, HF.out.fin (by omega)⟩
    have e6 : (z == 6) = false := by simp [z6]
    clear z6
    by_cases z7 : z = 7
    · subst z7
      as_aux_lemma =>
      go_wp2_with fail
      refine (next_k 2 HC2.out.src (by omega) (by constructor <;> decide)).mono ?_
      rintro e w3 ⟨q, rfl, hd, hs', hk'⟩
      obtain ⟨hq1, hq2⟩ := hd.2 (by decide)
      have HC3 := hid (HC2.out.draw hs' hk')
      clear hd hs' hk' HC2
      obtain ⟨M, hM⟩ : ∃ M : Nat, 1000 + q = (M : Int) := ⟨(1000 + q).toNat, by omega⟩
      have hM1 : M ≤ 1001 := by omega
      have qM : IntKind.i64.wrap (1000 + q) = (M : Int) := by rw [IntKind.wrap_i64]; omega
      clear hM
      go_wp2_with fail
      refine (fill_k M HC3.out.src (by omega) (by omega)).mono ?_
      rintro e w4 ⟨g, ds, rfl, hl, hb, ho, hgB, hs', hgw, hk'⟩
      have HC4 := hid (HC3.out.draw hs' hk')
      have HO := (show Hid (OwnL w4 (BS.rows ⟨5, some ⟨g, 0, none⟩, M, ds⟩)) from OwnL.one (by rw [show BS.v ⟨5, some ⟨g, 0, none⟩, M, ds⟩ = .slice (some ⟨g, 0, none⟩) M M from by simp only [BS.v, hl]]; exact ho.mono (fun b hb => Nat.zero_le _)))
      have HG := (show Hid ((w.heap.size ≤ g ∧ ¬ g = N + 1 ∧ ¬ g = N ∧ ¬ g = B) ∧ ¬ FootL (StLogRecord.rows ⟨kd, tx, pv, pg, sl, ⟨bU, ⟨bE, bA, bC, bB⟩⟩, ⟨aU, ⟨aE, aA, aC, aB⟩⟩, un, nt, ⟨106, tA, tN, tC, tB⟩, ⟨108, dA, dN, dC, dB⟩, ⟨5, iA, iC, iB⟩⟩) g) from ⟨⟨by have := HC3.out.kept.size; omega, by have := HC3.out.res.lt; omega, by have := HC3.out.box.lt; omega, hgB⟩, fun e => by have := HC3.out.own.lt g e; omega⟩)
      have og : ∀ b, (BS.v ⟨5, some ⟨g, 0, none⟩, M, ds⟩).ownBlock = some b → b = g := fun b hb => by have e1 : g = b := (by simpa [Value.ownBlock, BS.v] using hb); exact e1.symm
      clear hs' hk' HC3 ho hgw
      obtain ⟨s1, s2⟩ := rp_before (u := true) HC4.out.own HO.out (fun b hb => by rw [og b hb]; exact HG.out.2)
      have hbx : Blk ((w4.setCell ⟨N, 5, none⟩ (.bool true)).setCell ⟨N, 6, none⟩ (.slice (some ⟨g, 0, none⟩) M M)) N 48 (rcCells ⟨kd, tx, pv, pg, sl, ⟨true, ⟨5, some ⟨g, 0, none⟩, M, ds⟩⟩, ⟨aU, ⟨aE, aA, aC, aB⟩⟩, un, nt, ⟨106, tA, tN, tC, tB⟩, ⟨108, dA, dN, dC, dB⟩, ⟨5, iA, iC, iB⟩⟩) := by
        have h := (HC4.out.box.stored 5 (.bool true)).stored 6 (.slice (some ⟨g, 0, none⟩) M M)
        have e1 : rcCells ⟨kd, tx, pv, pg, sl, ⟨true, ⟨5, some ⟨g, 0, none⟩, M, ds⟩⟩, ⟨aU, ⟨aE, aA, aC, aB⟩⟩, un, nt, ⟨106, tA, tN, tC, tB⟩, ⟨108, dA, dN, dC, dB⟩, ⟨5, iA, iC, iB⟩⟩ = ((rcCells ⟨kd, tx, pv, pg, sl, ⟨bU, ⟨bE, bA, bC, bB⟩⟩, ⟨aU, ⟨aE, aA, aC, aB⟩⟩, un, nt, ⟨106, tA, tN, tC, tB⟩, ⟨108, dA, dN, dC, dB⟩, ⟨5, iA, iC, iB⟩⟩).set 5 (.bool true)).set 6 (.slice (some ⟨g, 0, none⟩) M M) := by
          simp only [rcCells, BS.v, FR.v, hl]
          rfl
        rw [e1]
        exact h
      have hkx : Kept (fun b => b = N) w4 ((w4.setCell ⟨N, 5, none⟩ (.bool true)).setCell ⟨N, 6, none⟩ (.slice (some ⟨g, 0, none⟩) M M)) := by
        iterate 2 refine Kept.setCell ?_ (.inr (by rfl)) _
        exact Kept.refl _ _
      have HF := hid (HC4.out.next2 ⟨kd, tx, pv, pg, sl, ⟨true, ⟨5, some ⟨g, 0, none⟩, M, ds⟩⟩, ⟨aU, ⟨aE, aA, aC, aB⟩⟩, un, nt, ⟨106, tA, tN, tC, tB⟩, ⟨108, dA, dN, dC, dB⟩, ⟨5, iA, iC, iB⟩⟩ hbx hkx s1 g HG.out.1 (fun b hb => (s2 b hb).imp_right (og b)) ⟨hb, HC4.out.isB.2⟩ (by simp only [StLogRecord.szs, StPageRecord.szs]; omega))
      clear hbx hkx
      have c5 : w4.cell? ⟨N, 5, none⟩ = some (.bool bU) := HC4.out.box.cell 5
      have c6 : w4.cell? ⟨N, 6, none⟩ = some (.slice bA bB.length bC) := HC4.out.box.cell 6
      have ff := HC4.out.box.frozen
      clear HC4 HO HG s1 s2 hl hb og
      go_wp2_with fail
      generalize World.setCell _ ⟨N, 6, none⟩ _ = w9 at HF ⊢
      go_meet
      case rel => exact ⟨rfl, HF.out.fin (by omega)⟩
    have e7 : (z == 7) = false := by simp [z7]
    clear z7
    by_cases z8 : z = 8
    · subst z8
      as_aux_lemma =>
      have n0 : ∀ b, ¬ (BS.v ⟨0, none, 0, []⟩).ownBlock = some b := fun b h => by simp [BS.v, Value.ownBlock] at h
      have o0 : OwnL w2 (BS.rows ⟨0, none, 0, []⟩) := OwnL.one (Own.nil 0 0 .u8 w2)
      obtain ⟨s1, s2⟩ := rp_before (u := false) HC2.out.own o0 (fun b hb => absurd hb (n0 b))
      obtain ⟨s3, s4⟩ := rp_after (u := false) s1 o0 (fun b hb => absurd hb (n0 b))
      have hk8 : Kept (fun b => b = N) w2 ((((w2.setCell ⟨N, 5, none⟩ (.bool false)).setCell ⟨N, 6, none⟩ (.slice none 0 0)).setCell ⟨N, 7, none⟩ (.bool false)).setCell ⟨N, 8, none⟩ (.slice none 0 0)) := by
        iterate 4 refine Kept.setCell ?_ (.inr (by rfl)) _
        exact Kept.refl _ _
      have HF := hid (HC2.out.next2 ⟨kd, tx, pv, pg, sl, ⟨false, ⟨0, none, 0, []⟩⟩, ⟨false, ⟨0, none, 0, []⟩⟩, un, nt, ⟨106, tA, tN, tC, tB⟩, ⟨108, dA, dN, dC, dB⟩, ⟨5, iA, iC, iB⟩⟩ (wx := ((((w2.setCell ⟨N, 5, none⟩ (.bool false)).setCell ⟨N, 6, none⟩ (.slice none 0 0)).setCell ⟨N, 7, none⟩ (.bool false)).setCell ⟨N, 8, none⟩ (.slice none 0 0))) ((((HC2.out.box.stored 5 (.bool false)).stored 6 (.slice none 0 0)).stored 7 (.bool false)).stored 8 (.slice none 0 0)) hk8 s3 (N + 2) ⟨by have := HN.out; omega, by omega, by omega, by have := HN.out; omega⟩ (fun b hb => .inl ((s4 b hb).elim (fun e => (s2 b e).elim id (fun e => absurd e (n0 b))) (fun e => absurd e (n0 b)))) ⟨fun y hy => absurd hy (by simp), fun y hy => absurd hy (by simp), HC2.out.isB.2.2⟩ (by have := HC2.out.szs; simp only [StLogRecord.szs, StPageRecord.szs, List.length_nil] at this ⊢; omega))
      have c5 : w2.cell? ⟨N, 5, none⟩ = some (.bool bU) := HC2.out.box.cell 5
      have c6 : w2.cell? ⟨N, 6, none⟩ = some (.slice bA bB.length bC) := HC2.out.box.cell 6
      have c7 : w2.cell? ⟨N, 7, none⟩ = some (.bool aU) := HC2.out.box.cell 7
      have c8 : w2.cell? ⟨N, 8, none⟩ = some (.slice aA aB.length aC) := HC2.out.box.cell 8
      have ff := HC2.out.box.frozen
      clear HC2 s1 s2 s3 s4 n0 o0 hk8
      go_wp2_with fail
      generalize World.setCell _ ⟨N, 8, none⟩ _ = w9 at HF ⊢
      go_meet
      case rel => exact ⟨rfl, HF.out.fin (by omega)⟩
    have e8 : (z == 8) = false := by simp [z8]
    clear z8
    by_cases z9 : z = 9
    · subst z9
      as_aux_lemma =>
      have hk3 : Same w2 (w2.alloc (.cells #[.int .i64 (-1), .int .i64 1099511627776, .int .i64 1099511627777] 2)) := (Kept.refl _ _).alloc _
      have hb3 := Blk.newL w2 [.int .i64 (-1), .int .i64 1099511627776, .int .i64 1099511627777] 2
      obtain ⟨U, hU⟩ : ∃ U, w2.heap.size = U := ⟨_, rfl⟩
      have HCa := hid (HC2.out.same hk3)
      rw [hU] at hb3
      have hUB : ¬ U = B := by have := HC2.out.src.lt; omega
      have hUN : ¬ U = N := by have := HC2.out.box.lt; omega
      clear HC2 hk3
      go_wp2_with fail
      try rw [hU]
      generalize World.alloc _ _ = w2a at HCa hb3 ⊢
      clear hU
      refine (next_k 3 HCa.out.src (by omega) (by constructor <;> decide)).mono ?_
      rintro e w3 ⟨q, rfl, hd, hs', hk'⟩
      obtain ⟨hq1, hq2⟩ := hd.2 (by decide)
      have HC3 := hid (HCa.out.draw hs' hk')
      have hb4 := hb3.kept hk' hUB
      clear hd hs' hk' HCa hb3
      obtain ⟨q, rfl⟩ : ∃ m : Nat, q = (m : Int) := ⟨q.toNat, by omega⟩
      have hq3 : q < 3 := by omega
      obtain ⟨m, hm⟩ : ∃ m : Int, w3.cell? ⟨U, q, none⟩ = some (.int .i64 m) := by
        have h := hb4.cell q
        rcases q with _ | _ | _ | q
        · exact ⟨_, h⟩
        · exact ⟨_, h⟩
        · exact ⟨_, h⟩
        · omega
      clear hb4
      have c0 : w3.cell? ⟨N, 9, none⟩ = some (.int .i64 un) := HC3.out.box.cell 9
      have f0 := HC3.out.box.frozen 9
      have HF := hid (HC3.out.put ⟨kd, tx, pv, pg, sl, ⟨bU, ⟨bE, bA, bC, bB⟩⟩, ⟨aU, ⟨aE, aA, aC, aB⟩⟩, m, nt, ⟨106, tA, tN, tC, tB⟩, ⟨108, dA, dN, dC, dB⟩, ⟨5, iA, iC, iB⟩⟩ 9 (.int .i64 m) rfl rfl HC3.out.isB rfl)
      clear HC3
      go_wp2_with fail
      generalize World.setCell _ ⟨N, 9, none⟩ _ = w9 at HF ⊢
      go_meet
      case rel => exact ⟨rfl, HF.out.fin (by omega)⟩
    have e9 : (z == 9) = false := by simp [z9]
    clear z9
    by_cases z10 : z = 10
    · subst z10
      as_aux_lemma =>
      have hk3 : Same w2 (w2.alloc (.cells #[.int .i64 0, .int .i64 2147483648, .int .i64 2147483649] 2)) := (Kept.refl _ _).alloc _
      have hb3 := Blk.newL w2 [.int .i64 0, .int .i64 2147483648, .int .i64 2147483649] 2
      obtain ⟨U, hU⟩ : ∃ U, w2.heap.size = U := ⟨_, rfl⟩
      have HCa := hid (HC2.out.same hk3)
      rw [hU] at hb3
      have hUB : ¬ U = B := by have := HC2.out.src.lt; omega
      have hUN : ¬ U = N := by have := HC2.out.box.lt; omega
      clear HC2 hk3
      go_wp2_with fail
      try rw [hU]
      generalize World.alloc _ _ = w2a at HCa hb3 ⊢
      clear hU
      refine (next_k 3 HCa.out.src (by omega) (by constructor <;> decide)).mono ?_
      rintro e w3 ⟨q, rfl, hd, hs', hk'⟩
      obtain ⟨hq1, hq2⟩ := hd.2 (by decide)
      have HC3 := hid (HCa.out.draw hs' hk')
      have hb4 := hb3.kept hk' hUB
      clear hd hs' hk' HCa hb3
      obtain ⟨q, rfl⟩ : ∃ m : Nat, q = (m : Int) := ⟨q.toNat, by omega⟩
      have hq3 : q < 3 := by omega
      obtain ⟨m, hm⟩ : ∃ m : Int, w3.cell? ⟨U, q, none⟩ = some (.int .i64 m) := by
        have h := hb4.cell q
        rcases q with _ | _ | _ | q
        · exact ⟨_, h⟩
        · exact ⟨_, h⟩
        · exact ⟨_, h⟩
        · omega
      clear hb4
      have c0 : w3.cell? ⟨N, 10, none⟩ = some (.int .i64 nt) := HC3.out.box.cell 10
      have f0 := HC3.out.box.frozen 10
      have HF := hid (HC3.out.put ⟨kd, tx, pv, pg, sl, ⟨bU, ⟨bE, bA, bC, bB⟩⟩, ⟨aU, ⟨aE, aA, aC, aB⟩⟩, un, m, ⟨106, tA, tN, tC, tB⟩, ⟨108, dA, dN, dC, dB⟩, ⟨5, iA, iC, iB⟩⟩ 10 (.int .i64 m) rfl rfl HC3.out.isB rfl)
      clear HC3
      go_wp2_with fail
      generalize World.setCell _ ⟨N, 10, none⟩ _ = w9 at HF ⊢
      go_meet
      case rel => exact ⟨rfl, HF.out.fin (by omega)⟩
    have e10 : (z == 10) = false := by simp [z10]
    clear z10
    by_cases z11 : z = 11
    · subst z11
      as_aux_lemma =>
      have c0 : w2.cell? ⟨N, 11, none⟩ = some (.slice tA tN tC) := HC2.out.box.cell 11
      have hbn := HC2.out.box.lt
      go_wp2_with (at_builtin; go_loud (refine wpList_appT (tb := tB) rfl (.tmp 90) (.tmp 92) rfl rfl rfl (Blk.newL w2 [.int .i64 3, .int .i64 1, .int .i64 600, .int .i64 0] 106) ((HC2.out.same ((Kept.refl _ _).alloc _)).own.right.right.left) (by omega) ?_); intro g cc w9 ho hg hat; have HF := hid (HC2.out.appT _ ho hg hat (by simp only [StLogRecord.szs, StPageRecord.szs]; omega)); obtain ⟨_, c9, f9⟩ := HF.out; dsimp only [FR.v] at c9; clear c0 ho hg hat)
      have HF := hid HF.out.1
      generalize World.setCell _ ⟨N, 11, none⟩ _ = w8 at HF ⊢
      go_meet
      case rel => exact ⟨rfl, HF.out.fin (by omega)⟩
    have e11 : (z == 11) = false := by simp [z11]
    clear z11
    by_cases z12 : z = 12
    · subst z12
      as_aux_lemma =>
      have c0 : w2.cell? ⟨N, 12, none⟩ = some (.slice dA dN dC) := HC2.out.box.cell 12
      have hbn := HC2.out.box.lt
      go_wp2_with (at_builtin; go_loud (refine wpList_appD (tb := dB) rfl (.tmp 98) (.tmp 100) rfl rfl rfl (Blk.newL w2 [.int .i64 3, .int .i64 600] 108) ((HC2.out.same ((Kept.refl _ _).alloc _)).own.right.right.right.left) (by omega) ?_); intro g cc w9 ho hg hat; have HF := hid (HC2.out.appD _ ho hg hat (by simp only [StLogRecord.szs, StPageRecord.szs]; omega)); obtain ⟨_, c9, f9⟩ := HF.out; dsimp only [FR.v] at c9; clear c0 ho hg hat)
      have HF := hid HF.out.1
      generalize World.setCell _ ⟨N, 12, none⟩ _ = w8 at HF ⊢
      go_meet
      case rel => exact ⟨rfl, HF.out.fin (by omega)⟩
    have e12 : (z == 12) = false := by simp [z12]
    clear z12
    by_cases z13 : z = 13
    · subst z13
      as_aux_lemma =>
      have c0 : w2.cell? ⟨N, 11, none⟩ = some (.slice tA tN tC) := HC2.out.box.cell 11
      by_cases hp : 0 < tN
      case neg =>
        have hpi : ¬ (0 : Int) < (tN : Int) := by omega
        go_wp2_with fail
        go_meet
        case rel => exact ⟨rfl, HC2.out.fin (by omega)⟩
      have hpi : (0 : Int) < (tN : Int) := by omega
      rcases FR.own_form HC2.out.own.right.right.left with ⟨h1, _, _⟩ | ⟨g, h1, h2, _, h4⟩
      · have h1 : tN = 0 := h1
        omega
      dsimp only at h1 h2
      subst h1
      clear h2
      clear h4
      go_wp2_with fail
      refine wp_region_V (fun wx : World => wx.cell? ⟨N, 11, none⟩ = some (.slice (some ⟨g, 0, none⟩) tN tC)) 7 8 rfl (by kernel_rfl) ?_
      generalize hwd : World.drew w2 = w7
      have hk7 : Same w2 w7 := by rw [← hwd]; exact (Kept.refl _ _).drew
      clear hwd
      have HC7 := hid (HC2.out.same hk7)
      have hS : (fun wx : World => wx.cell? ⟨N, 11, none⟩ = some (.slice (some ⟨g, 0, none⟩) tN tC)) w7 := HC7.out.box.cell 11
      clear HC2 hk7
      refine tk 0 109 hS ?_
      refine tk 1 110 hS ?_
      refine tk 2 111 hS ?_
      refine wpAnyV_one (i := 3) (by kernel_rfl) rfl (fun K hK => ?_)
      go_simp
      refine (next_k 2 HC7.out.src (by omega) (by constructor <;> decide)).mono ?_
      rintro e w3 ⟨q, rfl, hd, hs', hk'⟩
      obtain ⟨hq1, hq2⟩ := hd.2 (by decide)
      have HC3 := hid (HC7.out.draw hs' hk')
      have hS : (fun wx : World => wx.cell? ⟨N, 11, none⟩ = some (.slice (some ⟨g, 0, none⟩) tN tC)) w3 := HC3.out.box.cell 11
      clear HC7 hd hs' hk'
      go_wp2_with fail
      refine hK.out _ _ (fun _ => hS) ?_
      clear hK K
      try simp only [Act.put, sA, s0, sS]
      have h4 : OwnF 4 106 w3 g tN tC tB := FR.own_one HC3.out.own.right.right.left
      have c1 := h4.cell 1 (by omega)
      have f1 := h4.frozen 1
      obtain ⟨m, hm⟩ : ∃ m, IntKind.i64.wrap (4 * q) = m := ⟨_, rfl⟩
      have HF := hid (HC3.out.setT rfl 1 m)
      clear h4 HC3
      refine wpAnyV_one (i := 4) (by kernel_rfl) rfl (fun K hK => ?_)
      go_simp
      refine hK.out _ _ (fun _ => hS) ?_
      clear hK K
      try simp only [Act.put, sA, s0, sS]
      refine wpAnyV_one (i := 5) (by kernel_rfl) rfl (fun K hK => ?_)
      go_simp
      refine hK.out _ _ (fun _ => hS) ?_
      clear hK K
      try simp only [Act.put, sA, s0, sS]
      refine wpAnyV_one (i := 6) (by kernel_rfl) rfl (fun K hK => ?_)
      go_simp
      refine hK.out _ _ (fun _ => hS) ?_
      clear hK K
      try simp only [Act.put, sA, s0, sS]
      refine wpAnyV_one (i := 7) (by kernel_rfl) rfl (fun K hK => ?_)
      go_simp
      refine hK.out _ _ (fun h => absurd rfl h) ?_
      clear hK K
      refine wpAnyV_done (by kernel_rfl) ?_
      try simp only [Act.put, sA, s0, sS]
      clear hS c1 f1
      generalize World.setCell _ ⟨g, 1, none⟩ _ = w9 at HF ⊢
      go_wp2_with fail
      go_meet
      case rel => exact ⟨rfl, HF.out.fin (by omega)⟩
    have e13 : (z == 13) = false := by simp [z13]
    clear z13
    by_cases z14 : z = 14
    · subst z14
      as_aux_lemma =>
      have c0 : w2.cell? ⟨N, 11, none⟩ = some (.slice tA tN tC) := HC2.out.box.cell 11
      by_cases hp : 0 < tN
      case neg =>
        have hpi : ¬ (0 : Int) < (tN : Int) := by omega
        go_wp2_with fail
        go_meet
        case rel => exact ⟨rfl, HC2.out.fin (by omega)⟩
      have hpi : (0 : Int) < (tN : Int) := by omega
      rcases FR.own_form HC2.out.own.right.right.left with ⟨h1, _, _⟩ | ⟨g, h1, h2, _, h4⟩
      · have h1 : tN = 0 := h1
        omega
      dsimp only at h1 h2
      subst h1
      clear h2
      clear h4
      obtain ⟨x2, hx2⟩ : ∃ z, tB.getD 2 0 = z := ⟨_, rfl⟩
      have HX := (show Hid (∀ wx, OwnF 4 106 wx g tN tC tB → wx.cell? ⟨g, 2, none⟩ = some (.int .i64 x2)) from fun wx h => by rw [← hx2]; exact h.cell 2 (by omega))
      clear hx2
      go_wp2_with fail
      let Y1 : World → Prop := fun wx : World => wx.cell? ⟨N, 11, none⟩ = some (.slice (some ⟨g, 0, none⟩) tN tC) ∧ wx.cell? ⟨g, 2, none⟩ = some (.int .i64 x2)
      refine wp_region_V Y1 12 13 rfl (by kernel_rfl) ?_
      generalize hwd : World.drew w2 = w7
      have hk7 : Same w2 w7 := by rw [← hwd]; exact (Kept.refl _ _).drew
      clear hwd
      have HC7 := hid (HC2.out.same hk7)
      have hS : Y1 w7 := ⟨HC7.out.box.cell 11, HX.out _ (FR.own_one HC7.out.own.right.right.left)⟩
      clear HC2 hk7
      refine tk 0 122 hS ?_
      refine tk 1 123 hS ?_
      refine tk 2 124 hS ?_
      refine tk 3 125 hS ?_
      refine tk 4 126 hS ?_
      refine tk 5 127 hS ?_
      refine tk 6 128 hS ?_
      refine tk 7 129 hS ?_
      refine wpAnyV_one (i := 8) (by kernel_rfl) rfl (fun K hK => ?_)
      go_simp
      refine (next_k 2 HC7.out.src (by omega) (by constructor <;> decide)).mono ?_
      rintro e w3 ⟨q, rfl, hd, hs', hk'⟩
      obtain ⟨hq1, hq2⟩ := hd.2 (by decide)
      have HC3 := hid (HC7.out.draw hs' hk')
      have hS : Y1 w3 := ⟨HC3.out.box.cell 11, HX.out _ (FR.own_one HC3.out.own.right.right.left)⟩
      clear HC7 hd hs' hk'
      go_wp2_with fail
      refine hK.out _ _ (fun _ => hS) ?_
      clear hK K
      try simp only [Act.put, sA, s0, sS]
      have h4 : OwnF 4 106 w3 g tN tC tB := FR.own_one HC3.out.own.right.right.left
      have c1 := h4.cell 3 (by omega)
      have f1 := h4.frozen 3
      obtain ⟨m, hm⟩ : ∃ m, IntKind.i64.wrap (x2 + q) = m := ⟨_, rfl⟩
      have HF := hid (HC3.out.setT rfl 3 m)
      clear h4 HC3 HX
      refine wpAnyV_one (i := 9) (by kernel_rfl) rfl (fun K hK => ?_)
      go_simp
      refine hK.out _ _ (fun _ => hS) ?_
      clear hK K
      try simp only [Act.put, sA, s0, sS]
      refine wpAnyV_one (i := 10) (by kernel_rfl) rfl (fun K hK => ?_)
      go_simp
      refine hK.out _ _ (fun _ => hS) ?_
      clear hK K
      try simp only [Act.put, sA, s0, sS]
      refine wpAnyV_one (i := 11) (by kernel_rfl) rfl (fun K hK => ?_)
      go_simp
      refine hK.out _ _ (fun _ => hS) ?_
      clear hK K
      try simp only [Act.put, sA, s0, sS]
      refine wpAnyV_one (i := 12) (by kernel_rfl) rfl (fun K hK => ?_)
      go_simp
      refine hK.out _ _ (fun h => absurd rfl h) ?_
      clear hK K
      refine wpAnyV_done (by kernel_rfl) ?_
      try simp only [Act.put, sA, s0, sS]
      clear hS c1 f1
      generalize World.setCell _ ⟨g, 3, none⟩ _ = w9 at HF ⊢
      go_wp2_with fail
      go_meet
      case rel => exact ⟨rfl, HF.out.fin (by omega)⟩
    have e14 : (z == 14) = false := by simp [z14]
    clear z14
    by_cases z15 : z = 15
    · subst z15
      as_aux_lemma =>
      go_wp2_with fail
      go_loopw [5] (fun i wr => ∃ j : Nat, j ≤ 9 ∧ i = .int .i64 (j : Int) ∧ Hid (∃ (ta : Option Addr) (tc : Nat) (tb : List Int), Bd4C w0 w B v cs (k + 1) size N (N + 1) ⟨kd, tx, pv, pg, sl, ⟨bU, ⟨bE, bA, bC, bB⟩⟩, ⟨aU, ⟨aE, aA, aC, aB⟩⟩, un, nt, ⟨106, tA, tN, tC, tB⟩, ⟨108, dA, dN, dC, dB⟩, ⟨5, iA, iC, iB⟩⟩ ⟨kd, tx, pv, pg, sl, ⟨bU, ⟨bE, bA, bC, bB⟩⟩, ⟨aU, ⟨aE, aA, aC, aB⟩⟩, un, nt, ⟨106, ta, tN + j, tc, tb⟩, ⟨108, dA, dN, dC, dB⟩, ⟨5, iA, iC, iB⟩⟩ wr)) (fun i _ => 9 - (intOf i).toNat)
      case atStart => exact ⟨0, by omega, rfl, ⟨tA, tC, tB, HC2.out⟩⟩
      case round =>
      obtain ⟨j, hj, rfl, HL⟩ := hrel
      obtain ⟨ta, tc, tb, hCj⟩ := HL.out
      have HCj := hid hCj
      clear HL hCj HC2
      obtain ⟨L, hL⟩ : ∃ L, tN + j = L := ⟨_, rfl⟩
      have HLL := hid hL
      rw [hL] at HCj
      have hL1 : L ≤ 6000 := by omega
      have hL2 : j ≤ L := by omega
      have hzz2 : (bB.length : Int) + (aB.length : Int) + (L : Int) + (dN : Int) + (iB.length : Int) ≤ 5009 := by omega
      clear hL
      have c0 : wr.cell? ⟨N, 11, none⟩ = some (.slice ta L tc) := HCj.out.box.cell 11
      by_cases hlt : j < 9
      case pos =>
        have hji : (j : Int) < 9 := by omega
        have qj : IntKind.i64.wrap (100 + (j : Int)) = 100 + (j : Int) := by rw [IntKind.wrap_i64]; omega
        have hbn := HCj.out.box.lt
        go_wp2_with (at_builtin; go_loud (refine wpList_appT (tb := tb) rfl (.tmp 141) (.tmp 145) rfl rfl rfl (Blk.newL wr [.int .i64 (100 + (j : Int)), .int .i64 1, .int .i64 600, .int .i64 0] 106) ((HCj.out.same ((Kept.refl _ _).alloc _)).own.right.right.left) (by omega) ?_); intro g cc w9 ho hg hat; have HF := hid (HCj.out.appT _ ho hg hat (by simp only [StLogRecord.szs, StPageRecord.szs]; omega)); obtain ⟨_, c9, f9⟩ := HF.out; dsimp only [FR.v] at c9; clear c0 ho hg hat)
        have HF := hid HF.out.1
        generalize World.setCell _ ⟨N, 11, none⟩ _ = w8 at HF ⊢
        go_roundw
        case rel => exact ⟨j + 1, by omega, by go_num, ⟨some ⟨g, 0, none⟩, cc, _, by have h := HF.out; rw [← HLL.out] at h; exact h⟩⟩
        case measure => simp [intOf]; omega
      have hji : ¬ (j : Int) < 9 := by omega
      have hL9 : 9 ≤ L := by omega
      rcases FR.own_form HCj.out.own.right.right.left with ⟨h1, _, _⟩ | ⟨g, h1, h2, _, h4⟩
      · have h1 : L = 0 := h1
        omega
      dsimp only at h1 h2
      subst h1
      clear h4
      obtain ⟨M8, hM8⟩ : ∃ m : Nat, m + 8 = L := ⟨L - 8, by omega⟩
      have q5 : IntKind.i64.wrap ((L : Int) - 8) = (M8 : Int) := by rw [IntKind.wrap_i64]; omega
      go_wp2_with fail
      refine wp_region_V (fun wx : World => wx.cell? ⟨N, 11, none⟩ = some (.slice (some ⟨g, 0, none⟩) L tc)) 11 12 rfl (by kernel_rfl) ?_
      generalize hwd : World.drew wr = w7
      have hk7 : Same wr w7 := by rw [← hwd]; exact (Kept.refl _ _).drew
      clear hwd
      have HC7 := hid (HCj.out.same hk7)
      have hS : (fun wx : World => wx.cell? ⟨N, 11, none⟩ = some (.slice (some ⟨g, 0, none⟩) L tc)) w7 := HC7.out.box.cell 11
      clear HCj hk7
      refine tk 0 148 hS ?_
      refine tk 1 149 hS ?_
      refine tk 2 150 hS ?_
      refine tk 3 151 hS ?_
      refine tk 4 152 hS ?_
      refine tk 5 153 hS ?_
      refine tk 6 154 hS ?_
      refine wpAnyV_one (i := 7) (by kernel_rfl) rfl (fun K hK => ?_)
      go_simp
      refine (next_k 2 HC7.out.src (by omega) (by constructor <;> decide)).mono ?_
      rintro e w3 ⟨q, rfl, hd, hs', hk'⟩
      obtain ⟨hq1, hq2⟩ := hd.2 (by decide)
      have HC3 := hid (HC7.out.draw hs' hk')
      have hS : (fun wx : World => wx.cell? ⟨N, 11, none⟩ = some (.slice (some ⟨g, 0, none⟩) L tc)) w3 := HC3.out.box.cell 11
      clear HC7 hd hs' hk'
      go_wp2_with fail
      refine hK.out _ _ (fun _ => hS) ?_
      clear hK K
      try simp only [Act.put, sA, s0, sS]
      obtain ⟨lo, hlo⟩ : ∃ m : Nat, (m : Int) = (M8 : Int) - q := ⟨((M8 : Int) - q).toNat, by omega⟩
      have q8 : IntKind.i64.wrap ((M8 : Int) - q) = (lo : Int) := by rw [IntKind.wrap_i64]; omega
      have hl1 : (lo : Int) ≤ (L : Int) := by omega
      have hl2 : lo ≤ L := by omega
      have hl3 : ¬ tc = lo := by omega
      have hl4 : (L : Int) ≤ (tc : Int) := by omega
      have c3 : w3.cell? ⟨N, 11, none⟩ = some (.slice (some ⟨g, 0, none⟩) L tc) := HC3.out.box.cell 11
      have f3 := HC3.out.box.frozen 11
      clear hlo
      refine wpAnyV_one (i := 8) (by kernel_rfl) rfl (fun K hK => ?_)
      go_simp
      refine hK.out _ _ (fun _ => hS) ?_
      clear hK K
      try simp only [Act.put, sA, s0, sS]
      refine wpAnyV_one (i := 9) (by kernel_rfl) rfl (fun K hK => ?_)
      go_simp
      refine hK.out _ _ (fun _ => hS) ?_
      clear hK K
      try simp only [Act.put, sA, s0, sS]
      refine wpAnyV_one (i := 10) (by kernel_rfl) rfl (fun K hK => ?_)
      go_simp
      refine hK.out _ _ (fun _ => hS) ?_
      clear hK K
      try simp only [Act.put, sA, s0, sS]
      refine wpAnyV_one (i := 11) (by kernel_rfl) rfl (fun K hK => ?_)
      go_simp
      refine hK.out _ _ (fun h => absurd rfl h) ?_
      clear hK K
      refine wpAnyV_done (by kernel_rfl) ?_
      try simp only [Act.put, sA, s0, sS]
      clear hS c3 f3
      have h4 : OwnF 4 106 w3 g L tc tb := FR.own_one HC3.out.own.right.right.left
      have hlen : tb.length = L * 4 := FR.own_len HC3.out.own.right.right.left
      have hgN : ¬ g = N := (HC3.out.ft g ((FootL_append _ _ _).2 (.inr ((FootL_append _ _ _).2 (.inr ((FootL_append _ _ _).2 (.inl ((foot_FR _ _ g).2 rfl)))))))).2.2.1
      have hkN : Kept (fun b => b = N) w3 (w3.setCell ⟨N, 11, none⟩ (.slice (some ⟨g, lo * 4, none⟩) (L - lo) (tc - lo))) := Kept.setCell (R := fun b => b = N) (Kept.refl _ _) (.inr (by rfl)) _
      have HF := (show Hid (Bd4I w0 w B v cs k size N (N + 1) ⟨kd, tx, pv, pg, sl, ⟨bU, ⟨bE, bA, bC, bB⟩⟩, ⟨aU, ⟨aE, aA, aC, aB⟩⟩, un, nt, ⟨106, tA, tN, tC, tB⟩, ⟨108, dA, dN, dC, dB⟩, ⟨5, iA, iC, iB⟩⟩ (w3.setCell ⟨N, 11, none⟩ (.slice (some ⟨g, lo * 4, none⟩) (L - lo) (tc - lo)))) from HC3.out.looseT ⟨106, some ⟨g, lo * 4, none⟩, L - lo, tc - lo, tb.drop (lo * 4)⟩ (HC3.out.box.stored 11 _) (hkN.mono (fun _ _ e => .inr e)) ⟨by show L - lo ≤ maxLen; unfold maxLen; omega, by show (tb.drop (lo * 4)).length = (L - lo) * 4; rw [List.length_drop, hlen]; omega, .inr ⟨g, lo * 4, rfl, by show L - lo ≤ tc - lo; omega, fun i hi => by
          have hi : i < (L - lo) * 4 := hi
          have h := hkN.cellOf (h4.cell (lo * 4 + i) (by omega)) (fun e => hgN e)
          have e1 : (tb.drop (lo * 4)).getD i 0 = tb.getD (lo * 4 + i) 0 := by simp [List.getD_eq_getElem?_getD]
          show _ = some (Value.int .i64 ((tb.drop (lo * 4)).getD i 0))
          rw [e1]
          exact h⟩⟩ (Nat.sub_le _ _) (fun b hb => hb) (HC3.out.src.on hkN (fun e => HC3.out.yx.2.2.2.1 e.symm) (fun i hi e => by have e' : i = N := e; have := HC3.out.yx; have := HN.out; omega)) (by omega))
      clear HC3 h4 hlen hgN hkN q8 hl1 hl2 hl3 hl4 q5
      generalize World.setCell _ ⟨N, 11, none⟩ _ = w9 at HF ⊢
      go_wp2_with fail
      go_meet
      case rel => exact ⟨rfl, HF⟩
    have e15 : (z == 15) = false := by simp [z15]
    clear z15
    by_cases z16 : z = 16
    · subst z16
      as_aux_lemma =>
      have c0 : w2.cell? ⟨N, 13, none⟩ = some (.slice iA iB.length iC) := HC2.out.box.cell 13
      by_cases hi : iB.length = 4096
      case neg =>
        have hii : ((iB.length : Int) == 4096) = false := by simp; omega
        go_wp2_with fail
        go_meet
        case rel => exact ⟨rfl, HC2.out.fin (by omega)⟩
      have hO := OwnL.of_one (k := .u8) HC2.out.own.right.right.right.right
      dsimp only [BS.v] at hO
      obtain ⟨g, rfl⟩ := own_some hO (by rw [hi]; decide)
      have hgf := HC2.out.ft g ((FootL_append _ _ _).2 (.inr ((FootL_append _ _ _).2 (.inr ((FootL_append _ _ _).2 (.inr ((FootL_append _ _ _).2 (.inr ((foot_BS _ g).2 rfl)))))))))
      rw [hi] at hO c0
      have kB := bend_g g iC iB HC2.out.src (by omega) hgf.2.2.2.1 hgf.2.2.2.2 hi HC2.out.isB.2.2 hO
      have hi16 : iB.length ≤ 4096 := by omega
      have HI16 := hid hi
      clear hi hO
      go_wp2_with fail
      refine kB.mono ?_
      rintro e w3 ⟨off, n, c, ds, k3, rfl, hl, hn, hb, hR, hk3, hs3, hkk⟩
      have hgN : ¬ g = N := hgf.2.2.1
      have hb3 := HC2.out.box.kept hkk (fun e => e.elim (fun e => HC2.out.yx.2.2.2.1 e) (fun e => hgN e.symm))
      have c3 : w3.cell? ⟨N, 13, none⟩ = some (.slice (some ⟨g, 0, none⟩) iB.length iC) := hb3.cell 13
      have f3 := hb3.frozen 13
      have hkN : Kept (fun b => b = N) w3 (w3.setCell ⟨N, 13, none⟩ (.slice (some ⟨g, off, none⟩) n c)) := Kept.setCell (R := fun b => b = N) (Kept.refl _ _) (.inr (by rfl)) _
      have HF := (show Hid (Bd4I w0 w B v cs k size N (N + 1) ⟨kd, tx, pv, pg, sl, ⟨bU, ⟨bE, bA, bC, bB⟩⟩, ⟨aU, ⟨aE, aA, aC, aB⟩⟩, un, nt, ⟨106, tA, tN, tC, tB⟩, ⟨108, dA, dN, dC, dB⟩, ⟨5, some ⟨g, 0, none⟩, iC, iB⟩⟩ (w3.setCell ⟨N, 13, none⟩ (.slice (some ⟨g, off, none⟩) n c))) from HC2.out.looseI ⟨5, some ⟨g, off, none⟩, c, ds⟩ (by have h := hb3.stored 13 (.slice (some ⟨g, off, none⟩) n c); rw [← hl] at h ⊢; exact h) ((hkk.mono (fun b _ e => e.elim .inl (fun e => .inr (.inr (by have e' : b = g := e; rw [e']; rfl))))).trans (hkN.mono (fun _ _ e => .inr (.inl e)))) (by rw [show BS.v ⟨5, some ⟨g, off, none⟩, c, ds⟩ = .slice (some ⟨g, off, none⟩) n c from by simp only [BS.v, hl]]; exact hR.rd.kept hkN (fun b hb e => by have e1 : g = b := (by simpa [Value.ownBlock] using hb); have e2 : b = N := e; exact hgN (by omega))) hb (by show ds.length ≤ 4096; omega) (fun b hb => hb) (hs3.on hkN (fun e => HC2.out.yx.2.2.2.1 e.symm) (fun i hi e => by have e' : i = N := e; have := HC2.out.yx; have := HN.out; omega)) (by omega) (.inr (by show ds.length ≤ iB.length; have := HI16.out; omega)))
      clear HC2 kB hb3 hkN hR hb hs3 hkk hl hn HI16 hgf
      go_wp2_with fail
      generalize World.setCell _ ⟨N, 13, none⟩ _ = w9 at HF ⊢
      go_meet
      case rel => exact ⟨rfl, HF⟩
    have e16 : (z == 16) = false := by simp [z16]
    clear z16
    by_cases z17 : z = 17
    · subst z17
      as_aux_lemma =>
      have c0 : w2.cell? ⟨N, 12, none⟩ = some (.slice dA dN dC) := HC2.out.box.cell 12
      by_cases hp : 0 < dN
      case neg =>
        have hpi : ¬ (0 : Int) < (dN : Int) := by omega
        go_wp2_with fail
        go_meet
        case rel => exact ⟨rfl, HC2.out.fin (by omega)⟩
      have hpi : (0 : Int) < (dN : Int) := by omega
      rcases FR.own_form HC2.out.own.right.right.right.left with ⟨h1, _, _⟩ | ⟨g, h1, h2, _, h4⟩
      · have h1 : dN = 0 := h1
        omega
      dsimp only at h1 h2
      subst h1
      clear h2
      have h4 : OwnF 2 108 w2 g dN dC dB := h4
      have c1 := h4.cell 1 (by omega)
      have f1 := h4.frozen 1
      have HF := hid (HC2.out.setD rfl 1 0)
      clear h4 HC2
      go_wp2_with fail
      generalize World.setCell _ ⟨g, 1, none⟩ _ = w9 at HF ⊢
      go_meet
      case rel => exact ⟨rfl, HF.out.fin (by omega)⟩
    have e17 : (z == 17) = false := by simp [z17]
    clear z17
    by_cases z18 : z = 18
    · subst z18
      as_aux_lemma =>
      go_wp2_with fail
      refine (fill_k 2 HC2.out.src (by omega) (by omega)).mono ?_
      rintro e w4 ⟨g, ds, rfl, hl, hb, ho, hgB, hs', hgw, hk'⟩
      have HC4 := hid (HC2.out.draw hs' hk')
      have HO := (show Hid (OwnL w4 (BS.rows ⟨5, some ⟨g, 0, none⟩, 2, ds⟩)) from OwnL.one (by rw [show BS.v ⟨5, some ⟨g, 0, none⟩, 2, ds⟩ = .slice (some ⟨g, 0, none⟩) 2 2 from by simp only [BS.v, hl]]; exact ho.mono (fun b hb => Nat.zero_le _)))
      have HG := (show Hid ((w.heap.size ≤ g ∧ ¬ g = N + 1 ∧ ¬ g = N ∧ ¬ g = B) ∧ ¬ FootL (StLogRecord.rows ⟨kd, tx, pv, pg, sl, ⟨bU, ⟨bE, bA, bC, bB⟩⟩, ⟨aU, ⟨aE, aA, aC, aB⟩⟩, un, nt, ⟨106, tA, tN, tC, tB⟩, ⟨108, dA, dN, dC, dB⟩, ⟨5, iA, iC, iB⟩⟩) g) from ⟨⟨by have := HC2.out.kept.size; omega, by have := HC2.out.res.lt; omega, by have := HC2.out.box.lt; omega, hgB⟩, fun e => by have := HC2.out.own.lt g e; omega⟩)
      have og : ∀ b, (BS.v ⟨5, some ⟨g, 0, none⟩, 2, ds⟩).ownBlock = some b → b = g := fun b hb => by have e1 : g = b := (by simpa [Value.ownBlock, BS.v] using hb); exact e1.symm
      clear hs' hk' HC2 ho hgw
      obtain ⟨s1, s2⟩ := rp_image HC4.out.own HO.out (fun b hb => by rw [og b hb]; exact HG.out.2)
      have hbx : Blk (w4.setCell ⟨N, 13, none⟩ (.slice (some ⟨g, 0, none⟩) 2 2)) N 48 (rcCells ⟨kd, tx, pv, pg, sl, ⟨bU, ⟨bE, bA, bC, bB⟩⟩, ⟨aU, ⟨aE, aA, aC, aB⟩⟩, un, nt, ⟨106, tA, tN, tC, tB⟩, ⟨108, dA, dN, dC, dB⟩, ⟨5, some ⟨g, 0, none⟩, 2, ds⟩⟩) := by
        have h := HC4.out.box.stored 13 (.slice (some ⟨g, 0, none⟩) 2 2)
        have e1 : rcCells ⟨kd, tx, pv, pg, sl, ⟨bU, ⟨bE, bA, bC, bB⟩⟩, ⟨aU, ⟨aE, aA, aC, aB⟩⟩, un, nt, ⟨106, tA, tN, tC, tB⟩, ⟨108, dA, dN, dC, dB⟩, ⟨5, some ⟨g, 0, none⟩, 2, ds⟩⟩ = (rcCells ⟨kd, tx, pv, pg, sl, ⟨bU, ⟨bE, bA, bC, bB⟩⟩, ⟨aU, ⟨aE, aA, aC, aB⟩⟩, un, nt, ⟨106, tA, tN, tC, tB⟩, ⟨108, dA, dN, dC, dB⟩, ⟨5, iA, iC, iB⟩⟩).set 13 (.slice (some ⟨g, 0, none⟩) 2 2) := by
          simp only [rcCells, BS.v, FR.v, hl]
          rfl
        rw [e1]
        exact h
      have hkx : Kept (fun b => b = N) w4 (w4.setCell ⟨N, 13, none⟩ (.slice (some ⟨g, 0, none⟩) 2 2)) := Kept.setCell (R := fun b => b = N) (Kept.refl _ _) (.inr (by rfl)) _
      have HF := hid (HC4.out.next2 ⟨kd, tx, pv, pg, sl, ⟨bU, ⟨bE, bA, bC, bB⟩⟩, ⟨aU, ⟨aE, aA, aC, aB⟩⟩, un, nt, ⟨106, tA, tN, tC, tB⟩, ⟨108, dA, dN, dC, dB⟩, ⟨5, some ⟨g, 0, none⟩, 2, ds⟩⟩ hbx hkx s1 g HG.out.1 (fun b hb => (s2 b hb).imp_right (og b)) ⟨HC4.out.isB.1, HC4.out.isB.2.1, hb⟩ (by simp only [StLogRecord.szs, StPageRecord.szs]; omega))
      clear hbx hkx
      have c6 : w4.cell? ⟨N, 13, none⟩ = some (.slice iA iB.length iC) := HC4.out.box.cell 13
      have ff := HC4.out.box.frozen 13
      clear HC4 HO HG s1 s2 hl hb og
      go_wp2_with fail
      generalize World.setCell _ ⟨N, 13, none⟩ _ = w9 at HF ⊢
      go_meet
      case rel => exact ⟨rfl, HF.out.fin (by omega)⟩
    have e18 : (z == 18) = false := by simp [z18]
    clear z18
    by_cases z19 : z = 19
    · subst z19
      as_aux_lemma =>
      obtain ⟨m, hm⟩ : ∃ m, IntKind.i64.wrap (sl + 1) = m := ⟨_, rfl⟩
      have c0 : w2.cell? ⟨N, 4, none⟩ = some (.int .i64 sl) := HC2.out.box.cell 4
      have f0 := HC2.out.box.frozen 4
      have HF := hid (HC2.out.put ⟨kd, tx, pv, pg, m, ⟨bU, ⟨bE, bA, bC, bB⟩⟩, ⟨aU, ⟨aE, aA, aC, aB⟩⟩, un, nt, ⟨106, tA, tN, tC, tB⟩, ⟨108, dA, dN, dC, dB⟩, ⟨5, iA, iC, iB⟩⟩ 4 (.int .i64 m) rfl rfl HC2.out.isB rfl)
      clear HC2
      go_wp2_with fail
      generalize World.setCell _ ⟨N, 4, none⟩ _ = w9 at HF ⊢
      go_meet
      case rel => exact ⟨rfl, HF.out.fin (by omega)⟩
    have e19 : (z == 19) = false := by simp [z19]
    clear z19
    go_wp2_with fail
    go_meet
    case rel => exact ⟨rfl, HC2.out.fin (by omega)⟩
  case rest =>
  obtain ⟨rfl, HI⟩ := hcut
  clear HC2
  obtain ⟨y, k3, hb, hx, hrd, hft, hk3, hs, hkk, hB, hz⟩ := HI.out
  have HB := hid hb
  have HX := hid hx
  have HRD := hid hrd
  have HFT := hid hft
  have HSR := hid hs
  have HKK := hid hkk
  have HBB := hid hB
  clear HI hb hx hrd hft hs hkk hB
  obtain ⟨cl, hcl⟩ : ∃ z, rcCells y = z := ⟨_, rfl⟩
  have HCL := hid hcl
  have HLc : Hid (cl.length = 14) := by unfold Hid; rw [← hcl]; rfl
  have HOc : Hid (cl.toArray.all (·.oneCell') = true) := by unfold Hid; rw [← hcl]; exact rcCells_one _
  rw [hcl] at HB
  clear hcl
  have HTH := hid (HX.out.there 0 cl.toArray.size (by rw [List.size_toArray, HLc.out]; exact Nat.le_refl 14))
  have hxl := HX.out.lt
  go_wp2_with (first | (refine wpList_load_mid rfl 48 _ rfl N 0 rfl cl _ HB.out.rangeAll Try.underlying48 rfl (by rw [HLc.out]; kernel_rfl) ?_) | (refine wpList_store_mid rfl 48 _ _ rfl (N + 1) 0 cl.toArray rfl rfl HTH.out (by rw [List.size_toArray, HLc.out]; kernel_rfl) HOc.out ?_; rw [List.toList_toArray]))
  have hkr : Kept (fun b => b = N + 1) wc (wc.setCells (N + 1) 0 cl) := Kept.setCells (R := fun b => b = N + 1) (.inr rfl) _ _ (Kept.refl _ _)
  have hbX : Blk (wc.setCells (N + 1) 0 cl) (N + 1) 48 cl := by
    have h1 := HX.out.setCells cl 0 (by rw [HLc.out]; exact Nat.le_refl 14)
    rwa [lay_all _ _ (by rw [HLc.out]; rfl)] at h1
  generalize wc.setCells (N + 1) 0 cl = wz at hkr hbX ⊢
  refine bodyPost_ret (v := .agg cl.toArray) (endV Try.results39 rfl hbX.rangeAll Try.underlying48 rfl (by rw [HLc.out]; kernel_rfl)) rfl ?_
  have hNw := HN.out
  refine ⟨y, k3, by rw [HCL.out], ?_, fun b hb => ⟨(HFT.out b hb).1, (HFT.out b hb).2.2.2.2⟩, hk3, HSR.out.on hkr (fun e => by omega) (fun i hi e => by have e' : i = N + 1 := e; omega), HKK.out.next hkr (fun i hi e => by have e' : i = N + 1 := e; omega), HBB.out, hz⟩
  have hin : ∀ b, FootL y.rows b → ¬ b = N + 1 := fun b hb => (HFT.out b hb).2.1
  obtain ⟨r1, r2, r3, r4, r5⟩ := HRD.out
  refine ⟨r1.kept hkr (fun b hb => hin b ?_), r2.kept hkr (fun b hb => hin b ?_), r3.kept hkr (fun b hb => hin b ?_), r4.kept hkr (fun b hb => hin b ?_), r5.kept hkr (fun b hb => hin b ?_)⟩
  · exact (FootL_append _ _ _).2 (.inl hb)
  · exact (FootL_append _ _ _).2 (.inr ((FootL_append _ _ _).2 (.inl hb)))
  · exact (FootL_append _ _ _).2 (.inr ((FootL_append _ _ _).2 (.inr ((FootL_append _ _ _).2 (.inl ((foot_FR _ _ b).2 hb))))))
  · exact (FootL_append _ _ _).2 (.inr ((FootL_append _ _ _).2 (.inr ((FootL_append _ _ _).2 (.inr ((FootL_append _ _ _).2 (.inl ((foot_FR _ _ b).2 hb))))))))
  · exact (FootL_append _ _ _).2 (.inr ((FootL_append _ _ _).2 (.inr ((FootL_append _ _ _).2 (.inr ((FootL_append _ _ _).2 (.inr ((foot_BS _ b).2 hb))))))))
theorem bend4_k {w0 w : World} {B : Nat} {v : Value} {cs : List Int} {k : Nat} {size : Int} (h : SrcR w0 w B v cs k size) (hk : k ≤ 1073000000) (hw : w0.heap.size ≤ w.heap.size) (r : StLogRecord) (hr : RcB r) (ho : OwnL w r.rows) (hf : ∀ b, FootL r.rows b → ¬ b = B ∧ w0.heap.size ≤ b) :
    Calls Try.prog 39 #[.pointer (some ⟨B, 0, none⟩), .agg (rcCells r).toArray] w fun e w' => Bd4R w0 w w' e B v cs k size r := by
  have nF : ∀ {m : Nat} {e e' : TypeId} {a : Option Addr} {n c : Nat} {bs : List Int}, (e = e' ∨ a = none) → OwnL w (FR.rows m ⟨e, a, n, c, bs⟩) → OwnL w (FR.rows m ⟨e', a, n, c, bs⟩) := fun {m e e' a n c bs} h ho => by
    rcases h with h | h
    · rw [← h]
      exact ho
    · subst h
      refine ⟨fun r hr => ?_, List.pairwise_singleton _ _⟩
      rw [List.mem_singleton.1 hr]
      rcases FR.own_one ho with ⟨h1, h2 | ⟨_, _, _, h2, _⟩⟩
      · exact ⟨h1, .inl h2⟩
      · cases h2
  have nB : ∀ {e e' : TypeId} {a : Option Addr} {c : Nat} {bs : List Int}, (e = e' ∨ a = none) → OwnL w (BS.rows ⟨e, a, c, bs⟩) → OwnL w (BS.rows ⟨e', a, c, bs⟩) := fun {e e' a c bs} h ho => by
    rcases h with h | h
    · rw [← h]
      exact ho
    · subst h
      refine ⟨fun r hr => ?_, List.pairwise_singleton _ _⟩
      rw [List.mem_singleton.1 hr]
      rcases ho.own _ (List.mem_singleton.2 rfl) with ⟨h1, h2 | ⟨_, _, _, h2, _⟩⟩
      · exact ⟨h1, .inl h2⟩
      · cases h2
  obtain ⟨kd, tx, pv, pg, sl, be, af, un, nt, ⟨tE, tA, tN, tC, tB⟩, ⟨dE, dA, dN, dC, dB⟩, ⟨iE, iA, iC, iB⟩⟩ := r
  obtain ⟨⟨b1, b2, b3, t1, t2, t3⟩, hz⟩ := hr
  have eF : ∀ b, FootL (StLogRecord.rows ⟨kd, tx, pv, pg, sl, be, af, un, nt, ⟨106, tA, tN, tC, tB⟩, ⟨108, dA, dN, dC, dB⟩, ⟨5, iA, iC, iB⟩⟩) b ↔ FootL (StLogRecord.rows ⟨kd, tx, pv, pg, sl, be, af, un, nt, ⟨tE, tA, tN, tC, tB⟩, ⟨dE, dA, dN, dC, dB⟩, ⟨iE, iA, iC, iB⟩⟩) b := fun b => by
    simp only [StLogRecord.rows, FootL_append, foot_FR, foot_BS, FR.v, BS.v]
  have hO : OwnL w (StLogRecord.rows ⟨kd, tx, pv, pg, sl, be, af, un, nt, ⟨106, tA, tN, tC, tB⟩, ⟨108, dA, dN, dC, dB⟩, ⟨5, iA, iC, iB⟩⟩) := by
    refine ⟨fun r hr => ?_, ?_⟩
    · simp only [StLogRecord.rows, List.mem_append] at hr
      rcases hr with hr | hr | hr | hr | hr
      · exact ho.left.own r hr
      · exact ho.right.left.own r hr
      · exact (nF t1 ho.right.right.left).own r hr
      · exact (nF t2 ho.right.right.right.left).own r hr
      · exact (nB t3 ho.right.right.right.right).own r hr
    · have eV : (StLogRecord.rows ⟨kd, tx, pv, pg, sl, be, af, un, nt, ⟨106, tA, tN, tC, tB⟩, ⟨108, dA, dN, dC, dB⟩, ⟨5, iA, iC, iB⟩⟩).map Row.v = (StLogRecord.rows ⟨kd, tx, pv, pg, sl, be, af, un, nt, ⟨tE, tA, tN, tC, tB⟩, ⟨dE, dA, dN, dC, dB⟩, ⟨iE, iA, iC, iB⟩⟩).map Row.v := by
        simp [StLogRecord.rows, FR.rows, BS.rows, ints, FR.v, BS.v]
      refine (List.pairwise_map (f := Row.v) (R := fun a b => Apart a b)).1 ?_
      rw [eV]
      exact (List.pairwise_map (f := Row.v) (R := fun a b => Apart a b)).2 ho.apart
  refine (bend4_t h hk hw ⟨kd, tx, pv, pg, sl, be, af, un, nt, ⟨106, tA, tN, tC, tB⟩, ⟨108, dA, dN, dC, dB⟩, ⟨5, iA, iC, iB⟩⟩ ⟨⟨b1, b2, b3, .inl rfl, .inl rfl, .inl rfl⟩, hz⟩ rfl rfl rfl hO (fun b hb => hf b ((eF b).1 hb))).mono ?_
  rintro e w' ⟨y, k', h1, h2, h3, h4, h5, h6, h7⟩
  exact ⟨y, k', h1, h2, fun b hb => ⟨(h3 b hb).1.imp_left (eF b).1, (h3 b hb).2⟩, h4, h5, h6.mono (fun b _ e => e.imp_right (eF b).1), h7⟩
end Go.Proofs.Ytcldagphkpkdpaa
