import Derived.Test.YtapdfgkbhaoelaaGreatDoorG42
namespace Go.Proofs.YtapdfgkbhaoelaaGreatDoor
set_option maxRecDepth 100000
set_option maxHeartbeats 8000000
set_option linter.unusedVariables false
set_option linter.unusedSimpArgs false
open Go Go.RowKit
def rcZ : List Value := [Q1 0, Q1 0, Q1 0, Q1 0, Q1 0, .bool false, Q4, .bool false, Q4, Q1 0, Q1 0, Q4, Q4, Q4]
structure Bd4C (w0 w : World) (B : Nat) (v : Value) (cs : List Int) (k : Nat) (size : Int) (Y X : Nat) (r y : StLogRecord) (wr : World) : Prop where
 box : Blk wr Y 28 (O8 y)
 res : Blk wr X 28 rcZ
 own : OwnL wr y.rows
 ft : ∀ b, O6 y.rows b → (O6 r.rows b ∨ w.heap.size ≤ b) ∧ ¬ b = X ∧ ¬ b = Y ∧ ¬ b = B ∧ w0.heap.size ≤ b
 src : SrcR w0 wr B v cs k size
 kept : Kept (fun b => b = B ∨ O6 r.rows b) w wr
 isB : IsB y.before.data.bs ∧ IsB y.after.data.bs ∧ IsB y.image.bs
 szs : y.szs ≤ 7000
 yx : w.heap.size ≤ Y ∧ w.heap.size ≤ X ∧ ¬ X = Y ∧ ¬ Y = B ∧ ¬ X = B ∧ w0.heap.size ≤ w.heap.size
def jbi (w0 w : World) (B : Nat) (v : Value) (cs : List Int) (k : Nat) (size : Int) (Y X : Nat) (r : StLogRecord) (wr : World) : Prop :=
 ∃ (y : StLogRecord) (k' : Nat), Blk wr Y 28 (O8 y) ∧ Blk wr X 28 rcZ ∧ StLogRecord.rd wr y ∧ (∀ b, O6 y.rows b → (O6 r.rows b ∨ w.heap.size ≤ b) ∧ ¬ b = X ∧ ¬ b = Y ∧ ¬ b = B ∧ w0.heap.size ≤ b) ∧ k' ≤ k + 20 ∧ SrcR w0 wr B v cs k' size ∧ Kept (fun b => b = B ∨ O6 r.rows b) w wr ∧ (IsB y.before.data.bs ∧ IsB y.after.data.bs ∧ IsB y.image.bs) ∧ y.szs ≤ 7000
section
variable {w0 w wr wx : World} {B : Nat} {v : Value} {cs : List Int} {k k' : Nat} {size : Int} {Y X : Nat} {r y : StLogRecord}
theorem Bd4C.fin (h : Bd4C w0 w B v cs k' size Y X r y wr) (hk : k' ≤ k + 20) : jbi w0 w B v cs k size Y X r wr := ⟨y, k', h.box, h.res, StLogRecord.own_rd h.own, h.ft, hk, h.src, h.kept, h.isB, h.szs⟩
theorem Bd4C.same (h : Bd4C w0 w B v cs k size Y X r y wr) (hk : Same wr wx) : Bd4C w0 w B v cs k size Y X r y wx :=
 ⟨h.box.same hk, h.res.same hk, h.own.same hk, h.ft, h.src.same hk, h.kept.next hk (fun _ _ e => e.elim), h.isB, h.szs, h.yx⟩
theorem Bd4C.draw (h : Bd4C w0 w B v cs k size Y X r y wr) (hs : SrcR w0 wx B v cs k' size) (hk : Kept (fun b => b = B) wr wx) : Bd4C w0 w B v cs k' size Y X r y wx :=
 ⟨h.box.kept hk h.yx.2.2.2.1, h.res.kept hk h.yx.2.2.2.2.1, h.own.kept hk (fun b hb => (h.ft b hb).2.2.2.1), h.ft, hs, h.kept.next hk (fun _ _ e => .inl e), h.isB, h.szs, h.yx⟩
theorem Bd4C.next (h : Bd4C w0 w B v cs k size Y X r y wr) (y' : StLogRecord) (ks : Blk wx Y 28 (O8 y')) (hk : Kept (fun b => b = Y ∨ O6 y.rows b) wr wx) (ho : OwnL wx y'.rows) (hf : ∀ b, O6 y'.rows b → O6 y.rows b ∨ wr.heap.size ≤ b) (hb : IsB y'.before.data.bs ∧ IsB y'.after.data.bs ∧ IsB y'.image.bs) (hz : y'.szs ≤ 7000) : Bd4C w0 w B v cs k size Y X r y' wx := by
 obtain ⟨e1, e2, e3, e4, e5, e6⟩ := h.yx;have h1 := h.box.lt;have h2 := h.res.lt;have h3 := h.src.lt;have h4 := h.kept.size;refine ⟨ks, h.res.kept hk (fun e => e.elim (fun e => e3 e) (fun e => (h.ft X e).2.1 rfl)), ho, fun b hb => ?_, h.src.on hk (fun e => e.elim (fun e => e4 e.symm) (fun e => (h.ft B e).2.2.2.1 rfl)) (fun i hi e => e.elim (fun e => by have e' : i = Y := e; omega) (fun e => by have := (h.ft i e).2.2.2.2; omega)), h.kept.next hk (fun i hi e => e.elim (fun e => by have e' : i = Y := e; omega) (fun e => .inr ((h.ft i e).1.elim id (fun e => by omega)))), hb, hz, h.yx⟩
 rcases hf b hb with e | e
 ·exact h.ft b e
 ·exact ⟨.inr (by omega), by omega, by omega, by omega, by omega⟩
theorem Bd4C.next2 (h : Bd4C w0 w B v cs k size Y X r y wr) (y' : StLogRecord) (ks : Blk wx Y 28 (O8 y')) (hk : Kept (fun b => b = Y) wr wx) (ho : OwnL wr y'.rows) (G : Nat) (hG : w.heap.size ≤ G ∧ ¬ G = X ∧ ¬ G = Y ∧ ¬ G = B) (hf : ∀ b, O6 y'.rows b → O6 y.rows b ∨ b = G) (hb : IsB y'.before.data.bs ∧ IsB y'.after.data.bs ∧ IsB y'.image.bs) (hz : y'.szs ≤ 7000) : Bd4C w0 w B v cs k size Y X r y' wx := by
 obtain ⟨e1, e2, e3, e4, e5, e6⟩ := h.yx
 have ve : ∀ b, O6 y'.rows b → (O6 r.rows b ∨ w.heap.size ≤ b) ∧ ¬ b = X ∧ ¬ b = Y ∧ ¬ b = B ∧ w0.heap.size ≤ b := fun b hb => by
  rcases hf b hb with e | e
  ·exact h.ft b e
  ·subst e
   exact ⟨.inr hG.1, hG.2.1, hG.2.2.1, hG.2.2.2, by omega⟩
 exact ⟨ks, h.res.kept hk e3, ho.kept hk (fun b hb e => (ve b hb).2.2.1 e), ve, h.src.on hk (fun e => e4 e.symm) (fun i hi e => by have e' : i = Y := e; omega), h.kept.next hk (fun i hi e => by have e' : i = Y := e; omega), hb, hz, h.yx⟩
theorem OwnL.repl {w : World} {A X C X' : List Row} (h : OwnL w (A ++ (X ++ C))) (hx : OwnL w X') (hf : ∀ b, O6 X' b → ¬ O6 (A ++ (X ++ C)) b) : OwnL w (A ++ (X' ++ C)) ∧ ∀ b, O6 (A ++ (X' ++ C)) b → O6 (A ++ (X ++ C)) b ∨ O6 X' b := by
 have ap : ∀ {rs ss : List Row}, OwnL w (rs ++ ss) → ∀ b, O6 rs b → O6 ss b → False := fun {rs ss} h b h1 h2 => by
  obtain ⟨r, hr, e⟩ := h1;obtain ⟨s, hs, e'⟩ := h2;exact (List.pairwise_append.1 h.apart).2.2 r hr s hs b e e'
 refine ⟨h.left.append (hx.append h.right.right (fun b h1 h2 => hf b h1 ((OX _ _ _).2 (.inr ((OX _ _ _).2 (.inr h2)))))) (fun b h1 h2 => ?_), fun b hb => ?_⟩
 ·rcases (OX _ _ _).1 h2 with h2 | h2
  ·exact hf b h2 ((OX _ _ _).2 (.inl h1))
  ·exact ap h b h1 ((OX _ _ _).2 (.inr h2))
 ·rcases (OX _ _ _).1 hb with hb | hb
  ·exact .inl ((OX _ _ _).2 (.inl hb))
  rcases (OX _ _ _).1 hb with hb | hb
  ·exact .inr hb
  ·exact .inl ((OX _ _ _).2 (.inr ((OX _ _ _).2 (.inr hb))))
theorem XQ {w : World} {r : StLogRecord} {u : Bool} {d : BS} (h : OwnL w r.rows) (hd : OwnL w d.rows) (hf : ∀ b, d.v.ownBlock = some b → ¬ O6 r.rows b) : OwnL w (StLogRecord.rows { r with before := ⟨u, d⟩ }) ∧ ∀ b, O6 (StLogRecord.rows { r with before := ⟨u, d⟩ }) b → O6 r.rows b ∨ d.v.ownBlock = some b := by
 have h1 := OwnL.repl (A := []) (X := r.before.data.rows) (X' := d.rows) h hd (fun b hb => hf b ((Qs _ b).1 hb));exact ⟨h1.1, fun b hb => (h1.2 b hb).imp_right (fun e => (Qs _ b).1 e)⟩
theorem jb7 {w : World} {r : StLogRecord} {u : Bool} {d : BS} (h : OwnL w r.rows) (hd : OwnL w d.rows) (hf : ∀ b, d.v.ownBlock = some b → ¬ O6 r.rows b) : OwnL w (StLogRecord.rows { r with after := ⟨u, d⟩ }) ∧ ∀ b, O6 (StLogRecord.rows { r with after := ⟨u, d⟩ }) b → O6 r.rows b ∨ d.v.ownBlock = some b := by
 have h1 := OwnL.repl (A := r.before.rows) (X := r.after.data.rows) (X' := d.rows) h hd (fun b hb => hf b ((Qs _ b).1 hb));exact ⟨h1.1, fun b hb => (h1.2 b hb).imp_right (fun e => (Qs _ b).1 e)⟩
theorem jb8 {w : World} {r : StLogRecord} {d : BS} (h : OwnL w r.rows) (hd : OwnL w d.rows) (hf : ∀ b, d.v.ownBlock = some b → ¬ O6 r.rows b) : OwnL w (StLogRecord.rows { r with image := d }) ∧ ∀ b, O6 (StLogRecord.rows { r with image := d }) b → O6 r.rows b ∨ d.v.ownBlock = some b := by
 have e1 : r.rows = (r.before.rows ++ (r.after.rows ++ (r.txns.rows 4 ++ r.dirty.rows 2))) ++ (r.image.rows ++ []) := by simp [StLogRecord.rows]
 have e2 : StLogRecord.rows { r with image := d } = (r.before.rows ++ (r.after.rows ++ (r.txns.rows 4 ++ r.dirty.rows 2))) ++ (d.rows ++ []) := by simp [StLogRecord.rows]
 rw [e1] at h hf ⊢;rw [e2];have h1 := OwnL.repl (X' := d.rows) h hd (fun b hb => hf b ((Qs _ b).1 hb));exact ⟨h1.1, fun b hb => (h1.2 b hb).imp_right (fun e => (Qs _ b).1 e)⟩
theorem Bd4C.appT (h : Bd4C w0 w B v cs k size Y X r y wr) (o : Obj) {w9 : World} {g c : Nat} {x1 x2 x3 x4 : Int} (ho : w9.ownsRow 0 79 4 (Q3 g (y.txns.n + 1) c) (y.txns.n + 1) (vals .i64 y.txns.bs ++ [Q1 x1, Q1 x2, Q1 x3, Q1 x4])) (hg : (wr.alloc o).grownBy w9 y.txns.v.ownBlock) (fH : y.txns.v.ownBlock = some g ∨ g = (wr.alloc o).heap.size) (hz : y.szs ≤ 6999) :
  Bd4C w0 w B v cs k size Y X r { y with txns := ⟨79, some ⟨g, 0, none⟩, y.txns.n + 1, c, y.txns.bs ++ [x1, x2, x3, x4]⟩ } (w9.setCell ⟨Y, 11, none⟩ (Q3 g (y.txns.n + 1) c)) ∧ w9.cell? ⟨Y, 11, none⟩ = some y.txns.v ∧ w9.frozen? ⟨Y, 11, none⟩ = false := by
 have h' := h.same ((Kept.refl (fun _ => False) wr).alloc o);have hk : Kept (fun b => y.txns.v.ownBlock = some b) (wr.alloc o) w9 := Kept.of_grown hg (fun k e => e);have dT : ∀ b, y.txns.v.ownBlock = some b → O6 y.rows b := fun b e => (OX _ _ _).2 (.inr ((OX _ _ _).2 (.inr ((OX _ _ _).2 (.inl ((PL _ _ b).2 e))))));have cC := h'.box.kept hk (fun e => (h'.ft Y (dT Y e)).2.2.1 rfl)
 obtain ⟨s1, s2⟩ := jba (d := ⟨79, some ⟨g, 0, none⟩, y.txns.n + 1, c, y.txns.bs ++ [x1, x2, x3, x4]⟩) h'.own hk (ZY ho) (fun b hb => by
  have e1 : g = b := (by simpa [Value.ownBlock, FR.v] using hb);subst e1
  exact fH.imp_right (fun e => Nat.le_of_eq e.symm))
 have bF : Kept (fun b => b = Y) w9 (w9.setCell ⟨Y, 11, none⟩ (Q3 g (y.txns.n + 1) c)) := Kept.setCell (R := fun b => b = Y) kZ0 (.inr (by rfl)) _
 have Dt : ∀ b, O6 (StLogRecord.rows { y with txns := ⟨79, some ⟨g, 0, none⟩, y.txns.n + 1, c, y.txns.bs ++ [x1, x2, x3, x4]⟩ }) b → ¬ b = Y := fun b hb e => by
  have h1 := h'.box.lt
  rcases s2 b hb with e' | e'
  ·exact (h'.ft b e').2.2.1 e
  ·omega
 refine ⟨h'.next _ (cC.stored 11 _) ((hk.mono (fun b _ e => .inr (dT b e))).trans (bF.mono (fun _ _ e => .inl e))) (s1.kept bF (fun b hb e => Dt b hb e)) s2 h.isB ?_, cC.cell 11, cC.frozen 11⟩;have hs := hz;simp only [StLogRecord.szs] at hs ⊢;omega
theorem Bd4C.appD (h : Bd4C w0 w B v cs k size Y X r y wr) (o : Obj) {w9 : World} {g c : Nat} {x1 x2 : Int} (ho : w9.ownsRow 0 81 2 (Q3 g (y.dirty.n + 1) c) (y.dirty.n + 1) (vals .i64 y.dirty.bs ++ [Q1 x1, Q1 x2])) (hg : (wr.alloc o).grownBy w9 y.dirty.v.ownBlock) (fH : y.dirty.v.ownBlock = some g ∨ g = (wr.alloc o).heap.size) (hz : y.szs ≤ 6999) :
  Bd4C w0 w B v cs k size Y X r { y with dirty := ⟨81, some ⟨g, 0, none⟩, y.dirty.n + 1, c, y.dirty.bs ++ [x1, x2]⟩ } (w9.setCell ⟨Y, 12, none⟩ (Q3 g (y.dirty.n + 1) c)) ∧ w9.cell? ⟨Y, 12, none⟩ = some y.dirty.v ∧ w9.frozen? ⟨Y, 12, none⟩ = false := by
 have h' := h.same ((Kept.refl (fun _ => False) wr).alloc o);have hk : Kept (fun b => y.dirty.v.ownBlock = some b) (wr.alloc o) w9 := Kept.of_grown hg (fun k e => e);have dT : ∀ b, y.dirty.v.ownBlock = some b → O6 y.rows b := fun b e => (OX _ _ _).2 (.inr ((OX _ _ _).2 (.inr ((OX _ _ _).2 (.inr ((OX _ _ _).2 (.inl ((PL _ _ b).2 e))))))));have cC := h'.box.kept hk (fun e => (h'.ft Y (dT Y e)).2.2.1 rfl)
 obtain ⟨s1, s2⟩ := Z4 (d := ⟨81, some ⟨g, 0, none⟩, y.dirty.n + 1, c, y.dirty.bs ++ [x1, x2]⟩) h'.own hk (Z0 ho) (fun b hb => by
  have e1 : g = b := (by simpa [Value.ownBlock, FR.v] using hb);subst e1
  exact fH.imp_right (fun e => Nat.le_of_eq e.symm))
 have bF : Kept (fun b => b = Y) w9 (w9.setCell ⟨Y, 12, none⟩ (Q3 g (y.dirty.n + 1) c)) := Kept.setCell (R := fun b => b = Y) kZ0 (.inr (by rfl)) _
 have Dt : ∀ b, O6 (StLogRecord.rows { y with dirty := ⟨81, some ⟨g, 0, none⟩, y.dirty.n + 1, c, y.dirty.bs ++ [x1, x2]⟩ }) b → ¬ b = Y := fun b hb e => by
  have h1 := h'.box.lt
  rcases s2 b hb with e' | e'
  ·exact (h'.ft b e').2.2.1 e
  ·omega
 refine ⟨h'.next _ (cC.stored 12 _) ((hk.mono (fun b _ e => .inr (dT b e))).trans (bF.mono (fun _ _ e => .inl e))) (s1.kept bF (fun b hb e => Dt b hb e)) s2 h.isB ?_, cC.cell 12, cC.frozen 12⟩;have hs := hz;simp only [StLogRecord.szs] at hs ⊢;omega
theorem Bd4C.setT {g n c : Nat} {e : TypeId} {bs : List Int} (h : Bd4C w0 w B v cs k size Y X r y wr) (ht : y.txns = ⟨e, some ⟨g, 0, none⟩, n, c, bs⟩) (j : Nat) (z : Int) : Bd4C w0 w B v cs k size Y X r { y with txns := ⟨e, some ⟨g, 0, none⟩, n, c, bs.set j z⟩ } (wr.setCell ⟨g, j, none⟩ (Q1 z)) := by
  have hk : Kept (fun b => y.txns.v.ownBlock = some b) wr (wr.setCell ⟨g, j, none⟩ (Q1 z)) := Kept.setCell (R := fun b => y.txns.v.ownBlock = some b) kZ0 (.inr (by rw [ht]; rfl)) _;have dT : ∀ b, y.txns.v.ownBlock = some b → O6 y.rows b := fun b e => (OX _ _ _).2 (.inr ((OX _ _ _).2 (.inr ((OX _ _ _).2 (.inl ((PL _ _ b).2 e))))));have ho := FR.own_one h.own.right.right.left;rw [ht] at ho;obtain ⟨s1, s2⟩ := jba (d := ⟨e, some ⟨g, 0, none⟩, n, c, bs.set j z⟩) h.own hk (OwnF.stored (show OwnF 4 e wr g n c bs from ho) j z).out (fun b hb => .inl (by rw [ht]; exact hb));have cC := h.box.kept hk (fun e => (h.ft Y (dT Y e)).2.2.1 rfl)
  refine h.next _ (by have e1 : O8 { y with txns := ⟨e, some ⟨g, 0, none⟩, n, c, bs.set j z⟩ } = O8 y := (by simp only [O8, ht, FR.v]); rw [e1]; exact cC) (hk.mono (fun b _ e => .inr (dT b e))) s1 s2 h.isB ?_
  have hs := h.szs;simp only [StLogRecord.szs, ht] at hs ⊢;exact hs
theorem Bd4C.setD {g n c : Nat} {e : TypeId} {bs : List Int} (h : Bd4C w0 w B v cs k size Y X r y wr) (ht : y.dirty = ⟨e, some ⟨g, 0, none⟩, n, c, bs⟩) (j : Nat) (z : Int) : Bd4C w0 w B v cs k size Y X r { y with dirty := ⟨e, some ⟨g, 0, none⟩, n, c, bs.set j z⟩ } (wr.setCell ⟨g, j, none⟩ (Q1 z)) := by
  have hk : Kept (fun b => y.dirty.v.ownBlock = some b) wr (wr.setCell ⟨g, j, none⟩ (Q1 z)) := Kept.setCell (R := fun b => y.dirty.v.ownBlock = some b) kZ0 (.inr (by rw [ht]; rfl)) _;have dT : ∀ b, y.dirty.v.ownBlock = some b → O6 y.rows b := fun b e => (OX _ _ _).2 (.inr ((OX _ _ _).2 (.inr ((OX _ _ _).2 (.inr ((OX _ _ _).2 (.inl ((PL _ _ b).2 e))))))));have ho := FR.own_one h.own.right.right.right.left;rw [ht] at ho;obtain ⟨s1, s2⟩ := Z4 (d := ⟨e, some ⟨g, 0, none⟩, n, c, bs.set j z⟩) h.own hk (OwnF.stored (show OwnF 2 e wr g n c bs from ho) j z).out (fun b hb => .inl (by rw [ht]; exact hb));have cC := h.box.kept hk (fun e => (h.ft Y (dT Y e)).2.2.1 rfl)
  refine h.next _ (by have e1 : O8 { y with dirty := ⟨e, some ⟨g, 0, none⟩, n, c, bs.set j z⟩ } = O8 y := (by simp only [O8, ht, FR.v]); rw [e1]; exact cC) (hk.mono (fun b _ e => .inr (dT b e))) s1 s2 h.isB ?_
  have hs := h.szs;simp only [StLogRecord.szs, ht] at hs ⊢;exact hs
theorem Bd4C.looseI (h : Bd4C w0 w B v cs k size Y X r y wr) (d : BS) (ks : Blk wx Y 28 (O8 { y with image := d })) (hk : Kept (fun b => b = B ∨ b = Y ∨ y.image.v.ownBlock = some b) wr wx) (hd : Rd .u8 wx d.v d.bs) (Cw : IsB d.bs) (gM : d.bs.length ≤ 4096) (yJ : ∀ b, d.v.ownBlock = some b → y.image.v.ownBlock = some b) (hs : SrcR w0 wx B v cs k' size) {k0 : Nat} (aW : k' ≤ k0 + 20) (hz : y.szs ≤ 2900 ∨ d.bs.length ≤ y.image.bs.length) : jbi w0 w B v cs k0 size Y X r wx := by
 obtain ⟨e1, e2, e3, e4, e5, e6⟩ := h.yx;have dT : ∀ b, y.image.v.ownBlock = some b → O6 y.rows b := fun b e => (OX _ _ _).2 (.inr ((OX _ _ _).2 (.inr ((OX _ _ _).2 (.inr ((OX _ _ _).2 (.inr ((Qs _ b).2 e))))))))
 have eR : y.rows = (y.before.rows ++ (y.after.rows ++ (y.txns.rows 4 ++ y.dirty.rows 2))) ++ y.image.rows := by simp [StLogRecord.rows]
 have ho := h.own;rw [eR] at ho
 have hA := ho.left.kept hk (fun b hb e => by
  have hy : O6 y.rows b := by rw [eR]; exact (OX _ _ _).2 (.inl hb)
  rcases e with e | e | e
  ·exact (h.ft b hy).2.2.2.1 e
  ·exact (h.ft b hy).2.2.1 e
  ·obtain ⟨r1, du, q1⟩ := hb
   exact (List.pairwise_append.1 ho.apart).2.2 r1 du _ (List.mem_singleton.2 rfl) b q1 e)
 have eL := h.szs;refine ⟨{ y with image := d }, k', ks, h.res.kept hk (fun e => by rcases e with e | e | e ; exact e5 e; exact e3 e; exact (h.ft X (dT X e)).2.1 rfl), ⟨StPageRecord.own_rd hA.left, StPageRecord.own_rd hA.right.left, FR.own_rd hA.right.right.left, FR.own_rd hA.right.right.right, hd⟩, fun b hb => ?_, aW, hs, h.kept.next hk (fun i hi e => ?_), ⟨h.isB.1, h.isB.2.1, Cw⟩, ?_⟩
 ·have Ld : StLogRecord.rows { y with image := d } = (y.before.rows ++ (y.after.rows ++ (y.txns.rows 4 ++ y.dirty.rows 2))) ++ d.rows := by simp [StLogRecord.rows]
  rw [Ld] at hb
  rcases (OX _ _ _).1 hb with hb | hb
  ·exact h.ft b (by rw [eR]; exact (OX _ _ _).2 (.inl hb))
  ·exact h.ft b (dT b (yJ b ((Qs _ b).1 hb)))
 ·rcases e with e | e | e
  ·exact .inl e
  ·have e' : i = Y := e
   omega
  ·exact .inr ((h.ft i (dT i e)).1.elim id (fun e => by omega))
 ·simp only [StLogRecord.szs, StPageRecord.szs] at eL hz ⊢
  omega
theorem Bd4C.looseT (h : Bd4C w0 w B v cs k size Y X r y wr) (d : FR) (ks : Blk wx Y 28 (O8 { y with txns := d })) (hk : Kept (fun b => b = B ∨ b = Y) wr wx) (hd : RdF 4 wx d) (gM : d.n ≤ y.txns.n) (yJ : ∀ b, d.v.ownBlock = some b → y.txns.v.ownBlock = some b) (hs : SrcR w0 wx B v cs k' size) {k0 : Nat} (aW : k' ≤ k0 + 20) : jbi w0 w B v cs k0 size Y X r wx := by
 obtain ⟨e1, e2, e3, e4, e5, e6⟩ := h.yx;have dT : ∀ b, y.txns.v.ownBlock = some b → O6 y.rows b := fun b e => (OX _ _ _).2 (.inr ((OX _ _ _).2 (.inr ((OX _ _ _).2 (.inl ((PL _ _ b).2 e))))))
 have hA := h.own.kept hk (fun b hb e => by
  rcases e with e | e
  ·exact (h.ft b hb).2.2.2.1 e
  ·exact (h.ft b hb).2.2.1 e)
 have eL := h.szs;have hR := StLogRecord.own_rd hA;refine ⟨{ y with txns := d }, k', ks, h.res.kept hk (fun e => e.elim e5 e3), ⟨hR.1, hR.2.1, hd, hR.2.2.2.1, hR.2.2.2.2⟩, fun b hb => ?_, aW, hs, h.kept.next hk (fun i hi e => ?_), h.isB, ?_⟩
 ·rcases (OX _ _ _).1 hb with hb | hb
  ·exact h.ft b ((OX _ _ _).2 (.inl hb))
  rcases (OX _ _ _).1 hb with hb | hb
  ·exact h.ft b ((OX _ _ _).2 (.inr ((OX _ _ _).2 (.inl hb))))
  rcases (OX _ _ _).1 hb with hb | hb
  ·exact h.ft b (dT b (yJ b ((PL _ _ b).1 hb)))
  ·exact h.ft b ((OX _ _ _).2 (.inr ((OX _ _ _).2 (.inr ((OX _ _ _).2 (.inr hb))))))
 ·rcases e with e | e
  ·exact .inl e
  ·have e' : i = Y := e
   omega
 ·simp only [StLogRecord.szs, StPageRecord.szs] at eL ⊢
  omega
theorem Bd4C.put (h : Bd4C w0 w B v cs k size Y X r y wr) (y' : StLogRecord) (j : Nat) (u : Value) (hc : O8 y' = (O8 y).set j u) (hr : y'.rows = y.rows) (hb : IsB y'.before.data.bs ∧ IsB y'.after.data.bs ∧ IsB y'.image.bs) (hz : y'.szs = y.szs) : Bd4C w0 w B v cs k size Y X r y' (wr.setCell ⟨Y, j, none⟩ u) := by
 have hk : Kept (fun b => b = Y) wr (wr.setCell ⟨Y, j, none⟩ u) := Kept.setCell (R := fun b => b = Y) kZ0 (.inr (by rfl)) _;refine h.next y' (by rw [hc]; exact h.box.stored j u) (hk.mono (fun _ _ e => .inl e)) (by rw [hr]; exact h.own.kept hk (fun b hb e => (h.ft b hb).2.2.1 e)) (fun b hb => .inl (by rw [← hr]; exact hb)) hb (by rw [hz]; exact h.szs)
end
def je9 (w0 w w' : World) (e : Ending) (B : Nat) (v : Value) (cs : List Int) (k : Nat) (size : Int) (r : StLogRecord) : Prop :=
 ∃ (y : StLogRecord) (k' : Nat), e = .returned (.agg (O8 y).toArray) ∧ StLogRecord.rd w' y ∧ (∀ b, O6 y.rows b → (O6 r.rows b ∨ w.heap.size ≤ b) ∧ w0.heap.size ≤ b) ∧ k' ≤ k + 20 ∧ SrcR w0 w' B v cs k' size ∧ Kept (fun b => b = B ∨ O6 r.rows b) w w' ∧ (IsB y.before.data.bs ∧ IsB y.after.data.bs ∧ IsB y.image.bs) ∧ y.szs ≤ 7000
theorem jdm {w0 w : World} {B : Nat} {v : Value} {cs : List Int} {k : Nat} {size : Int} (h : SrcR w0 w B v cs k size) (hk : k ≤ 1073000000) (hw : w0.heap.size ≤ w.heap.size) (r : StLogRecord) (hr : RcB r) (I5 : r.txns.e = 79) (FO : r.dirty.e = 81) (FP : r.image.e = 5) (ho : OwnL w r.rows) (hf : ∀ b, O6 r.rows b → ¬ b = B ∧ w0.heap.size ≤ b) :
  Calls Tryz.prog 58 #[Q2 B 0, .agg (O8 r).toArray] w fun e w' => je9 w0 w w' e B v cs k size r := by
 obtain ⟨kd, tx, pv, pg, sl, ⟨bU, ⟨bE, bA, bC, bB⟩⟩, ⟨aU, ⟨aE, aA, aC, aB⟩⟩, un, nt, ⟨tE, tA, tN, tC, tB⟩, ⟨dE, dA, dN, dC, dB⟩, ⟨iE, iA, iC, iB⟩⟩ := r;dsimp only at I5 FO FP;subst I5 FO FP;have eT := h.lt;obtain ⟨N, hN⟩ : ∃ N, w.heap.size = N := ⟨_, rfl⟩;have b0 := Blk.newL w [Q1 kd, Q1 tx, Q1 pv, Q1 pg, Q1 sl, .bool bU, .slice bA bB.length bC, .bool aU, .slice aA aB.length aC, Q1 un, Q1 nt, .slice tA tN tC, .slice dA dN dC, .slice iA iB.length iC] 28;have aW : Same w (w.alloc (.cells #[Q1 kd, Q1 tx, Q1 pv, Q1 pg, Q1 sl, .bool bU, .slice bA bB.length bC, .bool aU, .slice aA aB.length aC, Q1 un, Q1 nt, .slice tA tN tC, .slice dA dN dC, .slice iA iB.length iC] 28)) := kZ0.alloc _
 have b8 : (w.alloc (.cells #[Q1 kd, Q1 tx, Q1 pv, Q1 pg, Q1 sl, .bool bU, .slice bA bB.length bC, .bool aU, .slice aA aB.length aC, Q1 un, Q1 nt, .slice tA tN tC, .slice dA dN dC, .slice iA iB.length iC] 28)).heap.size = N + 1 := by simp [← hN]
 have b1 := Blk.new (w.alloc (.cells #[Q1 kd, Q1 tx, Q1 pv, Q1 pg, Q1 sl, .bool bU, .slice bA bB.length bC, .bool aU, .slice aA aB.length aC, Q1 un, Q1 nt, .slice tA tN tC, .slice dA dN dC, .slice iA iB.length iC] 28)) #[Q1 0, Q1 0, Q1 0, Q1 0, Q1 0, .bool false, Q4, .bool false, Q4, Q1 0, Q1 0, Q4, Q4, Q4] 28;have ah : Same (w.alloc (.cells #[Q1 kd, Q1 tx, Q1 pv, Q1 pg, Q1 sl, .bool bU, .slice bA bB.length bC, .bool aU, .slice aA aB.length aC, Q1 un, Q1 nt, .slice tA tN tC, .slice dA dN dC, .slice iA iB.length iC] 28)) ((w.alloc (.cells #[Q1 kd, Q1 tx, Q1 pv, Q1 pg, Q1 sl, .bool bU, .slice bA bB.length bC, .bool aU, .slice aA aB.length aC, Q1 un, Q1 nt, .slice tA tN tC, .slice dA dN dC, .slice iA iB.length iC] 28)).alloc (.cells #[Q1 0, Q1 0, Q1 0, Q1 0, Q1 0, .bool false, Q4, .bool false, Q4, Q1 0, Q1 0, Q4, Q4, Q4] 28)) := kZ0.alloc _;rw [hN] at b0;rw [b8] at b1;have HC : Hid (Bd4C w0 w B v cs k size N (N + 1) ⟨kd, tx, pv, pg, sl, ⟨bU, ⟨bE, bA, bC, bB⟩⟩, ⟨aU, ⟨aE, aA, aC, aB⟩⟩, un, nt, ⟨79, tA, tN, tC, tB⟩, ⟨81, dA, dN, dC, dB⟩, ⟨5, iA, iC, iB⟩⟩ ⟨kd, tx, pv, pg, sl, ⟨bU, ⟨bE, bA, bC, bB⟩⟩, ⟨aU, ⟨aE, aA, aC, aB⟩⟩, un, nt, ⟨79, tA, tN, tC, tB⟩, ⟨81, dA, dN, dC, dB⟩, ⟨5, iA, iC, iB⟩⟩ ((w.alloc (.cells #[Q1 kd, Q1 tx, Q1 pv, Q1 pg, Q1 sl, .bool bU, .slice bA bB.length bC, .bool aU, .slice aA aB.length aC, Q1 un, Q1 nt, .slice tA tN tC, .slice dA dN dC, .slice iA iB.length iC] 28)).alloc (.cells #[Q1 0, Q1 0, Q1 0, Q1 0, Q1 0, .bool false, Q4, .bool false, Q4, Q1 0, Q1 0, Q4, Q4, Q4] 28))) := ⟨b0.same ah, b1, (ho.same aW).same ah, fun b hb => ⟨.inl hb, by have := ho.lt b hb; omega, by have := ho.lt b hb; omega, (hf b hb).1, (hf b hb).2⟩, (h.same aW).same ah, (aW.trans ah).mono (fun _ _ e => e.elim), ⟨hr.1.1, hr.1.2.1, hr.1.2.2.1⟩, by have := hr.2; omega, by omega, by omega, by omega, by omega, by omega, by omega⟩;have pM := hr.2;simp only [StLogRecord.szs, StPageRecord.szs] at pM;have HN := hid hN;clear b0 aW b1 ah ho hf h hr;dsimp only [O8, BS.v, FR.v]
 go_enter Tryz.func58, Tryz.ntmps58
 go_upto_region 1 with fail
 try simp only [b8]
 try simp only [hN]
 clear hN b8;generalize World.alloc _ _ = w1 at HC ⊢
 go_wp2_with fail
 refine (Pd 20 HC.out.src (by omega) (by constructor <;> decide)).mono ?_;rintro e w2 ⟨z, rfl, hd, aT, aQ⟩;have bl := hid (HC.out.draw aT aQ);clear HC hd aT aQ
 go_upto_block 0 with fail
 go_cut [3] (fun x wx => x = Q2 N 0 ∧ Hid (jbi w0 w B v cs k size N (N + 1) ⟨kd, tx, pv, pg, sl, ⟨bU, ⟨bE, bA, bC, bB⟩⟩, ⟨aU, ⟨aE, aA, aC, aB⟩⟩, un, nt, ⟨79, tA, tN, tC, tB⟩, ⟨81, dA, dN, dC, dB⟩, ⟨5, iA, iC, iB⟩⟩ wx))
 case first =>
  by_cases z0 : z = 0
  ·subst z0
   as_aux_lemma =>
   go_wp2_with fail
   refine (Pd 2 bl.out.src (by omega) (by constructor <;> decide)).mono ?_;rintro e w3 ⟨q, rfl, hd, aT, aQ⟩;obtain ⟨fj, gV⟩ := hd.2 (by decide);have bH := hid (bl.out.draw aT aQ);clear hd aT aQ bl;obtain ⟨m, hm⟩ : ∃ m, IntKind.i64.wrap (9 * q) = m := ⟨_, rfl⟩;have c0 : w3.cell? ⟨N, 0, none⟩ = some (Q1 kd) := bH.out.box.cell 0;have f0 := bH.out.box.frozen 0;have HF := hid (bH.out.put ⟨m, tx, pv, pg, sl, ⟨bU, ⟨bE, bA, bC, bB⟩⟩, ⟨aU, ⟨aE, aA, aC, aB⟩⟩, un, nt, ⟨79, tA, tN, tC, tB⟩, ⟨81, dA, dN, dC, dB⟩, ⟨5, iA, iC, iB⟩⟩ 0 (Q1 m) rfl rfl bH.out.isB rfl);clear bH
   go_wp2_with fail
   generalize World.setCell _ ⟨N, 0, none⟩ _ = w9 at HF ⊢
   go_meet
   case rel => exact ⟨rfl, HF.out.fin (by omega)⟩
  have e0 : (z == 0) = false := by simp [z0]
  clear z0
  by_cases z1 : z = 1
  ·subst z1
   as_aux_lemma =>
   go_wp2_with fail
   refine (Pd 8 bl.out.src (by omega) (by constructor <;> decide)).mono ?_;rintro e w3 ⟨q, rfl, hd, aT, aQ⟩;obtain ⟨fj, gV⟩ := hd.2 (by decide);have bH := hid (bl.out.draw aT aQ);clear hd aT aQ bl;obtain ⟨m, hm⟩ : ∃ m, IntKind.i64.wrap (1 + q) = m := ⟨_, rfl⟩;have c0 : w3.cell? ⟨N, 0, none⟩ = some (Q1 kd) := bH.out.box.cell 0;have f0 := bH.out.box.frozen 0;have HF := hid (bH.out.put ⟨m, tx, pv, pg, sl, ⟨bU, ⟨bE, bA, bC, bB⟩⟩, ⟨aU, ⟨aE, aA, aC, aB⟩⟩, un, nt, ⟨79, tA, tN, tC, tB⟩, ⟨81, dA, dN, dC, dB⟩, ⟨5, iA, iC, iB⟩⟩ 0 (Q1 m) rfl rfl bH.out.isB rfl);clear bH
   go_wp2_with fail
   generalize World.setCell _ ⟨N, 0, none⟩ _ = w9 at HF ⊢
   go_meet
   case rel => exact ⟨rfl, HF.out.fin (by omega)⟩
  have e1 : (z == 1) = false := by simp [z1]
  clear z1
  by_cases z2 : z = 2
  ·subst z2
   as_aux_lemma =>
   have aZ : Same w2 (w2.alloc (.cells #[Q1 0, Q1 2147483647, Q1 2147483648] 2)) := kZ0.alloc _;have eg := Blk.newL w2 [Q1 0, Q1 2147483647, Q1 2147483648] 2;obtain ⟨U, hU⟩ : ∃ U, w2.heap.size = U := ⟨_, rfl⟩;have iN := hid (bl.out.same aZ);rw [hU] at eg
   have tP : ¬ U = B := by have := bl.out.src.lt; omega
   have EU : ¬ U = N := by have := bl.out.box.lt; omega
   clear bl aZ
   go_wp2_with fail
   try rw [hU]
   generalize World.alloc _ _ = Cj at iN eg ⊢;clear hU;refine (Pd 3 iN.out.src (by omega) (by constructor <;> decide)).mono ?_;rintro e w3 ⟨q, rfl, hd, aT, aQ⟩;obtain ⟨fj, gV⟩ := hd.2 (by decide);have bH := hid (iN.out.draw aT aQ);have mD := eg.kept aQ tP;clear hd aT aQ iN eg;obtain ⟨q, rfl⟩ : ∃ m : Nat, q = (m : Int) := ⟨q.toNat, by omega⟩
   have sI : q < 3 := by omega
   obtain ⟨m, hm⟩ : ∃ m : Int, w3.cell? ⟨U, q, none⟩ = some (Q1 m) := by
    have h := mD.cell q
    rcases q with _ | _ | _ | q
    ·exact ⟨_, h⟩
    ·exact ⟨_, h⟩
    ·exact ⟨_, h⟩
    ·omega
   clear mD;have c0 : w3.cell? ⟨N, 1, none⟩ = some (Q1 tx) := bH.out.box.cell 1;have f0 := bH.out.box.frozen 1;have HF := hid (bH.out.put ⟨kd, m, pv, pg, sl, ⟨bU, ⟨bE, bA, bC, bB⟩⟩, ⟨aU, ⟨aE, aA, aC, aB⟩⟩, un, nt, ⟨79, tA, tN, tC, tB⟩, ⟨81, dA, dN, dC, dB⟩, ⟨5, iA, iC, iB⟩⟩ 1 (Q1 m) rfl rfl bH.out.isB rfl);clear bH
   go_wp2_with fail
   generalize World.setCell _ ⟨N, 1, none⟩ _ = w9 at HF ⊢
   go_meet
   case rel => exact ⟨rfl, HF.out.fin (by omega)⟩
  have e2 : (z == 2) = false := by simp [z2]
  clear z2
  by_cases z3 : z = 3
  ·subst z3
   as_aux_lemma =>
   have aZ : Same w2 (w2.alloc (.cells #[Q1 (-1), Q1 1099511627776, Q1 1099511627777] 2)) := kZ0.alloc _;have eg := Blk.newL w2 [Q1 (-1), Q1 1099511627776, Q1 1099511627777] 2;obtain ⟨U, hU⟩ : ∃ U, w2.heap.size = U := ⟨_, rfl⟩;have iN := hid (bl.out.same aZ);rw [hU] at eg
   have tP : ¬ U = B := by have := bl.out.src.lt; omega
   have EU : ¬ U = N := by have := bl.out.box.lt; omega
   clear bl aZ
   go_wp2_with fail
   try rw [hU]
   generalize World.alloc _ _ = Cj at iN eg ⊢;clear hU;refine (Pd 3 iN.out.src (by omega) (by constructor <;> decide)).mono ?_;rintro e w3 ⟨q, rfl, hd, aT, aQ⟩;obtain ⟨fj, gV⟩ := hd.2 (by decide);have bH := hid (iN.out.draw aT aQ);have mD := eg.kept aQ tP;clear hd aT aQ iN eg;obtain ⟨q, rfl⟩ : ∃ m : Nat, q = (m : Int) := ⟨q.toNat, by omega⟩
   have sI : q < 3 := by omega
   obtain ⟨m, hm⟩ : ∃ m : Int, w3.cell? ⟨U, q, none⟩ = some (Q1 m) := by
    have h := mD.cell q
    rcases q with _ | _ | _ | q
    ·exact ⟨_, h⟩
    ·exact ⟨_, h⟩
    ·exact ⟨_, h⟩
    ·omega
   clear mD;have c0 : w3.cell? ⟨N, 2, none⟩ = some (Q1 pv) := bH.out.box.cell 2;have f0 := bH.out.box.frozen 2;have HF := hid (bH.out.put ⟨kd, tx, m, pg, sl, ⟨bU, ⟨bE, bA, bC, bB⟩⟩, ⟨aU, ⟨aE, aA, aC, aB⟩⟩, un, nt, ⟨79, tA, tN, tC, tB⟩, ⟨81, dA, dN, dC, dB⟩, ⟨5, iA, iC, iB⟩⟩ 2 (Q1 m) rfl rfl bH.out.isB rfl);clear bH
   go_wp2_with fail
   generalize World.setCell _ ⟨N, 2, none⟩ _ = w9 at HF ⊢
   go_meet
   case rel => exact ⟨rfl, HF.out.fin (by omega)⟩
  have e3 : (z == 3) = false := by simp [z3]
  clear z3
  by_cases z4 : z = 4
  ·subst z4
   as_aux_lemma =>
   go_wp2_with fail
   refine (Pd 2 bl.out.src (by omega) (by constructor <;> decide)).mono ?_;rintro e w3 ⟨q, rfl, hd, aT, aQ⟩;obtain ⟨fj, gV⟩ := hd.2 (by decide);have bH := hid (bl.out.draw aT aQ);clear hd aT aQ bl;obtain ⟨m, hm⟩ : ∃ m, IntKind.i64.wrap (16 - q) = m := ⟨_, rfl⟩;have c0 : w3.cell? ⟨N, 3, none⟩ = some (Q1 pg) := bH.out.box.cell 3;have f0 := bH.out.box.frozen 3;have HF := hid (bH.out.put ⟨kd, tx, pv, m, sl, ⟨bU, ⟨bE, bA, bC, bB⟩⟩, ⟨aU, ⟨aE, aA, aC, aB⟩⟩, un, nt, ⟨79, tA, tN, tC, tB⟩, ⟨81, dA, dN, dC, dB⟩, ⟨5, iA, iC, iB⟩⟩ 3 (Q1 m) rfl rfl bH.out.isB rfl);clear bH
   go_wp2_with fail
   generalize World.setCell _ ⟨N, 3, none⟩ _ = w9 at HF ⊢
   go_meet
   case rel => exact ⟨rfl, HF.out.fin (by omega)⟩
  have e4 : (z == 4) = false := by simp [z4]
  clear z4
  by_cases z5 : z = 5
  ·subst z5
   as_aux_lemma =>
   go_wp2_with fail
   refine (Pd 2 bl.out.src (by omega) (by constructor <;> decide)).mono ?_;rintro e w3 ⟨q, rfl, hd, aT, aQ⟩;obtain ⟨fj, gV⟩ := hd.2 (by decide);have bH := hid (bl.out.draw aT aQ);clear hd aT aQ bl;obtain ⟨m, hm⟩ : ∃ m, IntKind.i64.wrap (32 - q) = m := ⟨_, rfl⟩;have c0 : w3.cell? ⟨N, 4, none⟩ = some (Q1 sl) := bH.out.box.cell 4;have f0 := bH.out.box.frozen 4;have HF := hid (bH.out.put ⟨kd, tx, pv, pg, m, ⟨bU, ⟨bE, bA, bC, bB⟩⟩, ⟨aU, ⟨aE, aA, aC, aB⟩⟩, un, nt, ⟨79, tA, tN, tC, tB⟩, ⟨81, dA, dN, dC, dB⟩, ⟨5, iA, iC, iB⟩⟩ 4 (Q1 m) rfl rfl bH.out.isB rfl);clear bH
   go_wp2_with fail
   generalize World.setCell _ ⟨N, 4, none⟩ _ = w9 at HF ⊢
   go_meet
   case rel => exact ⟨rfl, HF.out.fin (by omega)⟩
  have e5 : (z == 5) = false := by simp [z5]
  clear z5
  by_cases z6 : z = 6
  ·subst z6
   as_aux_lemma =>
   have c0 : w2.cell? ⟨N, 7, none⟩ = some (.bool aU) := bl.out.box.cell 7;have f0 := bl.out.box.frozen 7;have HF := hid (bl.out.put ⟨kd, tx, pv, pg, sl, ⟨bU, ⟨bE, bA, bC, bB⟩⟩, ⟨!aU, ⟨aE, aA, aC, aB⟩⟩, un, nt, ⟨79, tA, tN, tC, tB⟩, ⟨81, dA, dN, dC, dB⟩, ⟨5, iA, iC, iB⟩⟩ 7 (.bool (!aU)) rfl rfl bl.out.isB rfl);clear bl
   go_wp2_with fail
   generalize World.setCell _ ⟨N, 7, none⟩ _ = w9 at HF ⊢
   go_meet
   case rel => exact ⟨rfl, HF.out.fin (by omega)⟩
  have e6 : (z == 6) = false := by simp [z6]
  clear z6
  by_cases z7 : z = 7
  ·subst z7
   as_aux_lemma =>
   go_wp2_with fail
   refine (Pd 2 bl.out.src (by omega) (by constructor <;> decide)).mono ?_;rintro e w3 ⟨q, rfl, hd, aT, aQ⟩;obtain ⟨fj, gV⟩ := hd.2 (by decide);have bH := hid (bl.out.draw aT aQ);clear hd aT aQ bl;obtain ⟨M, hM⟩ : ∃ M : Nat, 1000 + q = (M : Int) := ⟨(1000 + q).toNat, by omega⟩
   have N6 : M ≤ 1001 := by omega
   have qM : IntKind.i64.wrap (1000 + q) = (M : Int) := by rw [IntKind.wrap_i64]; omega
   clear hM
   go_wp2_with fail
   refine (Uc M bH.out.src (by omega) (by omega)).mono ?_;rintro e w4 ⟨g, ds, rfl, hl, hb, ho, jH, aT, jj, aQ⟩;have jp := hid (bH.out.draw aT aQ);have HO : Hid (OwnL w4 (BS.rows ⟨5, some ⟨g, 0, none⟩, M, ds⟩)) := OwnL.one (by rw [show BS.v ⟨5, some ⟨g, 0, none⟩, M, ds⟩ = Q3 g M M from by simp only [BS.v, hl]]; exact ho.mono (fun b hb => Nat.zero_le _));have HG : Hid ((w.heap.size ≤ g ∧ ¬ g = N + 1 ∧ ¬ g = N ∧ ¬ g = B) ∧ ¬ O6 (StLogRecord.rows ⟨kd, tx, pv, pg, sl, ⟨bU, ⟨bE, bA, bC, bB⟩⟩, ⟨aU, ⟨aE, aA, aC, aB⟩⟩, un, nt, ⟨79, tA, tN, tC, tB⟩, ⟨81, dA, dN, dC, dB⟩, ⟨5, iA, iC, iB⟩⟩) g) := ⟨⟨by have := bH.out.kept.size; omega, by have := bH.out.res.lt; omega, by have := bH.out.box.lt; omega, jH⟩, fun e => by have := bH.out.own.lt g e; omega⟩
   have og : ∀ b, (BS.v ⟨5, some ⟨g, 0, none⟩, M, ds⟩).ownBlock = some b → b = g := fun b hb => by have e1 : g = b := (by simpa [Value.ownBlock, BS.v] using hb); exact e1.symm
   clear aT aQ bH ho jj;obtain ⟨s1, s2⟩ := XQ (u := true) jp.out.own HO.out (fun b hb => by rw [og b hb]; exact HG.out.2)
   have cC : Blk ((w4.setCell ⟨N, 5, none⟩ (.bool true)).setCell ⟨N, 6, none⟩ (Q3 g M M)) N 28 (O8 ⟨kd, tx, pv, pg, sl, ⟨true, ⟨5, some ⟨g, 0, none⟩, M, ds⟩⟩, ⟨aU, ⟨aE, aA, aC, aB⟩⟩, un, nt, ⟨79, tA, tN, tC, tB⟩, ⟨81, dA, dN, dC, dB⟩, ⟨5, iA, iC, iB⟩⟩) := by
    have h := (jp.out.box.stored 5 (.bool true)).stored 6 (Q3 g M M)
    have e1 : O8 ⟨kd, tx, pv, pg, sl, ⟨true, ⟨5, some ⟨g, 0, none⟩, M, ds⟩⟩, ⟨aU, ⟨aE, aA, aC, aB⟩⟩, un, nt, ⟨79, tA, tN, tC, tB⟩, ⟨81, dA, dN, dC, dB⟩, ⟨5, iA, iC, iB⟩⟩ = ((O8 ⟨kd, tx, pv, pg, sl, ⟨bU, ⟨bE, bA, bC, bB⟩⟩, ⟨aU, ⟨aE, aA, aC, aB⟩⟩, un, nt, ⟨79, tA, tN, tC, tB⟩, ⟨81, dA, dN, dC, dB⟩, ⟨5, iA, iC, iB⟩⟩).set 5 (.bool true)).set 6 (Q3 g M M) := by
     simp only [O8, BS.v, FR.v, hl];rfl
    rw [e1];exact h
   have bi : Kept (fun b => b = N) w4 ((w4.setCell ⟨N, 5, none⟩ (.bool true)).setCell ⟨N, 6, none⟩ (Q3 g M M)) := by
    iterate 2 refine Kept.setCell ?_ (.inr (by rfl)) _
    exact kZ0
   have HF := hid (jp.out.next2 ⟨kd, tx, pv, pg, sl, ⟨true, ⟨5, some ⟨g, 0, none⟩, M, ds⟩⟩, ⟨aU, ⟨aE, aA, aC, aB⟩⟩, un, nt, ⟨79, tA, tN, tC, tB⟩, ⟨81, dA, dN, dC, dB⟩, ⟨5, iA, iC, iB⟩⟩ cC bi s1 g HG.out.1 (fun b hb => (s2 b hb).imp_right (og b)) ⟨hb, jp.out.isB.2⟩ (by simp only [StLogRecord.szs, StPageRecord.szs]; omega));clear cC bi;have c5 : w4.cell? ⟨N, 5, none⟩ = some (.bool bU) := jp.out.box.cell 5;have c6 : w4.cell? ⟨N, 6, none⟩ = some (.slice bA bB.length bC) := jp.out.box.cell 6;have ff := jp.out.box.frozen;clear jp HO HG s1 s2 hl hb og
   go_wp2_with fail
   generalize World.setCell _ ⟨N, 6, none⟩ _ = w9 at HF ⊢
   go_meet
   case rel => exact ⟨rfl, HF.out.fin (by omega)⟩
  have e7 : (z == 7) = false := by simp [z7]
  clear z7
  by_cases z8 : z = 8
  ·subst z8
   as_aux_lemma =>
   have n0 : ∀ b, ¬ (BS.v ⟨0, none, 0, []⟩).ownBlock = some b := fun b h => by simp [BS.v, Value.ownBlock] at h
   have o0 : OwnL w2 (BS.rows ⟨0, none, 0, []⟩) := OwnL.one (Own.nil 0 0 .u8 w2);obtain ⟨s1, s2⟩ := XQ (u := false) bl.out.own o0 (fun b hb => absurd hb (n0 b));obtain ⟨s3, s4⟩ := jb7 (u := false) s1 o0 (fun b hb => absurd hb (n0 b))
   have fo : Kept (fun b => b = N) w2 ((((w2.setCell ⟨N, 5, none⟩ (.bool false)).setCell ⟨N, 6, none⟩ (Q4)).setCell ⟨N, 7, none⟩ (.bool false)).setCell ⟨N, 8, none⟩ (Q4)) := by
    iterate 4 refine Kept.setCell ?_ (.inr (by rfl)) _
    exact kZ0
   have HF := hid (bl.out.next2 ⟨kd, tx, pv, pg, sl, ⟨false, ⟨0, none, 0, []⟩⟩, ⟨false, ⟨0, none, 0, []⟩⟩, un, nt, ⟨79, tA, tN, tC, tB⟩, ⟨81, dA, dN, dC, dB⟩, ⟨5, iA, iC, iB⟩⟩ (wx := ((((w2.setCell ⟨N, 5, none⟩ (.bool false)).setCell ⟨N, 6, none⟩ (Q4)).setCell ⟨N, 7, none⟩ (.bool false)).setCell ⟨N, 8, none⟩ (Q4))) ((((bl.out.box.stored 5 (.bool false)).stored 6 (Q4)).stored 7 (.bool false)).stored 8 (Q4)) fo s3 (N + 2) ⟨by have := HN.out; omega, by omega, by omega, by have := HN.out; omega⟩ (fun b hb => .inl ((s4 b hb).elim (fun e => (s2 b e).elim id (fun e => absurd e (n0 b))) (fun e => absurd e (n0 b)))) ⟨fun y hy => absurd hy (by simp), fun y hy => absurd hy (by simp), bl.out.isB.2.2⟩ (by have := bl.out.szs; simp only [StLogRecord.szs, StPageRecord.szs, List.length_nil] at this ⊢; omega));have c5 : w2.cell? ⟨N, 5, none⟩ = some (.bool bU) := bl.out.box.cell 5;have c6 : w2.cell? ⟨N, 6, none⟩ = some (.slice bA bB.length bC) := bl.out.box.cell 6;have c7 : w2.cell? ⟨N, 7, none⟩ = some (.bool aU) := bl.out.box.cell 7;have c8 : w2.cell? ⟨N, 8, none⟩ = some (.slice aA aB.length aC) := bl.out.box.cell 8;have ff := bl.out.box.frozen;clear bl s1 s2 s3 s4 n0 o0 fo
   go_wp2_with fail
   generalize World.setCell _ ⟨N, 8, none⟩ _ = w9 at HF ⊢
   go_meet
   case rel => exact ⟨rfl, HF.out.fin (by omega)⟩
  have e8 : (z == 8) = false := by simp [z8]
  clear z8
  by_cases z9 : z = 9
  ·subst z9
   as_aux_lemma =>
   have aZ : Same w2 (w2.alloc (.cells #[Q1 (-1), Q1 1099511627776, Q1 1099511627777] 2)) := kZ0.alloc _;have eg := Blk.newL w2 [Q1 (-1), Q1 1099511627776, Q1 1099511627777] 2;obtain ⟨U, hU⟩ : ∃ U, w2.heap.size = U := ⟨_, rfl⟩;have iN := hid (bl.out.same aZ);rw [hU] at eg
   have tP : ¬ U = B := by have := bl.out.src.lt; omega
   have EU : ¬ U = N := by have := bl.out.box.lt; omega
   clear bl aZ
   go_wp2_with fail
   try rw [hU]
   generalize World.alloc _ _ = Cj at iN eg ⊢;clear hU;refine (Pd 3 iN.out.src (by omega) (by constructor <;> decide)).mono ?_;rintro e w3 ⟨q, rfl, hd, aT, aQ⟩;obtain ⟨fj, gV⟩ := hd.2 (by decide);have bH := hid (iN.out.draw aT aQ);have mD := eg.kept aQ tP;clear hd aT aQ iN eg;obtain ⟨q, rfl⟩ : ∃ m : Nat, q = (m : Int) := ⟨q.toNat, by omega⟩
   have sI : q < 3 := by omega
   obtain ⟨m, hm⟩ : ∃ m : Int, w3.cell? ⟨U, q, none⟩ = some (Q1 m) := by
    have h := mD.cell q
    rcases q with _ | _ | _ | q
    ·exact ⟨_, h⟩
    ·exact ⟨_, h⟩
    ·exact ⟨_, h⟩
    ·omega
   clear mD;have c0 : w3.cell? ⟨N, 9, none⟩ = some (Q1 un) := bH.out.box.cell 9;have f0 := bH.out.box.frozen 9;have HF := hid (bH.out.put ⟨kd, tx, pv, pg, sl, ⟨bU, ⟨bE, bA, bC, bB⟩⟩, ⟨aU, ⟨aE, aA, aC, aB⟩⟩, m, nt, ⟨79, tA, tN, tC, tB⟩, ⟨81, dA, dN, dC, dB⟩, ⟨5, iA, iC, iB⟩⟩ 9 (Q1 m) rfl rfl bH.out.isB rfl);clear bH
   go_wp2_with fail
   generalize World.setCell _ ⟨N, 9, none⟩ _ = w9 at HF ⊢
   go_meet
   case rel => exact ⟨rfl, HF.out.fin (by omega)⟩
  have e9 : (z == 9) = false := by simp [z9]
  clear z9
  by_cases bV : z = 10
  ·subst bV
   as_aux_lemma =>
   have aZ : Same w2 (w2.alloc (.cells #[Q1 0, Q1 2147483648, Q1 2147483649] 2)) := kZ0.alloc _;have eg := Blk.newL w2 [Q1 0, Q1 2147483648, Q1 2147483649] 2;obtain ⟨U, hU⟩ : ∃ U, w2.heap.size = U := ⟨_, rfl⟩;have iN := hid (bl.out.same aZ);rw [hU] at eg
   have tP : ¬ U = B := by have := bl.out.src.lt; omega
   have EU : ¬ U = N := by have := bl.out.box.lt; omega
   clear bl aZ
   go_wp2_with fail
   try rw [hU]
   generalize World.alloc _ _ = Cj at iN eg ⊢;clear hU;refine (Pd 3 iN.out.src (by omega) (by constructor <;> decide)).mono ?_;rintro e w3 ⟨q, rfl, hd, aT, aQ⟩;obtain ⟨fj, gV⟩ := hd.2 (by decide);have bH := hid (iN.out.draw aT aQ);have mD := eg.kept aQ tP;clear hd aT aQ iN eg;obtain ⟨q, rfl⟩ : ∃ m : Nat, q = (m : Int) := ⟨q.toNat, by omega⟩
   have sI : q < 3 := by omega
   obtain ⟨m, hm⟩ : ∃ m : Int, w3.cell? ⟨U, q, none⟩ = some (Q1 m) := by
    have h := mD.cell q
    rcases q with _ | _ | _ | q
    ·exact ⟨_, h⟩
    ·exact ⟨_, h⟩
    ·exact ⟨_, h⟩
    ·omega
   clear mD;have c0 : w3.cell? ⟨N, 10, none⟩ = some (Q1 nt) := bH.out.box.cell 10;have f0 := bH.out.box.frozen 10;have HF := hid (bH.out.put ⟨kd, tx, pv, pg, sl, ⟨bU, ⟨bE, bA, bC, bB⟩⟩, ⟨aU, ⟨aE, aA, aC, aB⟩⟩, un, m, ⟨79, tA, tN, tC, tB⟩, ⟨81, dA, dN, dC, dB⟩, ⟨5, iA, iC, iB⟩⟩ 10 (Q1 m) rfl rfl bH.out.isB rfl);clear bH
   go_wp2_with fail
   generalize World.setCell _ ⟨N, 10, none⟩ _ = w9 at HF ⊢
   go_meet
   case rel => exact ⟨rfl, HF.out.fin (by omega)⟩
  have ND : (z == 10) = false := by simp [bV]
  clear bV
  by_cases bW : z = 11
  ·subst bW
   as_aux_lemma =>
   have c0 : w2.cell? ⟨N, 11, none⟩ = some (.slice tA tN tC) := bl.out.box.cell 11;have iJ := bl.out.box.lt
   go_wp2_with (at_builtin; go_loud (refine Ue (tb := tB) rfl (.tmp 90) (.tmp 92) rfl rfl rfl (Blk.newL w2 [Q1 3, Q1 1, Q1 600, Q1 0] 79) ((bl.out.same (kZ0.alloc _)).own.right.right.left) (by omega) ?_); intro g cc w9 ho hg fH; have HF := hid (bl.out.appT _ ho hg fH (by simp only [StLogRecord.szs, StPageRecord.szs]; omega)); obtain ⟨_, c9, f9⟩ := HF.out; dsimp only [FR.v] at c9; clear c0 ho hg fH)
   have HF := hid HF.out.1;generalize World.setCell _ ⟨N, 11, none⟩ _ = w8 at HF ⊢
   go_meet
   case rel => exact ⟨rfl, HF.out.fin (by omega)⟩
  have Nn : (z == 11) = false := by simp [bW]
  clear bW
  by_cases bX : z = 12
  ·subst bX
   as_aux_lemma =>
   have c0 : w2.cell? ⟨N, 12, none⟩ = some (.slice dA dN dC) := bl.out.box.cell 12;have iJ := bl.out.box.lt
   go_wp2_with (at_builtin; go_loud (refine VL (tb := dB) rfl (.tmp 98) (.tmp 100) rfl rfl rfl (Blk.newL w2 [Q1 3, Q1 600] 81) ((bl.out.same (kZ0.alloc _)).own.right.right.right.left) (by omega) ?_); intro g cc w9 ho hg fH; have HF := hid (bl.out.appD _ ho hg fH (by simp only [StLogRecord.szs, StPageRecord.szs]; omega)); obtain ⟨_, c9, f9⟩ := HF.out; dsimp only [FR.v] at c9; clear c0 ho hg fH)
   have HF := hid HF.out.1;generalize World.setCell _ ⟨N, 12, none⟩ _ = w8 at HF ⊢
   go_meet
   case rel => exact ⟨rfl, HF.out.fin (by omega)⟩
  have ED : (z == 12) = false := by simp [bX]
  clear bX
  by_cases bY : z = 13
  ·subst bY
   as_aux_lemma =>
   have c0 : w2.cell? ⟨N, 11, none⟩ = some (.slice tA tN tC) := bl.out.box.cell 11
   by_cases hp : 0 < tN
   case neg =>
    have vG : ¬ (0 : Int) < (tN : Int) := by omega
    go_wp2_with fail
    go_meet
    case rel => exact ⟨rfl, bl.out.fin (by omega)⟩
   have vG : (0 : Int) < (tN : Int) := by omega
   rcases FR.own_form bl.out.own.right.right.left with ⟨h1, _, _⟩ | ⟨g, h1, h2, _, h4⟩
   ·have h1 : tN = 0 := h1
    omega
   dsimp only at h1 h2;subst h1;clear h2;clear h4
   go_wp2_with fail
   refine O0 (fun wx : World => D0 wx N 11 (Q3 g tN tC)) 7 8 ?_;generalize hwd : World.drew w2 = w7
   have cL : Same w2 w7 := by rw [← hwd]; exact kZ0.drew
   clear hwd;have ky := hid (bl.out.same cL);have hS : (fun wx : World => D0 wx N 11 (Q3 g tN tC)) w7 := ky.out.box.cell 11;clear bl cL;refine tk 0 109 hS ?_;refine tk 1 110 hS ?_;refine tk 2 111 hS ?_;refine o1Q 3 (fun K hK => ?_);go_simp;refine (Pd 2 ky.out.src (by omega) (by constructor <;> decide)).mono ?_;rintro e w3 ⟨q, rfl, hd, aT, aQ⟩;obtain ⟨fj, gV⟩ := hd.2 (by decide);have bH := hid (ky.out.draw aT aQ);have hS : (fun wx : World => D0 wx N 11 (Q3 g tN tC)) w3 := bH.out.box.cell 11;clear ky hd aT aQ
   go_wp2_with fail
   refine hK.out _ _ (fun _ => hS) ?_;clear hK K
   try simp only [Sp]
   have h4 : OwnF 4 79 w3 g tN tC tB := FR.own_one bH.out.own.right.right.left;have c1 := h4.cell 1 (by omega);have f1 := h4.frozen 1;obtain ⟨m, hm⟩ : ∃ m, IntKind.i64.wrap (4 * q) = m := ⟨_, rfl⟩;have HF := hid (bH.out.setT rfl 1 m);clear h4 bH;refine o1Q 4 (fun K hK => ?_);go_simp;refine hK.out _ _ (fun _ => hS) ?_;clear hK K
   try simp only [Sp]
   refine o1Q 5 (fun K hK => ?_);go_simp;refine hK.out _ _ (fun _ => hS) ?_;clear hK K
   try simp only [Sp]
   refine o1Q 6 (fun K hK => ?_);go_simp;refine hK.out _ _ (fun _ => hS) ?_;clear hK K
   try simp only [Sp]
   refine o1Q 7 (fun K hK => ?_);go_simp;refine hK.out _ _ (fun h => absurd rfl h) ?_;clear hK K;refine OZ ?_
   try simp only [Sp]
   clear hS c1 f1;generalize World.setCell _ ⟨g, 1, none⟩ _ = w9 at HF ⊢
   go_wp2_with fail
   go_meet
   case rel => exact ⟨rfl, HF.out.fin (by omega)⟩
  have GJ : (z == 13) = false := by simp [bY]
  clear bY
  by_cases gj : z = 14
  ·subst gj
   as_aux_lemma =>
   have c0 : w2.cell? ⟨N, 11, none⟩ = some (.slice tA tN tC) := bl.out.box.cell 11
   by_cases hp : 0 < tN
   case neg =>
    have vG : ¬ (0 : Int) < (tN : Int) := by omega
    go_wp2_with fail
    go_meet
    case rel => exact ⟨rfl, bl.out.fin (by omega)⟩
   have vG : (0 : Int) < (tN : Int) := by omega
   rcases FR.own_form bl.out.own.right.right.left with ⟨h1, _, _⟩ | ⟨g, h1, h2, _, h4⟩
   ·have h1 : tN = 0 := h1
    omega
   dsimp only at h1 h2;subst h1;clear h2;clear h4;obtain ⟨x2, qm⟩ : ∃ z, tB.getD 2 0 = z := ⟨_, rfl⟩;have HX := (show Hid (∀ wx, OwnF 4 79 wx g tN tC tB → D0 wx g 2 (Q1 x2)) from fun wx h => by rw [← qm]; exact h.cell 2 (by omega));clear qm
   go_wp2_with fail
   let Y1 : World → Prop := fun wx => D0 wx N 11 (Q3 g tN tC) ∧ D0 wx g 2 (Q1 x2)
   refine O0 Y1 12 13 ?_;generalize hwd : World.drew w2 = w7
   have cL : Same w2 w7 := by rw [← hwd]; exact kZ0.drew
   clear hwd;have ky := hid (bl.out.same cL);have hS : Y1 w7 := ⟨ky.out.box.cell 11, HX.out _ (FR.own_one ky.out.own.right.right.left)⟩;clear bl cL;refine tk 0 122 hS ?_;refine tk 1 123 hS ?_;refine tk 2 124 hS ?_;refine tk 3 125 hS ?_;refine tk 4 126 hS ?_;refine tk 5 127 hS ?_;refine tk 6 128 hS ?_;refine tk 7 129 hS ?_;refine o1Q 8 (fun K hK => ?_);go_simp;refine (Pd 2 ky.out.src (by omega) (by constructor <;> decide)).mono ?_;rintro e w3 ⟨q, rfl, hd, aT, aQ⟩;obtain ⟨fj, gV⟩ := hd.2 (by decide);have bH := hid (ky.out.draw aT aQ);have hS : Y1 w3 := ⟨bH.out.box.cell 11, HX.out _ (FR.own_one bH.out.own.right.right.left)⟩;clear ky hd aT aQ
   go_wp2_with fail
   refine hK.out _ _ (fun _ => hS) ?_;clear hK K
   try simp only [Sp]
   have h4 : OwnF 4 79 w3 g tN tC tB := FR.own_one bH.out.own.right.right.left;have c1 := h4.cell 3 (by omega);have f1 := h4.frozen 3;obtain ⟨m, hm⟩ : ∃ m, IntKind.i64.wrap (x2 + q) = m := ⟨_, rfl⟩;have HF := hid (bH.out.setT rfl 3 m);clear h4 bH HX;refine o1Q 9 (fun K hK => ?_);go_simp;refine hK.out _ _ (fun _ => hS) ?_;clear hK K
   try simp only [Sp]
   refine o1Q 10 (fun K hK => ?_);go_simp;refine hK.out _ _ (fun _ => hS) ?_;clear hK K
   try simp only [Sp]
   refine o1Q 11 (fun K hK => ?_);go_simp;refine hK.out _ _ (fun _ => hS) ?_;clear hK K
   try simp only [Sp]
   refine o1Q 12 (fun K hK => ?_);go_simp;refine hK.out _ _ (fun h => absurd rfl h) ?_;clear hK K;refine OZ ?_
   try simp only [Sp]
   clear hS c1 f1;generalize World.setCell _ ⟨g, 3, none⟩ _ = w9 at HF ⊢
   go_wp2_with fail
   go_meet
   case rel => exact ⟨rfl, HF.out.fin (by omega)⟩
  have NN : (z == 14) = false := by simp [gj]
  clear gj
  by_cases Ae : z = 15
  ·subst Ae
   as_aux_lemma =>
   go_wp2_with fail
   go_loopw [5] (fun i wr => ∃ j : Nat, j ≤ 9 ∧ i = Q1 (j : Int) ∧ Hid (∃ (ta : Option Addr) (tc : Nat) (tb : List Int), Bd4C w0 w B v cs (k + 1) size N (N + 1) ⟨kd, tx, pv, pg, sl, ⟨bU, ⟨bE, bA, bC, bB⟩⟩, ⟨aU, ⟨aE, aA, aC, aB⟩⟩, un, nt, ⟨79, tA, tN, tC, tB⟩, ⟨81, dA, dN, dC, dB⟩, ⟨5, iA, iC, iB⟩⟩ ⟨kd, tx, pv, pg, sl, ⟨bU, ⟨bE, bA, bC, bB⟩⟩, ⟨aU, ⟨aE, aA, aC, aB⟩⟩, un, nt, ⟨79, ta, tN + j, tc, tb⟩, ⟨81, dA, dN, dC, dB⟩, ⟨5, iA, iC, iB⟩⟩ wr)) (fun i _ => 9 - (intOf i).toNat)
   case atStart => exact ⟨0, by omega, rfl, ⟨tA, tC, tB, bl.out⟩⟩
   case round =>
   obtain ⟨j, hj, rfl, HL⟩ := hrel;obtain ⟨ta, tc, tb, G2⟩ := HL.out;have qB := hid G2;clear HL G2 bl;obtain ⟨L, hL⟩ : ∃ L, tN + j = L := ⟨_, rfl⟩;have uQ := hid hL;rw [hL] at qB
   have OP : L ≤ 6000 := by omega
   have Ot : j ≤ L := by omega
   have M5 : (bB.length : Int) + (aB.length : Int) + (L : Int) + (dN : Int) + (iB.length : Int) ≤ 5009 := by omega
   clear hL;have c0 : wr.cell? ⟨N, 11, none⟩ = some (.slice ta L tc) := qB.out.box.cell 11
   by_cases bg : j < 9
   case pos =>
    have MQ : (j : Int) < 9 := by omega
    have qj : IntKind.i64.wrap (100 + (j : Int)) = 100 + (j : Int) := by rw [IntKind.wrap_i64]; omega
    have iJ := qB.out.box.lt
    go_wp2_with (at_builtin; go_loud (refine Ue (tb := tb) rfl (.tmp 141) (.tmp 145) rfl rfl rfl (Blk.newL wr [Q1 (100 + (j : Int)), Q1 1, Q1 600, Q1 0] 79) ((qB.out.same (kZ0.alloc _)).own.right.right.left) (by omega) ?_); intro g cc w9 ho hg fH; have HF := hid (qB.out.appT _ ho hg fH (by simp only [StLogRecord.szs, StPageRecord.szs]; omega)); obtain ⟨_, c9, f9⟩ := HF.out; dsimp only [FR.v] at c9; clear c0 ho hg fH)
    have HF := hid HF.out.1;generalize World.setCell _ ⟨N, 11, none⟩ _ = w8 at HF ⊢;go_roundw
    case rel => exact ⟨j + 1, by omega, by go_num, ⟨some ⟨g, 0, none⟩, cc, _, by have h := HF.out; rw [← uQ.out] at h; exact h⟩⟩
    case measure => simp [intOf]; omega
   have MQ : ¬ (j : Int) < 9 := by omega
   have NJ : 9 ≤ L := by omega
   rcases FR.own_form qB.out.own.right.right.left with ⟨h1, _, _⟩ | ⟨g, h1, h2, _, h4⟩
   ·have h1 : L = 0 := h1
    omega
   dsimp only at h1 h2;subst h1;clear h4;obtain ⟨M8, Od⟩ : ∃ m : Nat, m + 8 = L := ⟨L - 8, by omega⟩
   have q5 : IntKind.i64.wrap ((L : Int) - 8) = (M8 : Int) := by rw [IntKind.wrap_i64]; omega
   go_wp2_with fail
   refine O0 (fun wx : World => D0 wx N 11 (Q3 g L tc)) 11 12 ?_;generalize hwd : World.drew wr = w7
   have cL : Same wr w7 := by rw [← hwd]; exact kZ0.drew
   clear hwd;have ky := hid (qB.out.same cL);have hS : (fun wx : World => D0 wx N 11 (Q3 g L tc)) w7 := ky.out.box.cell 11;clear qB cL;refine tk 0 148 hS ?_;refine tk 1 149 hS ?_;refine tk 2 150 hS ?_;refine tk 3 151 hS ?_;refine tk 4 152 hS ?_;refine tk 5 153 hS ?_;refine tk 6 154 hS ?_;refine o1Q 7 (fun K hK => ?_);go_simp;refine (Pd 2 ky.out.src (by omega) (by constructor <;> decide)).mono ?_;rintro e w3 ⟨q, rfl, hd, aT, aQ⟩;obtain ⟨fj, gV⟩ := hd.2 (by decide);have bH := hid (ky.out.draw aT aQ);have hS : (fun wx : World => D0 wx N 11 (Q3 g L tc)) w3 := bH.out.box.cell 11;clear ky hd aT aQ
   go_wp2_with fail
   refine hK.out _ _ (fun _ => hS) ?_;clear hK K
   try simp only [Sp]
   obtain ⟨lo, LV⟩ : ∃ m : Nat, (m : Int) = (M8 : Int) - q := ⟨((M8 : Int) - q).toNat, by omega⟩
   have q8 : IntKind.i64.wrap ((M8 : Int) - q) = (lo : Int) := by rw [IntKind.wrap_i64]; omega
   have oI : (lo : Int) ≤ (L : Int) := by omega
   have je : lo ≤ L := by omega
   have fu : ¬ tc = lo := by omega
   have pY : (L : Int) ≤ (tc : Int) := by omega
   have c3 : w3.cell? ⟨N, 11, none⟩ = some (Q3 g L tc) := bH.out.box.cell 11;have f3 := bH.out.box.frozen 11;clear LV;refine o1Q 8 (fun K hK => ?_);go_simp;refine hK.out _ _ (fun _ => hS) ?_;clear hK K
   try simp only [Sp]
   refine o1Q 9 (fun K hK => ?_);go_simp;refine hK.out _ _ (fun _ => hS) ?_;clear hK K
   try simp only [Sp]
   refine o1Q 10 (fun K hK => ?_);go_simp;refine hK.out _ _ (fun _ => hS) ?_;clear hK K
   try simp only [Sp]
   refine o1Q 11 (fun K hK => ?_);go_simp;refine hK.out _ _ (fun h => absurd rfl h) ?_;clear hK K;refine OZ ?_
   try simp only [Sp]
   clear hS c3 f3;have h4 : OwnF 4 79 w3 g L tc tb := FR.own_one bH.out.own.right.right.left;have cg : tb.length = L * 4 := FR.own_len bH.out.own.right.right.left;have xX : ¬ g = N := (bH.out.ft g ((OX _ _ _).2 (.inr ((OX _ _ _).2 (.inr ((OX _ _ _).2 (.inl ((PL _ _ g).2 rfl)))))))).2.2.1;have pE : Kept (fun b => b = N) w3 (w3.setCell ⟨N, 11, none⟩ (.slice (some ⟨g, lo * 4, none⟩) (L - lo) (tc - lo))) := Kept.setCell (R := fun b => b = N) kZ0 (.inr (by rfl)) _
   have HF := (show Hid (jbi w0 w B v cs k size N (N + 1) ⟨kd, tx, pv, pg, sl, ⟨bU, ⟨bE, bA, bC, bB⟩⟩, ⟨aU, ⟨aE, aA, aC, aB⟩⟩, un, nt, ⟨79, tA, tN, tC, tB⟩, ⟨81, dA, dN, dC, dB⟩, ⟨5, iA, iC, iB⟩⟩ (w3.setCell ⟨N, 11, none⟩ (.slice (some ⟨g, lo * 4, none⟩) (L - lo) (tc - lo)))) from bH.out.looseT ⟨79, some ⟨g, lo * 4, none⟩, L - lo, tc - lo, tb.drop (lo * 4)⟩ (bH.out.box.stored 11 _) (pE.mono (fun _ _ e => .inr e)) ⟨by show L - lo ≤ maxLen; unfold maxLen; omega, by show (tb.drop (lo * 4)).length = (L - lo) * 4; rw [List.length_drop, cg]; omega, .inr ⟨g, lo * 4, rfl, by show L - lo ≤ tc - lo; omega, fun i hi => by
     have hi : i < (L - lo) * 4 := hi;have h := pE.cellOf (h4.cell (lo * 4 + i) (by omega)) (fun e => xX e)
     have e1 : (tb.drop (lo * 4)).getD i 0 = tb.getD (lo * 4 + i) 0 := by simp [List.getD_eq_getElem?_getD]
     show _ = some (Value.int .i64 ((tb.drop (lo * 4)).getD i 0))
     rw [e1]
     exact h⟩⟩ (Nat.sub_le _ _) (fun b hb => hb) (bH.out.src.on pE (fun e => bH.out.yx.2.2.2.1 e.symm) (fun i hi e => by have e' : i = N := e; have := bH.out.yx; have := HN.out; omega)) (by omega))
   clear bH h4 cg xX pE q8 oI je fu pY q5;generalize World.setCell _ ⟨N, 11, none⟩ _ = w9 at HF ⊢
   go_wp2_with fail
   go_meet
   case rel => exact ⟨rfl, HF⟩
  have NA : (z == 15) = false := by simp [Ae]
  clear Ae
  by_cases AB : z = 16
  ·subst AB
   as_aux_lemma =>
   have c0 : w2.cell? ⟨N, 13, none⟩ = some (.slice iA iB.length iC) := bl.out.box.cell 13
   by_cases hi : iB.length = 4096
   case neg =>
    have Np : ((iB.length : Int) == 4096) = false := by simp; omega
    go_wp2_with fail
    go_meet
    case rel => exact ⟨rfl, bl.out.fin (by omega)⟩
   have hO := OwnL.of_one (k := .u8) bl.out.own.right.right.right.right;dsimp only [BS.v] at hO;obtain ⟨g, rfl⟩ := SB hO (by rw [hi]; decide);have ub := bl.out.ft g ((OX _ _ _).2 (.inr ((OX _ _ _).2 (.inr ((OX _ _ _).2 (.inr ((OX _ _ _).2 (.inr ((Qs _ g).2 rfl)))))))));rw [hi] at hO c0;have kB := jeX g iC iB bl.out.src (by omega) ub.2.2.2.1 ub.2.2.2.2 hi bl.out.isB.2.2 hO
   have Nf : iB.length ≤ 4096 := by omega
   have zk := hid hi;clear hi hO
   go_wp2_with fail
   refine kB.mono ?_;rintro e w3 ⟨off, n, c, ds, k3, rfl, hl, hn, hb, hR, aZ, iP, ai⟩;have xX : ¬ g = N := ub.2.2.1;have eg := bl.out.box.kept ai (fun e => e.elim (fun e => bl.out.yx.2.2.2.1 e) (fun e => xX e.symm));have c3 : w3.cell? ⟨N, 13, none⟩ = some (Q3 g iB.length iC) := eg.cell 13;have f3 := eg.frozen 13;have pE : Kept (fun b => b = N) w3 (w3.setCell ⟨N, 13, none⟩ (.slice (some ⟨g, off, none⟩) n c)) := Kept.setCell (R := fun b => b = N) kZ0 (.inr (by rfl)) _;have HF : Hid (jbi w0 w B v cs k size N (N + 1) ⟨kd, tx, pv, pg, sl, ⟨bU, ⟨bE, bA, bC, bB⟩⟩, ⟨aU, ⟨aE, aA, aC, aB⟩⟩, un, nt, ⟨79, tA, tN, tC, tB⟩, ⟨81, dA, dN, dC, dB⟩, ⟨5, some ⟨g, 0, none⟩, iC, iB⟩⟩ (w3.setCell ⟨N, 13, none⟩ (.slice (some ⟨g, off, none⟩) n c))) := bl.out.looseI ⟨5, some ⟨g, off, none⟩, c, ds⟩ (by have h := eg.stored 13 (.slice (some ⟨g, off, none⟩) n c); rw [← hl] at h ⊢; exact h) ((ai.mono (fun b _ e => e.elim .inl (fun e => .inr (.inr (by have e' : b = g := e; rw [e']; rfl))))).trans (pE.mono (fun _ _ e => .inr (.inl e)))) (by rw [show BS.v ⟨5, some ⟨g, off, none⟩, c, ds⟩ = .slice (some ⟨g, off, none⟩) n c from by simp only [BS.v, hl]]; exact hR.rd.kept pE (fun b hb e => by have e1 : g = b := (by simpa [Value.ownBlock] using hb); have e2 : b = N := e; exact xX (by omega))) hb (by show ds.length ≤ 4096; omega) (fun b hb => hb) (iP.on pE (fun e => bl.out.yx.2.2.2.1 e.symm) (fun i hi e => by have e' : i = N := e; have := bl.out.yx; have := HN.out; omega)) (by omega) (.inr (by show ds.length ≤ iB.length; have := zk.out; omega));clear bl kB eg pE hR hb iP ai hl hn zk ub
   go_wp2_with fail
   generalize World.setCell _ ⟨N, 13, none⟩ _ = w9 at HF ⊢
   go_meet
   case rel => exact ⟨rfl, HF⟩
  have MU : (z == 16) = false := by simp [AB]
  clear AB
  by_cases z17 : z = 17
  ·subst z17
   as_aux_lemma =>
   have c0 : w2.cell? ⟨N, 12, none⟩ = some (.slice dA dN dC) := bl.out.box.cell 12
   by_cases hp : 0 < dN
   case neg =>
    have vG : ¬ (0 : Int) < (dN : Int) := by omega
    go_wp2_with fail
    go_meet
    case rel => exact ⟨rfl, bl.out.fin (by omega)⟩
   have vG : (0 : Int) < (dN : Int) := by omega
   rcases FR.own_form bl.out.own.right.right.right.left with ⟨h1, _, _⟩ | ⟨g, h1, h2, _, h4⟩
   ·have h1 : dN = 0 := h1
    omega
   dsimp only at h1 h2;subst h1;clear h2;have h4 : OwnF 2 81 w2 g dN dC dB := h4;have c1 := h4.cell 1 (by omega);have f1 := h4.frozen 1;have HF := hid (bl.out.setD rfl 1 0);clear h4 bl
   go_wp2_with fail
   generalize World.setCell _ ⟨g, 1, none⟩ _ = w9 at HF ⊢
   go_meet
   case rel => exact ⟨rfl, HF.out.fin (by omega)⟩
  have NV : (z == 17) = false := by simp [z17]
  clear z17
  by_cases z18 : z = 18
  ·subst z18
   as_aux_lemma =>
   go_wp2_with fail
   refine (Uc 2 bl.out.src (by omega) (by omega)).mono ?_;rintro e w4 ⟨g, ds, rfl, hl, hb, ho, jH, aT, jj, aQ⟩;have jp := hid (bl.out.draw aT aQ);have HO : Hid (OwnL w4 (BS.rows ⟨5, some ⟨g, 0, none⟩, 2, ds⟩)) := OwnL.one (by rw [show BS.v ⟨5, some ⟨g, 0, none⟩, 2, ds⟩ = Q3 g 2 2 from by simp only [BS.v, hl]]; exact ho.mono (fun b hb => Nat.zero_le _));have HG : Hid ((w.heap.size ≤ g ∧ ¬ g = N + 1 ∧ ¬ g = N ∧ ¬ g = B) ∧ ¬ O6 (StLogRecord.rows ⟨kd, tx, pv, pg, sl, ⟨bU, ⟨bE, bA, bC, bB⟩⟩, ⟨aU, ⟨aE, aA, aC, aB⟩⟩, un, nt, ⟨79, tA, tN, tC, tB⟩, ⟨81, dA, dN, dC, dB⟩, ⟨5, iA, iC, iB⟩⟩) g) := ⟨⟨by have := bl.out.kept.size; omega, by have := bl.out.res.lt; omega, by have := bl.out.box.lt; omega, jH⟩, fun e => by have := bl.out.own.lt g e; omega⟩
   have og : ∀ b, (BS.v ⟨5, some ⟨g, 0, none⟩, 2, ds⟩).ownBlock = some b → b = g := fun b hb => by have e1 : g = b := (by simpa [Value.ownBlock, BS.v] using hb); exact e1.symm
   clear aT aQ bl ho jj;obtain ⟨s1, s2⟩ := jb8 jp.out.own HO.out (fun b hb => by rw [og b hb]; exact HG.out.2)
   have cC : Blk (w4.setCell ⟨N, 13, none⟩ (Q3 g 2 2)) N 28 (O8 ⟨kd, tx, pv, pg, sl, ⟨bU, ⟨bE, bA, bC, bB⟩⟩, ⟨aU, ⟨aE, aA, aC, aB⟩⟩, un, nt, ⟨79, tA, tN, tC, tB⟩, ⟨81, dA, dN, dC, dB⟩, ⟨5, some ⟨g, 0, none⟩, 2, ds⟩⟩) := by
    have h := jp.out.box.stored 13 (Q3 g 2 2)
    have e1 : O8 ⟨kd, tx, pv, pg, sl, ⟨bU, ⟨bE, bA, bC, bB⟩⟩, ⟨aU, ⟨aE, aA, aC, aB⟩⟩, un, nt, ⟨79, tA, tN, tC, tB⟩, ⟨81, dA, dN, dC, dB⟩, ⟨5, some ⟨g, 0, none⟩, 2, ds⟩⟩ = (O8 ⟨kd, tx, pv, pg, sl, ⟨bU, ⟨bE, bA, bC, bB⟩⟩, ⟨aU, ⟨aE, aA, aC, aB⟩⟩, un, nt, ⟨79, tA, tN, tC, tB⟩, ⟨81, dA, dN, dC, dB⟩, ⟨5, iA, iC, iB⟩⟩).set 13 (Q3 g 2 2) := by
     simp only [O8, BS.v, FR.v, hl];rfl
    rw [e1];exact h
   have bi : Kept (fun b => b = N) w4 (w4.setCell ⟨N, 13, none⟩ (Q3 g 2 2)) := Kept.setCell (R := fun b => b = N) kZ0 (.inr (by rfl)) _;have HF := hid (jp.out.next2 ⟨kd, tx, pv, pg, sl, ⟨bU, ⟨bE, bA, bC, bB⟩⟩, ⟨aU, ⟨aE, aA, aC, aB⟩⟩, un, nt, ⟨79, tA, tN, tC, tB⟩, ⟨81, dA, dN, dC, dB⟩, ⟨5, some ⟨g, 0, none⟩, 2, ds⟩⟩ cC bi s1 g HG.out.1 (fun b hb => (s2 b hb).imp_right (og b)) ⟨jp.out.isB.1, jp.out.isB.2.1, hb⟩ (by simp only [StLogRecord.szs, StPageRecord.szs]; omega));clear cC bi;have c6 : w4.cell? ⟨N, 13, none⟩ = some (.slice iA iB.length iC) := jp.out.box.cell 13;have ff := jp.out.box.frozen 13;clear jp HO HG s1 s2 hl hb og
   go_wp2_with fail
   generalize World.setCell _ ⟨N, 13, none⟩ _ = w9 at HF ⊢
   go_meet
   case rel => exact ⟨rfl, HF.out.fin (by omega)⟩
  have OR : (z == 18) = false := by simp [z18]
  clear z18
  by_cases z19 : z = 19
  ·subst z19
   as_aux_lemma =>
   obtain ⟨m, hm⟩ : ∃ m, IntKind.i64.wrap (sl + 1) = m := ⟨_, rfl⟩;have c0 : w2.cell? ⟨N, 4, none⟩ = some (Q1 sl) := bl.out.box.cell 4;have f0 := bl.out.box.frozen 4;have HF := hid (bl.out.put ⟨kd, tx, pv, pg, m, ⟨bU, ⟨bE, bA, bC, bB⟩⟩, ⟨aU, ⟨aE, aA, aC, aB⟩⟩, un, nt, ⟨79, tA, tN, tC, tB⟩, ⟨81, dA, dN, dC, dB⟩, ⟨5, iA, iC, iB⟩⟩ 4 (Q1 m) rfl rfl bl.out.isB rfl);clear bl
   go_wp2_with fail
   generalize World.setCell _ ⟨N, 4, none⟩ _ = w9 at HF ⊢
   go_meet
   case rel => exact ⟨rfl, HF.out.fin (by omega)⟩
  have NW : (z == 19) = false := by simp [z19]
  clear z19
  go_wp2_with fail
  go_meet
  case rel => exact ⟨rfl, bl.out.fin (by omega)⟩
 case rest =>
 obtain ⟨rfl, HI⟩ := hcut;clear bl;obtain ⟨y, k3, hb, hx, b9, ve, aZ, hs, ai, hB, hz⟩ := HI.out;have HB := hid hb;have HX := hid hx;have jg := hid b9;have sq := hid ve;have LO := hid hs;have j6 := hid ai;have rC := hid hB;clear HI hb hx b9 ve hs ai hB;obtain ⟨cl, gA⟩ : ∃ z, O8 y = z := ⟨_, rfl⟩;have lH := hid gA
 have lp : Hid (cl.length = 14) := by unfold Hid; rw [← gA]; rfl
 have DZ : Hid (cl.toArray.all (·.oneCell') = true) := by unfold Hid; rw [← gA]; exact PG _
 rw [gA] at HB;clear gA;have eo := hid (HX.out.there 0 cl.toArray.size (by rw [List.size_toArray, lp.out]; exact Nat.le_refl 14));have N9 := HX.out.lt
 go_wp2_with (first | (refine wpList_load_mid rfl 28 _ rfl N 0 rfl cl _ HB.out.rangeAll Tryz.underlying28 rfl (by rw [lp.out]; kernel_rfl) ?_) | (refine wpList_store_mid rfl 28 _ _ rfl (N + 1) 0 cl.toArray rfl rfl eo.out (by rw [List.size_toArray, lp.out]; kernel_rfl) DZ.out ?_; rw [List.toList_toArray]))
 have aX : Kept (fun b => b = N + 1) wc (wc.setCells (N + 1) 0 cl) := Kept.setCells (R := fun b => b = N + 1) (.inr rfl) _ _ kZ0
 have vZ : Blk (wc.setCells (N + 1) 0 cl) (N + 1) 28 cl := by
  have h1 := HX.out.setCells cl 0 (by rw [lp.out]; exact Nat.le_refl 14)
  rwa [lay_all _ _ (by rw [lp.out]; rfl)] at h1
 generalize wc.setCells (N + 1) 0 cl = wz at aX vZ ⊢;refine bodyPost_ret (v := .agg cl.toArray) (UL Tryz.results58 rfl vZ.rangeAll Tryz.underlying28 rfl (by rw [lp.out]; kernel_rfl)) rfl ?_;have Hb := HN.out;refine ⟨y, k3, by rw [lH.out], ?_, fun b hb => ⟨(sq.out b hb).1, (sq.out b hb).2.2.2.2⟩, aZ, LO.out.on aX (fun e => by omega) (fun i hi e => by have e' : i = N + 1 := e; omega), j6.out.next aX (fun i hi e => by have e' : i = N + 1 := e; omega), rC.out, hz⟩;have dT : ∀ b, O6 y.rows b → ¬ b = N + 1 := fun b hb => (sq.out b hb).2.1;obtain ⟨r1, r2, r3, r4, r5⟩ := jg.out;refine ⟨r1.kept aX (fun b hb => dT b ?_), r2.kept aX (fun b hb => dT b ?_), r3.kept aX (fun b hb => dT b ?_), r4.kept aX (fun b hb => dT b ?_), r5.kept aX (fun b hb => dT b ?_)⟩
 ·exact (OX _ _ _).2 (.inl hb)
 ·exact (OX _ _ _).2 (.inr ((OX _ _ _).2 (.inl hb)))
 ·exact (OX _ _ _).2 (.inr ((OX _ _ _).2 (.inr ((OX _ _ _).2 (.inl ((PL _ _ b).2 hb))))))
 ·exact (OX _ _ _).2 (.inr ((OX _ _ _).2 (.inr ((OX _ _ _).2 (.inr ((OX _ _ _).2 (.inl ((PL _ _ b).2 hb))))))))
 ·exact (OX _ _ _).2 (.inr ((OX _ _ _).2 (.inr ((OX _ _ _).2 (.inr ((OX _ _ _).2 (.inr ((Qs _ b).2 hb))))))))
theorem jdn {w0 w : World} {B : Nat} {v : Value} {cs : List Int} {k : Nat} {size : Int} (h : SrcR w0 w B v cs k size) (hk : k ≤ 1073000000) (hw : w0.heap.size ≤ w.heap.size) (r : StLogRecord) (hr : RcB r) (ho : OwnL w r.rows) (hf : ∀ b, O6 r.rows b → ¬ b = B ∧ w0.heap.size ≤ b) :
  Calls Tryz.prog 58 #[Q2 B 0, .agg (O8 r).toArray] w fun e w' => je9 w0 w w' e B v cs k size r := by
 have nF : ∀ {m : Nat} {e e' : TypeId} {a : Option Addr} {n c : Nat} {bs : List Int}, (e = e' ∨ a = none) → OwnL w (FR.rows m ⟨e, a, n, c, bs⟩) → OwnL w (FR.rows m ⟨e', a, n, c, bs⟩) := fun {m e e' a n c bs} h ho => by
  rcases h with h | h
  ·rw [← h]
   exact ho
  ·subst h
   refine ⟨fun r hr => ?_, List.pairwise_singleton _ _⟩;rw [List.mem_singleton.1 hr]
   rcases FR.own_one ho with ⟨h1, h2 | ⟨_, _, _, h2, _⟩⟩
   ·exact ⟨h1, .inl h2⟩
   ·cases h2
 have nB : ∀ {e e' : TypeId} {a : Option Addr} {c : Nat} {bs : List Int}, (e = e' ∨ a = none) → OwnL w (BS.rows ⟨e, a, c, bs⟩) → OwnL w (BS.rows ⟨e', a, c, bs⟩) := fun {e e' a c bs} h ho => by
  rcases h with h | h
  ·rw [← h]
   exact ho
  ·subst h
   refine ⟨fun r hr => ?_, List.pairwise_singleton _ _⟩;rw [List.mem_singleton.1 hr]
   rcases ho.own _ (List.mem_singleton.2 rfl) with ⟨h1, h2 | ⟨_, _, _, h2, _⟩⟩
   ·exact ⟨h1, .inl h2⟩
   ·cases h2
 obtain ⟨kd, tx, pv, pg, sl, be, af, un, nt, ⟨tE, tA, tN, tC, tB⟩, ⟨dE, dA, dN, dC, dB⟩, ⟨iE, iA, iC, iB⟩⟩ := r;obtain ⟨⟨b1, b2, b3, t1, t2, t3⟩, hz⟩ := hr
 have eF : ∀ b, O6 (StLogRecord.rows ⟨kd, tx, pv, pg, sl, be, af, un, nt, ⟨79, tA, tN, tC, tB⟩, ⟨81, dA, dN, dC, dB⟩, ⟨5, iA, iC, iB⟩⟩) b ↔ O6 (StLogRecord.rows ⟨kd, tx, pv, pg, sl, be, af, un, nt, ⟨tE, tA, tN, tC, tB⟩, ⟨dE, dA, dN, dC, dB⟩, ⟨iE, iA, iC, iB⟩⟩) b := fun b => by
  simp only [StLogRecord.rows, OX, PL, Qs, FR.v, BS.v]
 have hO : OwnL w (StLogRecord.rows ⟨kd, tx, pv, pg, sl, be, af, un, nt, ⟨79, tA, tN, tC, tB⟩, ⟨81, dA, dN, dC, dB⟩, ⟨5, iA, iC, iB⟩⟩) := by
  refine ⟨fun r hr => ?_, ?_⟩
  ·simp only [StLogRecord.rows, List.mem_append] at hr
   rcases hr with hr | hr | hr | hr | hr
   ·exact ho.left.own r hr
   ·exact ho.right.left.own r hr
   ·exact (nF t1 ho.right.right.left).own r hr
   ·exact (nF t2 ho.right.right.right.left).own r hr
   ·exact (nB t3 ho.right.right.right.right).own r hr
  ·have eV : (StLogRecord.rows ⟨kd, tx, pv, pg, sl, be, af, un, nt, ⟨79, tA, tN, tC, tB⟩, ⟨81, dA, dN, dC, dB⟩, ⟨5, iA, iC, iB⟩⟩).map Row.v = (StLogRecord.rows ⟨kd, tx, pv, pg, sl, be, af, un, nt, ⟨tE, tA, tN, tC, tB⟩, ⟨dE, dA, dN, dC, dB⟩, ⟨iE, iA, iC, iB⟩⟩).map Row.v := by
    simp [StLogRecord.rows, FR.rows, BS.rows, ints, FR.v, BS.v]
   refine (List.pairwise_map (f := Row.v) (R := fun a b => Apart a b)).1 ?_;rw [eV];exact (List.pairwise_map (f := Row.v) (R := fun a b => Apart a b)).2 ho.apart
 refine (jdm h hk hw ⟨kd, tx, pv, pg, sl, be, af, un, nt, ⟨79, tA, tN, tC, tB⟩, ⟨81, dA, dN, dC, dB⟩, ⟨5, iA, iC, iB⟩⟩ ⟨⟨b1, b2, b3, .inl rfl, .inl rfl, .inl rfl⟩, hz⟩ rfl rfl rfl hO (fun b hb => hf b ((eF b).1 hb))).mono ?_;rintro e w' ⟨y, k', h1, h2, h3, h4, h5, h6, h7⟩;exact ⟨y, k', h1, h2, fun b hb => ⟨(h3 b hb).1.imp_left (eF b).1, (h3 b hb).2⟩, h4, h5, h6.mono (fun b _ e => e.imp_right (eF b).1), h7⟩
end Go.Proofs.YtapdfgkbhaoelaaGreatDoor
