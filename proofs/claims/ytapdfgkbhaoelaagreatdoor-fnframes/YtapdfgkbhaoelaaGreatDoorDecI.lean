import Derived.Test.YtapdfgkbhaoelaaGreatDoorG34
import Derived.Test.YtapdfgkbhaoelaaGreatDoorG31
namespace Go.Proofs.YtapdfgkbhaoelaaGreatDoor
set_option maxRecDepth 100000
set_option maxHeartbeats 4000000
set_option linter.unusedVariables false
set_option linter.unusedSimpArgs false
open Go.RowKit
def StLogRecord.cells (y : StLogRecord) : List Value := [Q1 y.kind, Q1 y.txn, Q1 y.prev, Q1 y.page, Q1 y.slot, .bool y.before.used, y.before.data.v, .bool y.after.used, y.after.data.v, Q1 y.uN, Q1 y.nT, y.txns.v, y.dirty.v, y.image.v]
def zCells : List Value := [.bool false, Q1 0, Q1 0, Q1 0, Q1 0, Q1 0, .bool false, Q4, .bool false, Q4, Q1 0, Q1 0, Q4, Q4, Q4]
def nilB : BS := ⟨5, none, 0, []⟩
def jbj (e : TypeId) : FR := ⟨e, none, 0, 0, []⟩
def Rl (k t p : Int) : StLogRecord := ⟨k, t, p, 0, 0, ⟨false, nilB⟩, ⟨false, nilB⟩, 0, 0, jbj 79, jbj 81, nilB⟩
theorem Wi (w : World) : OwnL w nilB.rows := OwnL.one (Own.nil 0 _ .u8 _)
theorem Ta {b : Nat} (h : O6 nilB.rows b) : False := by have h := (Pv _ _ _ _ _).1 h; simp [nilB, BS.v, Value.ownBlock] at h
theorem Y9 (m : Nat) (e : TypeId) (w : World) : OwnL w ((jbj e).rows m) :=
 ⟨fun r hr => by rw [List.mem_singleton.1 hr]; exact ⟨by simp [vals, jbj], .inl ⟨rfl, rfl⟩⟩, List.pairwise_singleton _ _⟩
theorem Uj {m : Nat} {e : TypeId} {b : Nat} (h : O6 ((jbj e).rows m) b) : False := by have h := (PD _ _).1 h; simp [jbj, FR.v, Value.ownBlock] at h
theorem Wj (k t p : Int) (w : World) : OwnL w (Rl k t p).rows :=
 (Wi w).append ((Wi w).append ((Y9 _ _ w).append ((Y9 _ _ w).append (Wi w) (fun b h => (Uj h).elim)) (fun b h => (Uj h).elim)) (fun b h => (Ta h).elim)) (fun b h => (Ta h).elim)
theorem Vd {k t p : Int} {b : Nat} (h : O6 (Rl k t p).rows b) : False := by
 rcases (OX _ _ _).1 h with h | h
 ·exact Ta h
 rcases (OX _ _ _).1 h with h | h
 ·exact Ta h
 rcases (OX _ _ _).1 h with h | h
 ·exact Uj h
 rcases (OX _ _ _).1 h with h | h
 ·exact Uj h
 ·exact Ta h
structure DcI (w wx : World) (v : Value) (bs rs : List Int) (cu P R Z : Nat) (y : StLogRecord) : Prop where
 rs : RS wx w.heap.size P v bs rs cu
 box : Blk wx R 28 y.cells
 res : Blk wx Z 33 zCells
 kept : Same w wx
 own : OwnL wx y.rows
 foot : ∀ b, O6 y.rows b → w.heap.size ≤ b ∧ b ≠ P ∧ b ≠ R ∧ b ≠ Z
 pl : w.heap.size ≤ R ∧ w.heap.size ≤ Z ∧ P ≠ R ∧ P ≠ Z ∧ R ≠ Z
variable {w wx wy : World} {v : Value} {bs rs lz : List Int} {cu ig P R Z : Nat} {y y' : StLogRecord}
theorem DcI.read (h : DcI w wx v bs rs cu P R Z y) (hr : RS wy w.heap.size P v bs lz ig) (hk : Kept (fun b => b = P) wx wy) : DcI w wy v bs lz ig P R Z y :=
 ⟨hr, h.box.kept hk (fun e => h.pl.2.2.1 e.symm), h.res.kept hk (fun e => h.pl.2.2.2.1 e.symm), h.kept.next hk (fun i hi e => by have := h.rs.le; omega), h.own.kept hk (fun b hb e => (h.foot b hb).2.1 e), h.foot, h.pl⟩
theorem DcI.same (h : DcI w wx v bs rs cu P R Z y) (hk : Same wx wy) : DcI w wy v bs rs cu P R Z y :=
 ⟨h.rs.same hk, h.box.same hk, h.res.same hk, h.kept.trans hk, h.own.same hk, h.foot, h.pl⟩
theorem DcI.aside {X : Nat} (h : DcI w wx v bs rs cu P R Z y) (hk : Kept (fun b => b = X) wx wy) (h0 : w.heap.size ≤ X) (hP : X ≠ P) (hR : X ≠ R) (hZ : X ≠ Z) (hf : ∀ b, O6 y.rows b → b ≠ X) : DcI w wy v bs rs cu P R Z y :=
 ⟨h.rs.keep hk (fun e => hP e.symm) (fun b _ e => by omega), h.box.kept hk (fun e => hR e.symm), h.res.kept hk (fun e => hZ e.symm), h.kept.next hk (fun i hi e => by omega), h.own.kept hk (fun b hb e => hf b hb e), h.foot, h.pl⟩
theorem DcI.wrote (h : DcI w wx v bs rs cu P R Z y) (hk : Kept (fun b => b = R) wx wy) (hb : Blk wy R 28 y'.cells) (ho : OwnL wx y'.rows) (hf : ∀ b, O6 y'.rows b → w.heap.size ≤ b ∧ b ≠ P ∧ b ≠ R ∧ b ≠ Z) : DcI w wy v bs rs cu P R Z y' :=
 ⟨h.rs.keep hk (fun e => h.pl.2.2.1 e) (fun b _ e => by have := h.pl.1; omega), hb, h.res.kept hk (fun e => h.pl.2.2.2.2 e.symm), h.kept.next hk (fun i hi e => by have := h.pl.1; omega), ho.kept hk (fun b hb e => (hf b hb).2.2.1 e), hf, h.pl⟩
theorem DcI.num (h : DcI w wx v bs rs cu P R Z y) (j : Nat) (x : Value) (y' : StLogRecord) (hc : y'.cells = y.cells.set j x) (hr : y'.rows = y.rows) : DcI w (wx.setCell ⟨R, j, none⟩ x) v bs rs cu P R Z y' :=
 h.wrote ((Kept.refl (fun b => b = R) wx).setCell (p := ⟨R, j, none⟩) (.inr rfl) _) (by rw [hc]; exact h.box.stored j x) (hr ▸ h.own) (fun b hb => h.foot b (hr ▸ hb))
theorem OwnL.under {F : Nat → Prop} {A L L' : List Row} (h : OwnL wx (A ++ L)) (hk : Kept F wx wy) (hF : ∀ b, O6 A b → ¬ F b) (h' : OwnL wy L') (hf : ∀ b, O6 L' b → O6 L b ∨ wx.heap.size ≤ b) : OwnL wy (A ++ L') :=
 (h.left.kept hk hF).append h' (fun b h1 h2 => (hf b h2).elim (h.cut b h1) (fun n => by have := h.left.lt b h1; omega))
theorem QW {A L L' : List Row} {n : Nat} (hf : ∀ b, O6 L' b → O6 L b ∨ n ≤ b) : ∀ b, O6 (A ++ L') b → O6 (A ++ L) b ∨ n ≤ b := fun b hb =>
 ((OX _ _ _).1 hb).elim (fun h => .inl ((OX _ _ _).2 (.inl h))) (fun h => (hf b h).imp (fun h => (OX _ _ _).2 (.inr h)) id)
theorem XR {B B' C : List Row} {n : Nat} (hf : ∀ b, O6 B' b → O6 B b ∨ n ≤ b) : ∀ b, O6 (B' ++ C) b → O6 (B ++ C) b ∨ n ≤ b := fun b hb =>
 ((OX _ _ _).1 hb).elim (fun h => (hf b h).imp (fun h => (OX _ _ _).2 (.inl h)) id) (fun h => .inl ((OX _ _ _).2 (.inr h)))
theorem OwnL.swap {B B' C : List Row} (h : OwnL wx (B ++ C)) (hk : Kept (O6 B) wx wy) (h' : OwnL wy B') (hf : ∀ b, O6 B' b → O6 B b ∨ wx.heap.size ≤ b) : OwnL wy (B' ++ C) :=
 h'.append (h.right.kept hk (fun b h1 h2 => h.cut b h2 h1)) (fun b h1 h2 => (hf b h1).elim (fun h3 => h.cut b h3 h2) (fun n => by have := h.right.lt b h2; omega))
theorem DcI.next {wz : World} (h : DcI w wx v bs rs cu P R Z y) {F : Nat → Prop} (hk : Kept F wx wy) (hF : ∀ b, F b → O6 y.rows b) (ho : OwnL wy y'.rows) (hf : ∀ b, O6 y'.rows b → O6 y.rows b ∨ wx.heap.size ≤ b) (hz : Kept (fun b => b = R) wy wz) (hb : Blk wy R 28 y.cells → Blk wz R 28 y'.cells) : DcI w wz v bs rs cu P R Z y' := by
 have e1 := h.rs.lt;have e2 := h.box.lt;have e3 := h.res.lt;have e4 := h.kept.size;have e5 := hk.size;have g : ∀ b, F b → w.heap.size ≤ b ∧ b ≠ P ∧ b ≠ R ∧ b ≠ Z := fun b hb => h.foot b (hF b hb)
 have f' : ∀ b, O6 y'.rows b → w.heap.size ≤ b ∧ b ≠ P ∧ b ≠ R ∧ b ≠ Z := fun b hb => (hf b hb).elim (h.foot b) (fun n => by omega)
 have e6 := h.pl;exact ⟨(h.rs.keep hk (fun e => (g P e).2.1 rfl) (fun b _ e => (g b e).1)).keep hz (fun e => h.pl.2.2.1 e) (fun b _ e => by omega), hb (h.box.kept hk (fun e => (g R e).2.2.1 rfl)), (h.res.kept hk (fun e => (g Z e).2.2.2 rfl)).kept hz (fun e => h.pl.2.2.2.2 e.symm), (h.kept.next hk (fun i hi e => by have := (g i e).1; omega)).next hz (fun i hi e => by omega), ho.kept hz (fun b hb e => (f' b hb).2.2.1 e), f', h.pl⟩
theorem DcI.slotB (h : DcI w wx v bs rs cu P R Z y) (q : StPageRecord) (n : Nat) (hn : wx.heap.size ≤ n) (hr : RS wy w.heap.size P v bs lz ig) (aX : Kept (fun b => b = P) wx wy) (hq : OwnL wy q.rows) (hf : ∀ b, O6 q.rows b → n ≤ b) : DcI w ((wy.setCell ⟨R, 5, none⟩ (.bool q.used)).setCell ⟨R, 6, none⟩ q.data.v) v bs lz ig P R Z { y with before := q } := by
 have h1 := h.read hr aX;have ho := h1.own;refine h1.wrote (((Kept.refl (fun b => b = R) wy).setCell (p := ⟨R, 5, none⟩) (.inr rfl) _).setCell (p := ⟨R, 6, none⟩) (.inr rfl) _) ((h1.box.stored 5 _).stored 6 _) (hq.append ho.right (fun b hb hc => ?_)) (fun b hb => ?_)
 ·have := (h.own.right).lt b hc
  have := hf b hb;omega
 ·rcases (OX _ _ _).1 hb with h2 | h2
  ·have := hf b h2
   have e1 := h.rs.lt;have e2 := h.box.lt;have e3 := h.res.lt;have e4 := h.kept.size;omega
  ·exact h.foot b ((OX _ _ _).2 (.inr h2))
theorem DcI.slotA (h : DcI w wx v bs rs cu P R Z y) (q : StPageRecord) (n : Nat) (hn : wx.heap.size ≤ n) (hr : RS wy w.heap.size P v bs lz ig) (aX : Kept (fun b => b = P) wx wy) (hq : OwnL wy q.rows) (hf : ∀ b, O6 q.rows b → n ≤ b) : DcI w ((wy.setCell ⟨R, 7, none⟩ (.bool q.used)).setCell ⟨R, 8, none⟩ q.data.v) v bs lz ig P R Z { y with after := q } := by
 have h1 := h.read hr aX;have ho := h1.own;refine h1.wrote (((Kept.refl (fun b => b = R) wy).setCell (p := ⟨R, 7, none⟩) (.inr rfl) _).setCell (p := ⟨R, 8, none⟩) (.inr rfl) _) ((h1.box.stored 7 _).stored 8 _) (ho.left.append (hq.append ho.right.right (fun b hb hc => ?_)) (fun b hb hc => ?_)) (fun b hb => ?_)
 ·have := (h.own.right.right).lt b hc
  have := hf b hb;omega
 ·rcases (OX _ _ _).1 hc with h2 | h2
  ·have := (h.own.left).lt b hb
   have := hf b h2;omega
  ·exact h.own.cut b hb ((OX _ _ _).2 (.inr h2))
 ·rcases (OX _ _ _).1 hb with h2 | h2
  ·exact h.foot b ((OX _ _ _).2 (.inl h2))
  rcases (OX _ _ _).1 h2 with h2 | h2
  ·have := hf b h2
   have e1 := h.rs.lt;have e2 := h.box.lt;have e3 := h.res.lt;have e4 := h.kept.size;omega
  ·exact h.foot b ((OX _ _ _).2 (.inr ((OX _ _ _).2 (.inr h2))))
theorem DcI.img (h : DcI w wx v bs rs cu P R Z y) (q : BS) (hr : RS wy w.heap.size P v bs lz ig) (aX : Kept (fun b => b = P) wx wy) (hq : OwnL wy q.rows) (hf : ∀ b, O6 q.rows b → wx.heap.size ≤ b) : DcI w (wy.setCell ⟨R, 13, none⟩ q.v) v bs lz ig P R Z { y with image := q } := by
 have h1 := h.read hr aX;have hP : ∀ b, O6 y.rows b → ¬ b = P := fun b hb => (h.foot b hb).2.1;have o4 := h.own.right.right.right.under aX (fun b hb => hP b ((OX _ _ _).2 (.inr ((OX _ _ _).2 (.inr ((OX _ _ _).2 (.inr ((OX _ _ _).2 (.inl hb))))))))) hq (fun b hb => .inr (hf b hb));have f4 := QW (A := y.dirty.rows 2) (L := y.image.rows) (L' := q.rows) (n := wx.heap.size) (fun b hb => .inr (hf b hb));have o3 := h.own.right.right.under aX (fun b hb => hP b ((OX _ _ _).2 (.inr ((OX _ _ _).2 (.inr ((OX _ _ _).2 (.inl hb))))))) o4 f4;have f3 := QW (A := y.txns.rows 4) f4;have o2 := h.own.right.under aX (fun b hb => hP b ((OX _ _ _).2 (.inr ((OX _ _ _).2 (.inl hb))))) o3 f3;have f2 := QW (A := y.after.rows) f3;have o1 := h.own.under aX (fun b hb => hP b ((OX _ _ _).2 (.inl hb))) o2 f2;have f1 := QW (A := y.before.rows) f2;refine h1.wrote ((Kept.refl (fun b => b = R) wy).setCell (p := ⟨R, 13, none⟩) (.inr rfl) _) (h1.box.stored 13 _) o1 (fun b hb => ?_)
 rcases f1 b hb with h2 | h2
 ·exact h.foot b h2
 ·have e1 := h.rs.lt
  have e2 := h.box.lt;have e3 := h.res.lt;have e4 := h.kept.size;omega
theorem SF {m : Nat} {x : FR} {b : Nat} : O6 (x.rows m) b ↔ x.v.ownBlock = some b := PD _ _
theorem DcI.growT (h : DcI w wx v bs rs cu P R Z y) (hk : Kept (fun b => y.txns.v.ownBlock = some b) wx wy) (q : FR) (hq : OwnL wy (q.rows 4)) (hf : ∀ b, q.v.ownBlock = some b → y.txns.v.ownBlock = some b ∨ wx.heap.size ≤ b) : DcI w (wy.setCell ⟨R, 11, none⟩ q.v) v bs rs cu P R Z { y with txns := q } := by
 have aQ : Kept (O6 (y.txns.rows 4)) wx wy := hk.mono (fun b _ e => SF.2 e);have xU : ∀ b, O6 (q.rows 4) b → O6 (y.txns.rows 4) b ∨ wx.heap.size ≤ b := fun b hb => (hf b (SF.1 hb)).imp SF.2 id;have dT : ∀ b, O6 (y.txns.rows 4) b → O6 (y.txns.rows 4 ++ (y.dirty.rows 2 ++ y.image.rows)) b := fun b hb => (OX _ _ _).2 (.inl hb);have o3 := h.own.right.right.swap aQ hq xU;have f3 := XR (C := y.dirty.rows 2 ++ y.image.rows) xU;have o2 := h.own.right.under aQ (fun b hb hc => h.own.right.cut b hb (dT b hc)) o3 f3;have f2 := QW (A := y.after.rows) f3;have o1 := h.own.under aQ (fun b hb hc => h.own.cut b hb ((OX _ _ _).2 (.inr (dT b hc)))) o2 f2;have f1 := QW (A := y.before.rows) f2;exact h.next aQ (fun b hb => (OX _ _ _).2 (.inr ((OX _ _ _).2 (.inr (dT b hb))))) o1 f1 ((Kept.refl (fun b => b = R) wy).setCell (p := ⟨R, 11, none⟩) (.inr rfl) _) (fun hb => hb.stored 11 _)
theorem DcI.growD (h : DcI w wx v bs rs cu P R Z y) (hk : Kept (fun b => y.dirty.v.ownBlock = some b) wx wy) (q : FR) (hq : OwnL wy (q.rows 2)) (hf : ∀ b, q.v.ownBlock = some b → y.dirty.v.ownBlock = some b ∨ wx.heap.size ≤ b) : DcI w (wy.setCell ⟨R, 12, none⟩ q.v) v bs rs cu P R Z { y with dirty := q } := by
 have aQ : Kept (O6 (y.dirty.rows 2)) wx wy := hk.mono (fun b _ e => SF.2 e);have xU : ∀ b, O6 (q.rows 2) b → O6 (y.dirty.rows 2) b ∨ wx.heap.size ≤ b := fun b hb => (hf b (SF.1 hb)).imp SF.2 id;have dT : ∀ b, O6 (y.dirty.rows 2) b → O6 (y.dirty.rows 2 ++ y.image.rows) b := fun b hb => (OX _ _ _).2 (.inl hb);have rY : ∀ b, O6 (y.dirty.rows 2) b → O6 (y.txns.rows 4 ++ (y.dirty.rows 2 ++ y.image.rows)) b := fun b hb => (OX _ _ _).2 (.inr (dT b hb));have o4 := h.own.right.right.right.swap aQ hq xU;have f4 := XR (C := y.image.rows) xU;have o3 := h.own.right.right.under aQ (fun b hb hc => h.own.right.right.cut b hb (dT b hc)) o4 f4;have f3 := QW (A := y.txns.rows 4) f4;have o2 := h.own.right.under aQ (fun b hb hc => h.own.right.cut b hb (rY b hc)) o3 f3;have f2 := QW (A := y.after.rows) f3;have o1 := h.own.under aQ (fun b hb hc => h.own.cut b hb ((OX _ _ _).2 (.inr (rY b hc)))) o2 f2;have f1 := QW (A := y.before.rows) f2;exact h.next aQ (fun b hb => (OX _ _ _).2 (.inr ((OX _ _ _).2 (.inr (rY b hb))))) o1 f1 ((Kept.refl (fun b => b = R) wy).setCell (p := ⟨R, 12, none⟩) (.inr rfl) _) (fun hb => hb.stored 12 _)
theorem jb9 {e : TypeId} {w : World} {g n c : Nat} {bs : List Int} {x y z u : Int} (h : w.ownsRow 0 e 4 (Q3 g n c) n (vals .i64 bs ++ [Q1 x, Q1 y, Q1 z, Q1 u])) : OwnL w (FR.rows 4 ⟨e, some ⟨g, 0, none⟩, n, c, bs ++ [x, y, z, u]⟩) :=
 OwnF.out (by
  have e1 : vals .i64 bs ++ [Q1 x, Q1 y, Q1 z, Q1 u] = vals .i64 (bs ++ [x, y, z, u]) := by simp [vals]
  rw [e1] at h
  exact h)
theorem jca {e : TypeId} {w : World} {g n c : Nat} {bs : List Int} {x y : Int} (h : w.ownsRow 0 e 2 (Q3 g n c) n (vals .i64 bs ++ [Q1 x, Q1 y])) : OwnL w (FR.rows 2 ⟨e, some ⟨g, 0, none⟩, n, c, bs ++ [x, y]⟩) :=
 OwnF.out (by
  have e1 : vals .i64 bs ++ [Q1 x, Q1 y] = vals .i64 (bs ++ [x, y]) := by simp [vals]
  rw [e1] at h
  exact h)
theorem DcI.owntxns (h : DcI w wx v bs rs cu P R Z y) : wx.ownsRow 0 y.txns.e 4 y.txns.v y.txns.n (vals .i64 y.txns.bs) := h.own.right.right.left.1 _ (List.mem_singleton.2 rfl)
theorem DcI.owndirty (h : DcI w wx v bs rs cu P R Z y) : wx.ownsRow 0 y.dirty.e 2 y.dirty.v y.dirty.n (vals .i64 y.dirty.bs) := h.own.right.right.right.left.1 _ (List.mem_singleton.2 rfl)
theorem jd9 {e : TypeId} {g n c : Nat} {xs : List Int} {b : Nat} (h : (FR.v ⟨e, some ⟨g, 0, none⟩, n, c, xs⟩).ownBlock = some b) : g = b := by simpa [FR.v, Value.ownBlock] using h
theorem DcI.appT {o : Obj} {w9 : World} {g c : Nat} {x1 x2 x3 x4 : Int} (h : DcI w wx v bs rs cu P R Z y) (ha : Same wx (wx.alloc o)) (ho : w9.ownsRow 0 y.txns.e 4 (Q3 g (y.txns.n + 1) c) (y.txns.n + 1) (vals .i64 y.txns.bs ++ [Q1 x1, Q1 x2, Q1 x3, Q1 x4])) (hg : (wx.alloc o).grownBy w9 y.txns.v.ownBlock) (fH : y.txns.v.ownBlock = some g ∨ g = wx.heap.size + 1) (hs : (wx.alloc o).heap.size = wx.heap.size + 1) : DcI w (w9.setCell ⟨R, 11, none⟩ (Q3 g (y.txns.n + 1) c)) v bs rs cu P R Z { y with txns := ⟨y.txns.e, some ⟨g, 0, none⟩, y.txns.n + 1, c, y.txns.bs ++ [x1, x2, x3, x4]⟩ } :=
 (h.same ha).growT (Kept.of_grown hg (fun k e => e)) ⟨y.txns.e, some ⟨g, 0, none⟩, y.txns.n + 1, c, y.txns.bs ++ [x1, x2, x3, x4]⟩ (jb9 ho) (fun b hb => by have e := jd9 hb; subst e; exact fH.imp id (fun e => by omega))
theorem DcI.appD {o : Obj} {w9 : World} {g c : Nat} {x1 x2 : Int} (h : DcI w wx v bs rs cu P R Z y) (ha : Same wx (wx.alloc o)) (ho : w9.ownsRow 0 y.dirty.e 2 (Q3 g (y.dirty.n + 1) c) (y.dirty.n + 1) (vals .i64 y.dirty.bs ++ [Q1 x1, Q1 x2])) (hg : (wx.alloc o).grownBy w9 y.dirty.v.ownBlock) (fH : y.dirty.v.ownBlock = some g ∨ g = wx.heap.size + 1) (hs : (wx.alloc o).heap.size = wx.heap.size + 1) : DcI w (w9.setCell ⟨R, 12, none⟩ (Q3 g (y.dirty.n + 1) c)) v bs rs cu P R Z { y with dirty := ⟨y.dirty.e, some ⟨g, 0, none⟩, y.dirty.n + 1, c, y.dirty.bs ++ [x1, x2]⟩ } :=
 (h.same ha).growD (Kept.of_grown hg (fun k e => e)) ⟨y.dirty.e, some ⟨g, 0, none⟩, y.dirty.n + 1, c, y.dirty.bs ++ [x1, x2]⟩ (jca ho) (fun b hb => by have e := jd9 hb; subst e; exact fH.imp id (fun e => by omega))
theorem DcI.outtxns (h : DcI w wx v bs rs cu P R Z y) : ¬ y.txns.v.ownBlock = some R := fun e => (h.foot R ((OX _ _ _).2 (.inr ((OX _ _ _).2 (.inr ((OX _ _ _).2 (.inl (SF.2 e)))))))).2.2.1 rfl
theorem DcI.outdirty (h : DcI w wx v bs rs cu P R Z y) : ¬ y.dirty.v.ownBlock = some R := fun e => (h.foot R ((OX _ _ _).2 (.inr ((OX _ _ _).2 (.inr ((OX _ _ _).2 (.inr ((OX _ _ _).2 (.inl (SF.2 e)))))))))).2.2.1 rfl
theorem DcI.rest (h : DcI w wx v bs rs cu P R Z y) (h1 : rs = lz) (h2 : cu = ig) (h3 : y = y') : DcI w wx v bs lz ig P R Z y' := by subst h1 h2 h3; exact h
theorem Wl {xs : List Int} (n : Nat) (h : IsB xs) : IsB (QL xs n) := fun x hx => by
 unfold QL at hx
 rcases List.mem_append.1 hx with h1 | h1
 ·exact h x (List.mem_of_mem_take h1)
 ·rw [List.eq_of_mem_replicate h1]; omega
theorem IsB.drop {xs : List Int} (n : Nat) (h : IsB xs) : IsB (xs.drop n) := fun x hx => h x (List.mem_of_mem_drop hx)
theorem IsB.nil : IsB [] := fun x hx => by simp at hx
theorem Wm {xs : List Int} (h : IsB xs) : IsB (Qr nS QL xs).1.2 ∧ IsB (Qr nS QL xs).2 ∧ (Qr nS QL xs).1.2.length ≤ 65535 := by
 unfold Qr
 split
 ·have h2 := jcW (h.drop 1)
  refine ⟨Wl _ (h.drop 3), (h.drop 3).drop _, ?_⟩;simp only [QL, List.length_append, List.length_take, List.length_replicate];omega
 ·exact ⟨IsB.nil, h.drop 1, by simp⟩
theorem Yr {xs : List Int} (h : IsB xs) : 0 ≤ nS xs 1 ∧ nS xs 1 ≤ 255 := by
 have hl : (QL xs 1).length = 1 := by simp [QL]; omega
 have hb := Wl 1 h;unfold nS
 match hm : QL xs 1, hl with
 | [a], _ =>
  have ha := hb a (by rw [hm]; simp)
  have hn : num [a] = a := by simp [num]
  unfold Ps;rw [hn, if_neg (by simp only [List.length_cons, List.length_nil]; omega)];omega
def UQ (d : Uv) : Nat := d.2.2.2.2.2.1.2.length + d.2.2.2.2.2.2.1.2.length + d.2.2.2.2.2.2.2.2.2.1.length + d.2.2.2.2.2.2.2.2.2.2.1.length + d.2.2.2.2.2.2.2.2.2.2.2.length
theorem jdo (rs : List Int) (n : Nat) : (txL nS rs n).length = 4 * n := Rh (m := 4) (fun i => rfl) n
theorem jdp (rs : List Int) (n : Nat) : (dyL nS rs n).length = 2 * n := Rh (m := 2) (fun i => rfl) n
theorem Vy {k t p : Int} {r : List Int} (h : IsB r) : IsB (Pt nS QL k t p r).2.2.2.2.2.1.2 ∧ IsB (Pt nS QL k t p r).2.2.2.2.2.2.1.2 ∧ IsB (Pt nS QL k t p r).2.2.2.2.2.2.2.2.2.2.2 ∧ UQ (Pt nS QL k t p r) ≤ 140000 := by
 have s1 := Wm (h.drop 4);have s2 := Wm s1.2.1;unfold Pt UQ
 split
 ·exact ⟨s1.1, s2.1, IsB.nil, by have := s1.2.2; have := s2.2.2; simp only [List.length_nil]; omega⟩
 split
 ·exact ⟨IsB.nil, s1.1, IsB.nil, by have := s1.2.2; simp only [List.length_nil]; omega⟩
 split
 ·refine ⟨IsB.nil, IsB.nil, IsB.nil, ?_⟩
  have h1 := Yr (h.drop 4);have h2 := Yr ((h.drop 5).drop (21 * (nS (r.drop 4) 1).toNat));simp only [List.length_nil, jdo, jdp];omega
 split
 ·refine ⟨IsB.nil, IsB.nil, Wl _ (h.drop 2), ?_⟩
  simp only [QL, List.length_nil, List.length_append, List.length_take, List.length_replicate];omega
 ·exact ⟨IsB.nil, IsB.nil, IsB.nil, by simp only [List.length_nil]; omega⟩
end Go.Proofs.YtapdfgkbhaoelaaGreatDoor
