import Derived.Test.YtaojjcnmififoaaGreatG28
import Derived.Test.YtaojjcnmififoaaGreatG12
import Derived.Test.YtaojjcnmififoaaGreatG00
import Derived.Test.YtaojjcnmififoaaGreatG01
import Derived.Test.YtaojjcnmififoaaGreatG08
import Derived.Test.YtaojjcnmififoaaGreatG27
import Derived.Deep.DeepCutAuto
import Derived.Deep.RegionWith
import Derived.Deep.DeepMust
namespace Go.Proofs.YtaojjcnmififoaaGreat
set_option maxRecDepth 100000
set_option maxHeartbeats 16000000
set_option linter.unusedVariables false
set_option linter.unusedSimpArgs false
open Go.RowKit
def StLogRecord.cells (y : StLogRecord) : List Value := [.int .i64 y.kind, .int .i64 y.txn, .int .i64 y.prev, .int .i64 y.page, .int .i64 y.slot, .bool y.before.used, y.before.data.v, .bool y.after.used, y.after.data.v, .int .i64 y.uN, .int .i64 y.nT, y.txns.v, y.dirty.v, y.image.v]
def zCells : List Value := [.bool false, .int .i64 0, .int .i64 0, .int .i64 0, .int .i64 0, .int .i64 0, .bool false, .slice none 0 0, .bool false, .slice none 0 0, .int .i64 0, .int .i64 0, .slice none 0 0, .slice none 0 0, .slice none 0 0]
def nilB : BS := ⟨5, none, 0, []⟩
def jc5 (e : TypeId) : FR := ⟨e, none, 0, 0, []⟩
def TI (k t p : Int) : StLogRecord := ⟨k, t, p, 0, 0, ⟨false, nilB⟩, ⟨false, nilB⟩, 0, 0, jc5 96, jc5 98, nilB⟩
theorem Yt (w : World) : OwnL w nilB.rows := OwnL.one (Own.nil 0 _ .u8 _)
theorem Vg {b : Nat} (h : Rf nilB.rows b) : False := by have h := (RF _ _ _ _ _).1 h; simp [nilB, BS.v, Value.ownBlock] at h
theorem jba (m : Nat) (e : TypeId) (w : World) : OwnL w ((jc5 e).rows m) :=
 ⟨fun r hr => by rw [List.mem_singleton.1 hr]; exact ⟨by simp [vals, jc5], .inl ⟨rfl, rfl⟩⟩, List.pairwise_singleton _ _⟩
theorem VN {m : Nat} {e : TypeId} {b : Nat} (h : Rf ((jc5 e).rows m) b) : False := by have h := (Rw _ _).1 h; simp [jc5, FR.v, Value.ownBlock] at h
theorem Yu (k t p : Int) (w : World) : OwnL w (TI k t p).rows :=
 (Yt w).append ((Yt w).append ((jba _ _ w).append ((jba _ _ w).append (Yt w) (fun b h => (VN h).elim)) (fun b h => (VN h).elim)) (fun b h => (Vg h).elim)) (fun b h => (Vg h).elim)
theorem Xq {k t p : Int} {b : Nat} (h : Rf (TI k t p).rows b) : False := by
 rcases (Q7 _ _ _).1 h with h | h
 ·exact Vg h
 rcases (Q7 _ _ _).1 h with h | h
 ·exact Vg h
 rcases (Q7 _ _ _).1 h with h | h
 ·exact VN h
 rcases (Q7 _ _ _).1 h with h | h
 ·exact VN h
 ·exact Vg h
structure DcI (w wx : World) (v : Value) (bs rs : List Int) (ez P R Z : Nat) (y : StLogRecord) : Prop where
 rs : RS wx w.heap.size P v bs rs ez
 box : Blk wx R 50 y.cells
 res : Blk wx Z 79 zCells
 kept : Same w wx
 own : OwnL wx y.rows
 foot : ∀ b, Rf y.rows b → w.heap.size ≤ b ∧ b ≠ P ∧ b ≠ R ∧ b ≠ Z
 pl : w.heap.size ≤ R ∧ w.heap.size ≤ Z ∧ P ≠ R ∧ P ≠ Z ∧ R ≠ Z
variable {w wx wy : World} {v : Value} {bs rs kC : List Int} {ez jM P R Z : Nat} {y y' : StLogRecord}
theorem DcI.read (h : DcI w wx v bs rs ez P R Z y) (hr : RS wy w.heap.size P v bs kC jM) (hk : Kept (fun b => b = P) wx wy) : DcI w wy v bs kC jM P R Z y :=
 ⟨hr, h.box.kept hk (fun e => h.pl.2.2.1 e.symm), h.res.kept hk (fun e => h.pl.2.2.2.1 e.symm), h.kept.next hk (fun i hi e => by have := h.rs.le; omega), h.own.kept hk (fun b hb e => (h.foot b hb).2.1 e), h.foot, h.pl⟩
theorem DcI.same (h : DcI w wx v bs rs ez P R Z y) (hk : Same wx wy) : DcI w wy v bs rs ez P R Z y :=
 ⟨h.rs.same hk, h.box.same hk, h.res.same hk, h.kept.trans hk, h.own.same hk, h.foot, h.pl⟩
theorem DcI.aside {X : Nat} (h : DcI w wx v bs rs ez P R Z y) (hk : Kept (fun b => b = X) wx wy) (h0 : w.heap.size ≤ X) (hP : X ≠ P) (hR : X ≠ R) (hZ : X ≠ Z) (hf : ∀ b, Rf y.rows b → b ≠ X) : DcI w wy v bs rs ez P R Z y :=
 ⟨h.rs.keep hk (fun e => hP e.symm) (fun b _ e => by omega), h.box.kept hk (fun e => hR e.symm), h.res.kept hk (fun e => hZ e.symm), h.kept.next hk (fun i hi e => by omega), h.own.kept hk (fun b hb e => hf b hb e), h.foot, h.pl⟩
theorem DcI.wrote (h : DcI w wx v bs rs ez P R Z y) (hk : Kept (fun b => b = R) wx wy) (hb : Blk wy R 50 y'.cells) (ho : OwnL wx y'.rows) (hf : ∀ b, Rf y'.rows b → w.heap.size ≤ b ∧ b ≠ P ∧ b ≠ R ∧ b ≠ Z) : DcI w wy v bs rs ez P R Z y' :=
 ⟨h.rs.keep hk (fun e => h.pl.2.2.1 e) (fun b _ e => by have := h.pl.1; omega), hb, h.res.kept hk (fun e => h.pl.2.2.2.2 e.symm), h.kept.next hk (fun i hi e => by have := h.pl.1; omega), ho.kept hk (fun b hb e => (hf b hb).2.2.1 e), hf, h.pl⟩
theorem DcI.num (h : DcI w wx v bs rs ez P R Z y) (j : Nat) (x : Value) (y' : StLogRecord) (hc : y'.cells = y.cells.set j x) (hr : y'.rows = y.rows) : DcI w (wx.setCell ⟨R, j, none⟩ x) v bs rs ez P R Z y' :=
 h.wrote ((Kept.refl (fun b => b = R) wx).setCell (p := ⟨R, j, none⟩) (.inr rfl) _) (by rw [hc]; exact h.box.stored j x) (hr ▸ h.own) (fun b hb => h.foot b (hr ▸ hb))
theorem OwnL.under {F : Nat → Prop} {A L L' : List Row} (h : OwnL wx (A ++ L)) (hk : Kept F wx wy) (hF : ∀ b, Rf A b → ¬ F b) (h' : OwnL wy L') (hf : ∀ b, Rf L' b → Rf L b ∨ wx.heap.size ≤ b) : OwnL wy (A ++ L') :=
 (h.left.kept hk hF).append h' (fun b h1 h2 => (hf b h2).elim (h.cut b h1) (fun n => by have := h.left.lt b h1; omega))
theorem Tk {A L L' : List Row} {n : Nat} (hf : ∀ b, Rf L' b → Rf L b ∨ n ≤ b) : ∀ b, Rf (A ++ L') b → Rf (A ++ L) b ∨ n ≤ b := fun b hb =>
 ((Q7 _ _ _).1 hb).elim (fun h => .inl ((Q7 _ _ _).2 (.inl h))) (fun h => (hf b h).imp (fun h => (Q7 _ _ _).2 (.inr h)) id)
theorem ZN {B B' C : List Row} {n : Nat} (hf : ∀ b, Rf B' b → Rf B b ∨ n ≤ b) : ∀ b, Rf (B' ++ C) b → Rf (B ++ C) b ∨ n ≤ b := fun b hb =>
 ((Q7 _ _ _).1 hb).elim (fun h => (hf b h).imp (fun h => (Q7 _ _ _).2 (.inl h)) id) (fun h => .inl ((Q7 _ _ _).2 (.inr h)))
theorem OwnL.swap {B B' C : List Row} (h : OwnL wx (B ++ C)) (hk : Kept (Rf B) wx wy) (h' : OwnL wy B') (hf : ∀ b, Rf B' b → Rf B b ∨ wx.heap.size ≤ b) : OwnL wy (B' ++ C) :=
 h'.append (h.right.kept hk (fun b h1 h2 => h.cut b h2 h1)) (fun b h1 h2 => (hf b h1).elim (fun h3 => h.cut b h3 h2) (fun n => by have := h.right.lt b h2; omega))
theorem DcI.next {wz : World} (h : DcI w wx v bs rs ez P R Z y) {F : Nat → Prop} (hk : Kept F wx wy) (hF : ∀ b, F b → Rf y.rows b) (ho : OwnL wy y'.rows) (hf : ∀ b, Rf y'.rows b → Rf y.rows b ∨ wx.heap.size ≤ b) (hz : Kept (fun b => b = R) wy wz) (hb : Blk wy R 50 y.cells → Blk wz R 50 y'.cells) : DcI w wz v bs rs ez P R Z y' := by
 have e1 := h.rs.lt
 have e2 := h.box.lt
 have e3 := h.res.lt
 have e4 := h.kept.size
 have e5 := hk.size
 have g : ∀ b, F b → w.heap.size ≤ b ∧ b ≠ P ∧ b ≠ R ∧ b ≠ Z := fun b hb => h.foot b (hF b hb)
 have f' : ∀ b, Rf y'.rows b → w.heap.size ≤ b ∧ b ≠ P ∧ b ≠ R ∧ b ≠ Z := fun b hb => (hf b hb).elim (h.foot b) (fun n => by omega)
 have e6 := h.pl
 exact ⟨(h.rs.keep hk (fun e => (g P e).2.1 rfl) (fun b _ e => (g b e).1)).keep hz (fun e => h.pl.2.2.1 e) (fun b _ e => by omega), hb (h.box.kept hk (fun e => (g R e).2.2.1 rfl)), (h.res.kept hk (fun e => (g Z e).2.2.2 rfl)).kept hz (fun e => h.pl.2.2.2.2 e.symm), (h.kept.next hk (fun i hi e => by have := (g i e).1; omega)).next hz (fun i hi e => by omega), ho.kept hz (fun b hb e => (f' b hb).2.2.1 e), f', h.pl⟩
theorem DcI.slotB (h : DcI w wx v bs rs ez P R Z y) (q : StPageRecord) (n : Nat) (hn : wx.heap.size ≤ n) (hr : RS wy w.heap.size P v bs kC jM) (rp : Kept (fun b => b = P) wx wy) (hq : OwnL wy q.rows) (hf : ∀ b, Rf q.rows b → n ≤ b) : DcI w ((wy.setCell ⟨R, 5, none⟩ (.bool q.used)).setCell ⟨R, 6, none⟩ q.data.v) v bs kC jM P R Z { y with before := q } := by
 have h1 := h.read hr rp
 have ho := h1.own
 refine h1.wrote (((Kept.refl (fun b => b = R) wy).setCell (p := ⟨R, 5, none⟩) (.inr rfl) _).setCell (p := ⟨R, 6, none⟩) (.inr rfl) _) ((h1.box.stored 5 _).stored 6 _) (hq.append ho.right (fun b hb hc => ?_)) (fun b hb => ?_)
 ·have := (h.own.right).lt b hc
  have := hf b hb
  omega
 ·rcases (Q7 _ _ _).1 hb with h2 | h2
  ·have := hf b h2
   have e1 := h.rs.lt
   have e2 := h.box.lt
   have e3 := h.res.lt
   have e4 := h.kept.size
   omega
  ·exact h.foot b ((Q7 _ _ _).2 (.inr h2))
theorem DcI.slotA (h : DcI w wx v bs rs ez P R Z y) (q : StPageRecord) (n : Nat) (hn : wx.heap.size ≤ n) (hr : RS wy w.heap.size P v bs kC jM) (rp : Kept (fun b => b = P) wx wy) (hq : OwnL wy q.rows) (hf : ∀ b, Rf q.rows b → n ≤ b) : DcI w ((wy.setCell ⟨R, 7, none⟩ (.bool q.used)).setCell ⟨R, 8, none⟩ q.data.v) v bs kC jM P R Z { y with after := q } := by
 have h1 := h.read hr rp
 have ho := h1.own
 refine h1.wrote (((Kept.refl (fun b => b = R) wy).setCell (p := ⟨R, 7, none⟩) (.inr rfl) _).setCell (p := ⟨R, 8, none⟩) (.inr rfl) _) ((h1.box.stored 7 _).stored 8 _) (ho.left.append (hq.append ho.right.right (fun b hb hc => ?_)) (fun b hb hc => ?_)) (fun b hb => ?_)
 ·have := (h.own.right.right).lt b hc
  have := hf b hb
  omega
 ·rcases (Q7 _ _ _).1 hc with h2 | h2
  ·have := (h.own.left).lt b hb
   have := hf b h2
   omega
  ·exact h.own.cut b hb ((Q7 _ _ _).2 (.inr h2))
 ·rcases (Q7 _ _ _).1 hb with h2 | h2
  ·exact h.foot b ((Q7 _ _ _).2 (.inl h2))
  rcases (Q7 _ _ _).1 h2 with h2 | h2
  ·have := hf b h2
   have e1 := h.rs.lt
   have e2 := h.box.lt
   have e3 := h.res.lt
   have e4 := h.kept.size
   omega
  ·exact h.foot b ((Q7 _ _ _).2 (.inr ((Q7 _ _ _).2 (.inr h2))))
theorem DcI.img (h : DcI w wx v bs rs ez P R Z y) (q : BS) (hr : RS wy w.heap.size P v bs kC jM) (rp : Kept (fun b => b = P) wx wy) (hq : OwnL wy q.rows) (hf : ∀ b, Rf q.rows b → wx.heap.size ≤ b) : DcI w (wy.setCell ⟨R, 13, none⟩ q.v) v bs kC jM P R Z { y with image := q } := by
 have h1 := h.read hr rp
 have hP : ∀ b, Rf y.rows b → ¬ b = P := fun b hb => (h.foot b hb).2.1
 have o4 := h.own.right.right.right.under rp (fun b hb => hP b ((Q7 _ _ _).2 (.inr ((Q7 _ _ _).2 (.inr ((Q7 _ _ _).2 (.inr ((Q7 _ _ _).2 (.inl hb))))))))) hq (fun b hb => .inr (hf b hb))
 have f4 := Tk (A := y.dirty.rows 2) (L := y.image.rows) (L' := q.rows) (n := wx.heap.size) (fun b hb => .inr (hf b hb))
 have o3 := h.own.right.right.under rp (fun b hb => hP b ((Q7 _ _ _).2 (.inr ((Q7 _ _ _).2 (.inr ((Q7 _ _ _).2 (.inl hb))))))) o4 f4
 have f3 := Tk (A := y.txns.rows 4) f4
 have o2 := h.own.right.under rp (fun b hb => hP b ((Q7 _ _ _).2 (.inr ((Q7 _ _ _).2 (.inl hb))))) o3 f3
 have f2 := Tk (A := y.after.rows) f3
 have o1 := h.own.under rp (fun b hb => hP b ((Q7 _ _ _).2 (.inl hb))) o2 f2
 have f1 := Tk (A := y.before.rows) f2
 refine h1.wrote ((Kept.refl (fun b => b = R) wy).setCell (p := ⟨R, 13, none⟩) (.inr rfl) _) (h1.box.stored 13 _) o1 (fun b hb => ?_)
 rcases f1 b hb with h2 | h2
 ·exact h.foot b h2
 ·have e1 := h.rs.lt
  have e2 := h.box.lt
  have e3 := h.res.lt
  have e4 := h.kept.size
  omega
theorem UY {m : Nat} {x : FR} {b : Nat} : Rf (x.rows m) b ↔ x.v.ownBlock = some b := Rw _ _
theorem DcI.growT (h : DcI w wx v bs rs ez P R Z y) (hk : Kept (fun b => y.txns.v.ownBlock = some b) wx wy) (q : FR) (hq : OwnL wy (q.rows 4)) (hf : ∀ b, q.v.ownBlock = some b → y.txns.v.ownBlock = some b ∨ wx.heap.size ≤ b) : DcI w (wy.setCell ⟨R, 11, none⟩ q.v) v bs rs ez P R Z { y with txns := q } := by
 have li : Kept (Rf (y.txns.rows 4)) wx wy := hk.mono (fun b _ e => UY.2 e)
 have yb : ∀ b, Rf (q.rows 4) b → Rf (y.txns.rows 4) b ∨ wx.heap.size ≤ b := fun b hb => (hf b (UY.1 hb)).imp UY.2 id
 have m8 : ∀ b, Rf (y.txns.rows 4) b → Rf (y.txns.rows 4 ++ (y.dirty.rows 2 ++ y.image.rows)) b := fun b hb => (Q7 _ _ _).2 (.inl hb)
 have o3 := h.own.right.right.swap li hq yb
 have f3 := ZN (C := y.dirty.rows 2 ++ y.image.rows) yb
 have o2 := h.own.right.under li (fun b hb hc => h.own.right.cut b hb (m8 b hc)) o3 f3
 have f2 := Tk (A := y.after.rows) f3
 have o1 := h.own.under li (fun b hb hc => h.own.cut b hb ((Q7 _ _ _).2 (.inr (m8 b hc)))) o2 f2
 have f1 := Tk (A := y.before.rows) f2
 exact h.next li (fun b hb => (Q7 _ _ _).2 (.inr ((Q7 _ _ _).2 (.inr (m8 b hb))))) o1 f1 ((Kept.refl (fun b => b = R) wy).setCell (p := ⟨R, 11, none⟩) (.inr rfl) _) (fun hb => hb.stored 11 _)
theorem DcI.growD (h : DcI w wx v bs rs ez P R Z y) (hk : Kept (fun b => y.dirty.v.ownBlock = some b) wx wy) (q : FR) (hq : OwnL wy (q.rows 2)) (hf : ∀ b, q.v.ownBlock = some b → y.dirty.v.ownBlock = some b ∨ wx.heap.size ≤ b) : DcI w (wy.setCell ⟨R, 12, none⟩ q.v) v bs rs ez P R Z { y with dirty := q } := by
 have li : Kept (Rf (y.dirty.rows 2)) wx wy := hk.mono (fun b _ e => UY.2 e)
 have yb : ∀ b, Rf (q.rows 2) b → Rf (y.dirty.rows 2) b ∨ wx.heap.size ≤ b := fun b hb => (hf b (UY.1 hb)).imp UY.2 id
 have m8 : ∀ b, Rf (y.dirty.rows 2) b → Rf (y.dirty.rows 2 ++ y.image.rows) b := fun b hb => (Q7 _ _ _).2 (.inl hb)
 have vT : ∀ b, Rf (y.dirty.rows 2) b → Rf (y.txns.rows 4 ++ (y.dirty.rows 2 ++ y.image.rows)) b := fun b hb => (Q7 _ _ _).2 (.inr (m8 b hb))
 have o4 := h.own.right.right.right.swap li hq yb
 have f4 := ZN (C := y.image.rows) yb
 have o3 := h.own.right.right.under li (fun b hb hc => h.own.right.right.cut b hb (m8 b hc)) o4 f4
 have f3 := Tk (A := y.txns.rows 4) f4
 have o2 := h.own.right.under li (fun b hb hc => h.own.right.cut b hb (vT b hc)) o3 f3
 have f2 := Tk (A := y.after.rows) f3
 have o1 := h.own.under li (fun b hb hc => h.own.cut b hb ((Q7 _ _ _).2 (.inr (vT b hc)))) o2 f2
 have f1 := Tk (A := y.before.rows) f2
 exact h.next li (fun b hb => (Q7 _ _ _).2 (.inr ((Q7 _ _ _).2 (.inr (vT b hb))))) o1 f1 ((Kept.refl (fun b => b = R) wy).setCell (p := ⟨R, 12, none⟩) (.inr rfl) _) (fun hb => hb.stored 12 _)
theorem jdX {e : TypeId} {w : World} {g n c : Nat} {bs : List Int} {x y z u : Int} (h : w.ownsRow 0 e 4 (.slice (some ⟨g, 0, none⟩) n c) n (vals .i64 bs ++ [.int .i64 x, .int .i64 y, .int .i64 z, .int .i64 u])) : OwnL w (FR.rows 4 ⟨e, some ⟨g, 0, none⟩, n, c, bs ++ [x, y, z, u]⟩) :=
 OwnF.out (by
  have e1 : vals .i64 bs ++ [.int .i64 x, .int .i64 y, .int .i64 z, .int .i64 u] = vals .i64 (bs ++ [x, y, z, u]) := by simp [vals]
  rw [e1] at h
  exact h)
theorem jdY {e : TypeId} {w : World} {g n c : Nat} {bs : List Int} {x y : Int} (h : w.ownsRow 0 e 2 (.slice (some ⟨g, 0, none⟩) n c) n (vals .i64 bs ++ [.int .i64 x, .int .i64 y])) : OwnL w (FR.rows 2 ⟨e, some ⟨g, 0, none⟩, n, c, bs ++ [x, y]⟩) :=
 OwnF.out (by
  have e1 : vals .i64 bs ++ [.int .i64 x, .int .i64 y] = vals .i64 (bs ++ [x, y]) := by simp [vals]
  rw [e1] at h
  exact h)
theorem DcI.owntxns (h : DcI w wx v bs rs ez P R Z y) : wx.ownsRow 0 y.txns.e 4 y.txns.v y.txns.n (vals .i64 y.txns.bs) := h.own.right.right.left.1 _ (List.mem_singleton.2 rfl)
theorem DcI.owndirty (h : DcI w wx v bs rs ez P R Z y) : wx.ownsRow 0 y.dirty.e 2 y.dirty.v y.dirty.n (vals .i64 y.dirty.bs) := h.own.right.right.right.left.1 _ (List.mem_singleton.2 rfl)
theorem jeY {e : TypeId} {g n c : Nat} {xs : List Int} {b : Nat} (h : (FR.v ⟨e, some ⟨g, 0, none⟩, n, c, xs⟩).ownBlock = some b) : g = b := by simpa [FR.v, Value.ownBlock] using h
theorem DcI.appT {o : Obj} {w9 : World} {g c : Nat} {x1 x2 x3 x4 : Int} (h : DcI w wx v bs rs ez P R Z y) (ha : Same wx (wx.alloc o)) (ho : w9.ownsRow 0 y.txns.e 4 (.slice (some ⟨g, 0, none⟩) (y.txns.n + 1) c) (y.txns.n + 1) (vals .i64 y.txns.bs ++ [.int .i64 x1, .int .i64 x2, .int .i64 x3, .int .i64 x4])) (hg : (wx.alloc o).grownBy w9 y.txns.v.ownBlock) (fk : y.txns.v.ownBlock = some g ∨ g = wx.heap.size + 1) (hs : (wx.alloc o).heap.size = wx.heap.size + 1) : DcI w (w9.setCell ⟨R, 11, none⟩ (.slice (some ⟨g, 0, none⟩) (y.txns.n + 1) c)) v bs rs ez P R Z { y with txns := ⟨y.txns.e, some ⟨g, 0, none⟩, y.txns.n + 1, c, y.txns.bs ++ [x1, x2, x3, x4]⟩ } :=
 (h.same ha).growT (Kept.of_grown hg (fun k e => e)) ⟨y.txns.e, some ⟨g, 0, none⟩, y.txns.n + 1, c, y.txns.bs ++ [x1, x2, x3, x4]⟩ (jdX ho) (fun b hb => by have e := jeY hb; subst e; exact fk.imp id (fun e => by omega))
theorem DcI.appD {o : Obj} {w9 : World} {g c : Nat} {x1 x2 : Int} (h : DcI w wx v bs rs ez P R Z y) (ha : Same wx (wx.alloc o)) (ho : w9.ownsRow 0 y.dirty.e 2 (.slice (some ⟨g, 0, none⟩) (y.dirty.n + 1) c) (y.dirty.n + 1) (vals .i64 y.dirty.bs ++ [.int .i64 x1, .int .i64 x2])) (hg : (wx.alloc o).grownBy w9 y.dirty.v.ownBlock) (fk : y.dirty.v.ownBlock = some g ∨ g = wx.heap.size + 1) (hs : (wx.alloc o).heap.size = wx.heap.size + 1) : DcI w (w9.setCell ⟨R, 12, none⟩ (.slice (some ⟨g, 0, none⟩) (y.dirty.n + 1) c)) v bs rs ez P R Z { y with dirty := ⟨y.dirty.e, some ⟨g, 0, none⟩, y.dirty.n + 1, c, y.dirty.bs ++ [x1, x2]⟩ } :=
 (h.same ha).growD (Kept.of_grown hg (fun k e => e)) ⟨y.dirty.e, some ⟨g, 0, none⟩, y.dirty.n + 1, c, y.dirty.bs ++ [x1, x2]⟩ (jdY ho) (fun b hb => by have e := jeY hb; subst e; exact fk.imp id (fun e => by omega))
theorem DcI.outtxns (h : DcI w wx v bs rs ez P R Z y) : ¬ y.txns.v.ownBlock = some R := fun e => (h.foot R ((Q7 _ _ _).2 (.inr ((Q7 _ _ _).2 (.inr ((Q7 _ _ _).2 (.inl (UY.2 e)))))))).2.2.1 rfl
theorem DcI.outdirty (h : DcI w wx v bs rs ez P R Z y) : ¬ y.dirty.v.ownBlock = some R := fun e => (h.foot R ((Q7 _ _ _).2 (.inr ((Q7 _ _ _).2 (.inr ((Q7 _ _ _).2 (.inr ((Q7 _ _ _).2 (.inl (UY.2 e)))))))))).2.2.1 rfl
theorem DcI.rest (h : DcI w wx v bs rs ez P R Z y) (h1 : rs = kC) (h2 : ez = jM) (h3 : y = y') : DcI w wx v bs kC jM P R Z y' := by subst h1 h2 h3; exact h
theorem Yv {xs : List Int} (n : Nat) (h : IsB xs) : IsB (SX xs n) := fun x hx => by
 unfold SX at hx
 rcases List.mem_append.1 hx with h1 | h1
 ·exact h x (List.mem_of_mem_take h1)
 ·rw [List.eq_of_mem_replicate h1]; omega
theorem IsB.drop {xs : List Int} (n : Nat) (h : IsB xs) : IsB (xs.drop n) := fun x hx => h x (List.mem_of_mem_drop hx)
theorem IsB.nil : IsB [] := fun x hx => by simp at hx
theorem Yw {xs : List Int} (h : IsB xs) : IsB (Sz nS SX xs).1.2 ∧ IsB (Sz nS SX xs).2 ∧ (Sz nS SX xs).1.2.length ≤ 65535 := by
 unfold Sz
 split
 ·have h2 := jdW (h.drop 1)
  refine ⟨Yv _ (h.drop 3), (h.drop 3).drop _, ?_⟩
  simp only [SX, List.length_append, List.length_take, List.length_replicate]
  omega
 ·exact ⟨IsB.nil, h.drop 1, by simp⟩
theorem jao {xs : List Int} (h : IsB xs) : 0 ≤ nS xs 1 ∧ nS xs 1 ≤ 255 := by
 have hl : (SX xs 1).length = 1 := by simp [SX]; omega
 have hb := Yv 1 h
 unfold nS
 match hm : SX xs 1, hl with
 | [a], _ =>
  have ha := hb a (by rw [hm]; simp)
  have hn : num [a] = a := by simp [num]
  unfold RQ
  rw [hn, if_neg (by simp only [List.length_cons, List.length_nil]; omega)]
  omega
def WK (d : VT) : Nat := d.2.2.2.2.2.1.2.length + d.2.2.2.2.2.2.1.2.length + d.2.2.2.2.2.2.2.2.2.1.length + d.2.2.2.2.2.2.2.2.2.2.1.length + d.2.2.2.2.2.2.2.2.2.2.2.length
theorem jeS (rs : List Int) (n : Nat) : (txL nS rs n).length = 4 * n := Tx (m := 4) (fun i => rfl) n
theorem jeT (rs : List Int) (n : Nat) : (dyL nS rs n).length = 2 * n := Tx (m := 2) (fun i => rfl) n
theorem XF {k t p : Int} {r : List Int} (h : IsB r) : IsB (Ru nS SX k t p r).2.2.2.2.2.1.2 ∧ IsB (Ru nS SX k t p r).2.2.2.2.2.2.1.2 ∧ IsB (Ru nS SX k t p r).2.2.2.2.2.2.2.2.2.2.2 ∧ WK (Ru nS SX k t p r) ≤ 140000 := by
 have s1 := Yw (h.drop 4)
 have s2 := Yw s1.2.1
 unfold Ru WK
 split
 ·exact ⟨s1.1, s2.1, IsB.nil, by have := s1.2.2; have := s2.2.2; simp only [List.length_nil]; omega⟩
 split
 ·exact ⟨IsB.nil, s1.1, IsB.nil, by have := s1.2.2; simp only [List.length_nil]; omega⟩
 split
 ·refine ⟨IsB.nil, IsB.nil, IsB.nil, ?_⟩
  have h1 := jao (h.drop 4)
  have h2 := jao ((h.drop 5).drop (21 * (nS (r.drop 4) 1).toNat))
  simp only [List.length_nil, jeS, jeT]
  omega
 split
 ·refine ⟨IsB.nil, IsB.nil, Yv _ (h.drop 2), ?_⟩
  simp only [SX, List.length_nil, List.length_append, List.length_take, List.length_replicate]
  omega
 ·exact ⟨IsB.nil, IsB.nil, IsB.nil, by simp only [List.length_nil]; omega⟩
structure StLog where
 sectors : Int
 epoch : Int
 stop : Int
 flushed : Int
 tail : BS
def StLog.val (x : StLog) : Value := .agg #[.int .i64 x.sectors, .int .i64 x.epoch, .int .i64 x.stop, .int .i64 x.flushed, x.tail.v]
def StLog.rows (x : StLog) : List Row := x.tail.rows
def StLog.dat (x : StLog) : Int × Int × Int × Int × List Int := (x.sectors, x.epoch, x.stop, x.flushed, x.tail.bs)
def StLog.size (x : StLog) : Int := (x.tail.bs.length : Int)
theorem StLog.size_le (x : StLog) : 0 ≤ x.size := by
 unfold StLog.size
 omega
def StLog.marked (x : StLog) (k : Int) : StLog := ⟨x.sectors, x.epoch, x.stop, x.flushed, x.tail.marked (k)⟩
theorem StLog.foot_marked (x : StLog) (k : Int) (b : Nat) : Rf (x.marked k).rows b ↔ Rf x.rows b := by
 exact BS.foot_marked _ _ b
def StLog.rd (w : World) (x : StLog) : Prop := Rd .u8 w x.tail.v x.tail.bs
theorem StLog.rd.kept {R : Nat → Prop} {w w' : World} {x : StLog} (h : StLog.rd w x) (hk : Kept R w w') (hr : ∀ b, Rf x.rows b → ¬ R b) : StLog.rd w' x :=
 Rd.kept (h) hk (fun b hb => hr b (((RF _ _ _ _ _).2 hb)))
theorem StLog.rd.same {w w' : World} {x : StLog} (h : StLog.rd w x) (hk : Same w w') : StLog.rd w' x := h.kept hk (fun _ _ => id)
theorem StLog.own_rd {w : World} {x : StLog} (h : OwnL w x.rows) : StLog.rd w x :=
 (OwnL.of_one h).rd
def StLog.szs (x : StLog) : Int := (x.tail.bs.length : Int)
theorem StLog.szs_le (x : StLog) : 0 ≤ x.szs := by
 unfold StLog.szs
 omega
def Sw (s l : Int) : Int := if (16 ≤ s ∧ s ≤ 800) ∧ (512 ≤ l ∧ l ≤ 1099511627776) then 2 + (l / 512 - 1) % s else -1
theorem TW {s l : Int} (h : ¬ ((16 ≤ s ∧ s ≤ 800) ∧ (512 ≤ l ∧ l ≤ 1099511627776))) : Sw s l = -1 := if_neg h
theorem Vm {s l : Int} (h : (16 ≤ s ∧ s ≤ 800) ∧ (512 ≤ l ∧ l ≤ 1099511627776)) : Sw s l = 2 + (l / 512 - 1) % s := if_pos h
theorem Tz {s l : Int} (h : (16 ≤ s ∧ s ≤ 800) ∧ (512 ≤ l ∧ l ≤ 1099511627776)) : 2 ≤ Sw s l ∧ Sw s l < 2 + s := by
 rw [Vm h]
 have h1 := Int.emod_nonneg (l / 512 - 1) (show s ≠ 0 by omega)
 have h2 := Int.emod_lt_of_pos (l / 512 - 1) (show 0 < s by omega)
 omega
theorem WL {v a b : Int} (h : a ≤ v ∧ v ≤ b) : inB v a b = true := by simp [inB, h.1, h.2]
theorem VO {v a b : Int} (h : ¬ (a ≤ v ∧ v ≤ b)) : inB v a b = false := by simp [inB]; omega
theorem V8 (s l : Int) (w : World) : Calls Tryz.prog 15 #[.int .i64 s, .int .i64 l] w fun e w' => e = .returned (.int .i64 (Sw s l)) ∧ Same w w' := by
 have h1 := fun wx => Rm s 16 800 wx
 by_cases hs : 16 ≤ s ∧ s ≤ 800
 ·rw [WL hs] at h1
  have h2 := fun wx => Rm l 512 1099511627776 wx
  by_cases hl : 512 ≤ l ∧ l ≤ 1099511627776
  ·rw [WL hl] at h2
   rw [Vm ⟨hs, hl⟩]
   obtain ⟨lv, vI⟩ := hs
   obtain ⟨uB, nN⟩ := hl
   have nu : ¬ s = 0 := by omega
   have iZ := Int.emod_nonneg (l / 512 - 1) nu
   have CP := Int.emod_lt_of_pos (l / 512 - 1) (show 0 < s by omega)
   have hq : 0 ≤ l / 512 - 1 := by omega
   go_enter Tryz.func15, Tryz.ntmps15
   go_wp2_with (first
    | (go_at_call 35; (with_reducible refine (h1 _).mono ?_); rintro e w1 ⟨rfl, aH⟩)
    | (go_at_call 35; (with_reducible refine (h2 _).mono ?_); rintro e w2 ⟨rfl, aN⟩))
   go_ret
   exact ⟨Ua (by omega), aH.trans aN⟩
  ·rw [VO hl] at h2
   rw [TW (fun h => hl h.2)]
   go_enter Tryz.func15, Tryz.ntmps15
   go_wp2_with (first
    | (go_at_call 35; (with_reducible refine (h1 _).mono ?_); rintro e w1 ⟨rfl, aH⟩)
    | (go_at_call 35; (with_reducible refine (h2 _).mono ?_); rintro e w2 ⟨rfl, aN⟩))
   go_ret
   exact ⟨rfl, aH.trans aN⟩
 ·rw [VO hs] at h1
  rw [TW (fun h => hs h.1)]
  go_enter Tryz.func15, Tryz.ntmps15
  go_wp2_with (go_at_call 35; (with_reducible refine (h1 _).mono ?_); rintro e w1 ⟨rfl, aH⟩)
  go_ret
  exact ⟨rfl, aH⟩
theorem V9 (s : Int) (w : World) : Calls Tryz.prog 43 #[.int .i64 s] w fun e w' => e = .returned (.bool (inB s 16 800)) ∧ Same w w' := by
 unfold inB
 by_cases h : 16 ≤ s
 ·go_enter Tryz.func43, Tryz.ntmps43
  go_wp2
  go_ret
  exact ⟨by simp [h], kZ0⟩
 ·go_enter Tryz.func43, Tryz.ntmps43
  go_wp2
  go_ret
  exact ⟨by rw [show decide (16 ≤ s) = false from by simp; omega]; rfl, kZ0⟩
theorem Wd (s l : Int) (w : World) : Calls Tryz.prog 22 #[.int .i64 s, .int .i64 l] w fun e w' => e = .returned (.int .i64 (Sw s l)) ∧ Same w w' := by
 have h1 := fun wx => V9 s wx
 by_cases hs : 16 ≤ s ∧ s ≤ 800
 ·rw [WL hs] at h1
  by_cases hl : 512 ≤ l ∧ l ≤ 1099511627776
  ·rw [Vm ⟨hs, hl⟩]
   obtain ⟨lv, vI⟩ := hs
   obtain ⟨uB, nN⟩ := hl
   have nu : ¬ s = 0 := by omega
   have gW : ¬ l < 512 := by omega
   have qd : ¬ 1099511627776 < l := by omega
   have iZ := Int.emod_nonneg (l / 512 - 1) nu
   have CP := Int.emod_lt_of_pos (l / 512 - 1) (show 0 < s by omega)
   have hq : 0 ≤ l / 512 - 1 := by omega
   go_enter Tryz.func22, Tryz.ntmps22
   go_wp2_with (go_at_call 43; (with_reducible refine (h1 _).mono ?_); rintro e w1 ⟨rfl, aH⟩)
   go_ret
   exact ⟨Ua (by omega), aH⟩
  ·rw [TW (fun h => hl h.2)]
   by_cases uB : l < 512
   ·go_enter Tryz.func22, Tryz.ntmps22
    go_wp2_with (go_at_call 43; (with_reducible refine (h1 _).mono ?_); rintro e w1 ⟨rfl, aH⟩)
    go_ret
    exact ⟨rfl, aH⟩
   ·have nN : 1099511627776 < l := by omega
    go_enter Tryz.func22, Tryz.ntmps22
    go_wp2_with (go_at_call 43; (with_reducible refine (h1 _).mono ?_); rintro e w1 ⟨rfl, aH⟩)
    go_ret
    exact ⟨rfl, aH⟩
 ·rw [VO hs] at h1
  rw [TW (fun h => hs h.1)]
  go_enter Tryz.func22, Tryz.ntmps22
  go_wp2_with (go_at_call 43; (with_reducible refine (h1 _).mono ?_); rintro e w1 ⟨rfl, aH⟩)
  go_ret
  exact ⟨rfl, aH⟩
def jdZ (s e st fl : Int) (n : Nat) : Int :=
 if ¬ (16 ≤ s ∧ s ≤ 800) then 1 else if ¬ (1 ≤ e ∧ e ≤ 4294967295) then 2 else if fl < 512 ∨ st < fl ∨ 1099511627776 < st then 3 else if (n : Int) ≠ st - fl + fl % 512 then 4 else 0
def jga (d : Int × Int × Int × Int × List Int) : Int := jdZ d.1 d.2.1 d.2.2.1 d.2.2.2.1 d.2.2.2.2.length
def StLog.isB (x : StLog) : Prop := IsB x.tail.bs
theorem Vs (p : Int) (w : World) (h0 : 0 ≤ p) (h1 : p ≤ 1099511627776) : Calls Tryz.prog 24 #[.int .i64 p] w fun e w' => e = .returned (.int .i64 (p - p % 512)) ∧ Same w w' := by
 go_enter Tryz.func24, Tryz.ntmps24
 go_wp2
 go_ret
 exact ⟨Ua (by omega), kZ0⟩
def flushed (d : Int × Int × Int × Int × List Int) : Int × Int × Int × Int × List Int :=
 if jga d = 0 then (d.1, d.2.1, d.2.2.1, d.2.2.1, d.2.2.2.2.drop (d.2.2.2.2.length - (d.2.2.1 % 512).toNat)) else (0, 0, 0, 0, [])
theorem VH (base : Nat) (va : Value) (ps : List PW) (k0 : Int) (w : World) (h0 : 0 ≤ k0) (h1 : endP k0 ps ≤ 1125899906842624) (hn : ps.length ≤ 1125899906842624)
  (ha : OwnP base 76 5 w va ps) :
  Calls Tryz.prog 31 #[va, .int .i64 k0] w fun e w' => e = .returned (.int .i64 (endP k0 ps)) ∧ OwnP base 76 5 w' va (Ud k0 ps) ∧ Kept (UE va ps) w w' := by
 by_cases hz : ps.length = 0
 ·obtain rfl : ps = [] := List.length_eq_zero_iff.1 hz
  obtain ⟨aa, ca, rfl⟩ : ∃ aa ca, va = .slice aa 0 ca := by rcases ha.form with ⟨rfl, _⟩ | ⟨g, cap, rfl, _⟩ <;> exact ⟨_, _, rfl⟩
  have HA : Hid (OwnP base 76 5 w (.slice aa 0 ca) []) := ha
  clear ha hn hz
  go_enter Tryz.func31, Tryz.ntmps31
  go_wp2
  refine wp_loop_rounds 1 ?_
  rw [rounds_succ]
  go_wp2
  go_ret
  exact ⟨by simp [endP], by simpa [Ud] using HA.out, kZ0⟩
 ·obtain ⟨g, cap, rfl, hb, bH, _, _⟩ : ∃ g cap, va = .slice (some ⟨g, 0, none⟩) ps.length cap ∧ base ≤ g ∧ g < w.heap.size ∧ ps.length ≤ cap ∧ cap ≤ maxLen := by
   rcases ha.form with ⟨_, rfl⟩ | h
   ·simp at hz
   ·exact h
  generalize hl : ps.length = len at *
  have HL : Hid (ps.length = len) := hl
  have H1 : Hid (endP k0 ps ≤ 1125899906842624) := h1
  have HA : Hid (OwnP base 76 5 w (.slice (some ⟨g, 0, none⟩) len cap) ps) := ha
  clear hl h1 ha
  go_enter Tryz.func31, Tryz.ntmps31
  go_wp2
  go_loopw [1, 5] (fun v i wr => ∃ (k : Nat) (c : Int), k ≤ len ∧ i = .int .i64 k ∧ v = .int .i64 c ∧ Hid (c = endP k0 (ps.take k)) ∧ Hid (OwnP base 76 5 wr (.slice (some ⟨g, 0, none⟩) len cap) (Uq k0 ps k)) ∧ Hid (Kept (UE (.slice (some ⟨g, 0, none⟩) len cap) ps) w wr)) (fun _ i _ => len - (intOf i).toNat)
  case atStart => exact ⟨0, k0, Nat.zero_le _, rfl, rfl, rfl, by rw [jbD]; exact HA.out, kZ0⟩
  case round =>
   obtain ⟨k, c, hk, rfl, rfl, HC, HO, HK⟩ := hrel
   by_cases bH : k < len
   ·have dh : k < ps.length := by rw [HL.out]; exact bH
    have hf := HO.out.frozen (by rw [T9]; exact HL.out.symm) (k * 2)
    have hc := HO.out.sec (by rw [T9]; exact HL.out.symm) k (by rw [T9]; exact dh)
    have hv : wr.cell? ⟨g, k * 2 + 1, none⟩ = some ps[k].v := by rw [HO.out.val (by rw [T9]; exact HL.out.symm) k (by rw [T9]; exact dh), jcE _ _ _ _ dh]
    have kr : k0 ≤ c := by rw [HC.out]; exact Z4 _ _
    have ku : c + 1 + ps[k].bs.length ≤ 1125899906842624 := by rw [HC.out, ← Zo k0 ps k dh]; exact Int.le_trans (Z5 _ _ _) H1.out
    have eF : Hid (OwnP base 76 5 (wr.setCell ⟨g, k * 2, none⟩ (.int .i64 c)) (.slice (some ⟨g, 0, none⟩) len cap) (Ud k0 (ps.take k) ++ ⟨c, ps[k].v, ps[k].bs⟩ :: ps.drop (k + 1))) := by
     have h := HO.out
     rw [jdj _ _ _ dh] at h
     have hl := HL.out
     exact h.setSec (by simp [Vh]; omega) c _ (by simp [Vh]; omega)
    go_wp2_with fail
    refine (TP base ps[k].v ps[k].bs (c + 1) _ (by omega) (by omega) (by omega) (eF.out.data ⟨c, ps[k].v, ps[k].bs⟩ (by simp))).mono ?_
    rintro e w1 ⟨rfl, ho, aH⟩
    have fy : Hid (OwnP base 76 5 w1 (.slice (some ⟨g, 0, none⟩) len cap) (Uq k0 ps (k + 1))) := by
     rw [jbE _ _ _ dh, ← HC.out]
     exact eF.out.setData aH ho
    have dt : Hid (Kept (UE (.slice (some ⟨g, 0, none⟩) len cap) ps) w w1) :=
     (HK.out.setCell (p := ⟨g, k * 2, none⟩) (.inr (.inl rfl)) _).trans (aH.mono fun b _ hb => .inr ⟨ps[k], List.getElem_mem _, hb⟩)
    clear ho aH hv hc hf HO eF
    go_wp2
    go_roundw
    case rel =>
     exact ⟨k + 1, c + 1 + ps[k].bs.length, by omega, by go_num, rfl, by rw [Zo _ _ _ dh, ← HC.out]; rfl, fy, dt⟩
    case measure => simp [intOf]; omega
   ·go_wp2
    go_ret
    obtain rfl : k = len := by omega
    have hl := HL.out
    have hc := HC.out
    have ho := HO.out
    rw [← hl, List.take_length] at hc
    rw [← hl, jcD, hl] at ho
    exact ⟨Ua hc, ho, HK.out⟩
theorem WM (base : Nat) (sec : Int) (va vb : Value) (bs : List Int) (w : World) (hn : bs.length ≤ 1125899906842624)
  (ha : Own base 5 .u8 w va bs) (hb : Own base 5 .u8 w vb bs) :
  Calls Tryz.prog 54 #[.agg #[.int .i64 sec, va], .agg #[.int .i64 sec, vb]] w fun e w' => e = .returned (.bool true) ∧ Same w w' := by
 obtain ⟨aa, na, ca, rfl⟩ : ∃ aa na ca, va = .slice aa na ca := by rcases ha.form with ⟨rfl, _⟩ | ⟨g, cap, rfl, _⟩ <;> exact ⟨_, _, _, rfl⟩
 obtain ⟨ab, nb, cb, rfl⟩ : ∃ aa na ca, vb = .slice aa na ca := by rcases hb.form with ⟨rfl, _⟩ | ⟨g, cap, rfl, _⟩ <;> exact ⟨_, _, _, rfl⟩
 have HA : Hid (Own base 5 .u8 w (.slice aa na ca) bs) := ha
 have HB : Hid (Own base 5 .u8 w (.slice ab nb cb) bs) := hb
 clear ha hb
 go_enter Tryz.func54, Tryz.ntmps54
 go_wp2_with fail
 refine (UN base _ _ bs _ hn (HA.out.same ((kZ0.alloc _).alloc _)) (HB.out.same ((kZ0.alloc _).alloc _))).mono ?_
 rintro e w1 ⟨rfl, n1, rfl⟩
 go_wp2
 go_ret
 exact ⟨rfl, ((kZ0.alloc _).alloc _).drewN _⟩
theorem Wp (base : Nat) (va vb : Value) (ps qs : List PW) (w : World) (hn : ps.length ≤ 1125899906842624) (hs : Rh ps = Rh qs) (gX : ∀ p ∈ ps, p.bs.length ≤ 1125899906842624)
  (ha : OwnP base 76 5 w va ps) (hb : OwnP base 76 5 w vb qs) :
  Calls Tryz.prog 29 #[va, vb] w fun e w' => e = .returned (.bool true) ∧ Same w w' := by
 have dR : qs.length = ps.length := by rw [← RN, ← RN, hs]
 by_cases hz : ps.length = 0
 ·obtain rfl : ps = [] := List.length_eq_zero_iff.1 hz
  obtain rfl : qs = [] := List.length_eq_zero_iff.1 dR
  obtain ⟨aa, ca, rfl⟩ : ∃ aa ca, va = .slice aa 0 ca := by rcases ha.form with ⟨rfl, _⟩ | ⟨g, cap, rfl, _⟩ <;> exact ⟨_, _, rfl⟩
  obtain ⟨ab, cb, rfl⟩ : ∃ aa ca, vb = .slice aa 0 ca := by rcases hb.form with ⟨rfl, _⟩ | ⟨g, cap, rfl, _⟩ <;> exact ⟨_, _, rfl⟩
  clear ha hb hn hz hs
  go_enter Tryz.func29, Tryz.ntmps29
  go_wp2
  refine wp_loop_rounds 1 ?_
  rw [rounds_succ]
  go_wp2
  go_ret
  exact ⟨rfl, kZ0⟩
 ·obtain ⟨ga, ca, rfl⟩ : ∃ g cap, va = .slice (some ⟨g, 0, none⟩) ps.length cap := by
   rcases ha.form with ⟨_, h⟩ | ⟨g, cap, h, _⟩
   ·simp [h] at hz
   ·exact ⟨g, cap, h⟩
  obtain ⟨gb, cb, rfl⟩ : ∃ g cap, vb = .slice (some ⟨g, 0, none⟩) ps.length cap := by
   rcases hb.form with ⟨_, h⟩ | ⟨g, cap, h, _⟩
   ·simp [h] at dR; omega
   ·exact ⟨g, cap, by rw [h, dR]⟩
  have HA : Hid (OwnP base 76 5 w (.slice (some ⟨ga, 0, none⟩) ps.length ca) ps) := ha
  have HB : Hid (OwnP base 76 5 w (.slice (some ⟨gb, 0, none⟩) ps.length cb) qs) := hb
  have HQ : Hid (qs.length = ps.length) := dR
  have HS : Hid (Rh ps = Rh qs) := hs
  have HM : Hid (∀ p ∈ ps, p.bs.length ≤ 1125899906842624) := gX
  clear ha hb hs dR gX
  generalize hl : ps.length = len at hn hz HA HB ⊢
  have HL : Hid (ps.length = len) := hl
  clear hl
  go_enter Tryz.func29, Tryz.ntmps29
  go_wp2
  go_loopw [5] (fun i wr => ∃ (k : Nat), k ≤ len ∧ i = .int .i64 k ∧ Hid (Same w wr)) (fun i _ => len - (intOf i).toNat)
  case atStart => exact ⟨0, Nat.zero_le _, rfl, kZ0⟩
  case round =>
   obtain ⟨k, hk, rfl, HK⟩ := hrel
   by_cases bH : k < len
   ·have dh : k < ps.length := by rw [HL.out]; exact bH
    have i6 : k < qs.length := by rw [HQ.out]; exact dh
    have fD := HA.out.same HK.out
    have fS := HB.out.same HK.out
    obtain ⟨s1, s2⟩ := jdk HS.out k dh i6
    have s3 := HM.out _ (List.getElem_mem dh)
    have rI : wr.cell? ⟨ga, k * 2, none⟩ = some (.int .i64 ps[k].sec) := fD.sec HL.out.symm k dh
    have vN : wr.cell? ⟨ga, k * 2 + 1, none⟩ = some ps[k].v := fD.val HL.out.symm k dh
    have cN : wr.cell? ⟨gb, k * 2, none⟩ = some (.int .i64 ps[k].sec) := by rw [fS.sec (by rw [HQ.out, HL.out]) k i6, s1]
    have dL : wr.cell? ⟨gb, k * 2 + 1, none⟩ = some qs[k].v := fS.val (by rw [HQ.out, HL.out]) k i6
    have Bq : Hid (Own base 5 .u8 wr ps[k].v ps[k].bs) := fD.data _ (List.getElem_mem dh)
    have lg : Hid (Own base 5 .u8 wr qs[k].v ps[k].bs) := by have := fS.data _ (List.getElem_mem i6); rw [← s2] at this; exact this
    clear s1 s2 fD fS
    go_wp2_with fail
    go_region_with (go_at_call 54; refine (WM base ps[k].sec ps[k].v qs[k].v ps[k].bs _ s3 (by exact Bq.out.same kZ0.drew) (by exact lg.out.same kZ0.drew)).mono ?_; rintro e w1 ⟨rfl, aH⟩)
    all_goals
     have aM : Hid (Same w w1) := HK.out.drew.trans aH
     clear aH rI vN cN dL Bq lg
     go_wp2
     go_roundw
     case rel => exact ⟨k + 1, by omega, by go_num, aM⟩
     case measure => simp [intOf]; omega
   ·go_wp2
    go_ret
    exact ⟨rfl, HK.out⟩
theorem U6 {base : Nat} {tw tb : TypeId} {w : World} {v : Value} {ps : List PW} (h : OwnP base tw tb w v ps) : ∃ aa na ca, v = .slice aa na ca := by
 rcases h.form with ⟨rfl, _⟩ | ⟨g, cap, rfl, _⟩ <;> exact ⟨_, _, _, rfl⟩
theorem jb7 (base : Nat) (dv pv JX KC : Value) (dur : List Int) (ps qs : List PW) (w : World) (hd : dur.length ≤ 1125899906842624) (hn : ps.length ≤ 1125899906842624)
  (hs : Rh ps = Rh qs) (gX : ∀ p ∈ ps, p.bs.length ≤ 1125899906842624)
  (ha : OwnD base 76 5 w dv pv dur ps) (hb : OwnD base 76 5 w JX KC dur qs) :
  Calls Tryz.prog 9 #[.agg #[dv, pv], .agg #[JX, KC]] w fun e w' => e = .returned (.bool true) ∧ Same w w' := by
 obtain ⟨a1, n1, c1, rfl⟩ := Sd ha.dur
 obtain ⟨a2, n2, c2, rfl⟩ := U6 ha.pend
 obtain ⟨a3, n3, c3, rfl⟩ := Sd hb.dur
 obtain ⟨a4, n4, c4, rfl⟩ := U6 hb.pend
 have HA := (show Hid (OwnD base 76 5 w _ _ dur ps) from ha)
 have HB := (show Hid (OwnD base 76 5 w _ _ dur qs) from hb)
 have HS : Hid (Rh ps = Rh qs) := hs
 have HM : Hid (∀ p ∈ ps, p.bs.length ≤ 1125899906842624) := gX
 clear ha hb hs gX
 go_enter Tryz.func9, Tryz.ntmps9
 go_wp2_with fail
 refine (UN base _ _ dur _ hd (HA.out.dur.same ((kZ0.alloc _).alloc _)) (HB.out.dur.same ((kZ0.alloc _).alloc _))).mono ?_
 rintro e w1 ⟨rfl, m1, rfl⟩
 go_wp2_with fail
 refine (Wp base _ _ ps qs _ hn HS.out HM.out (HA.out.pend.same (((kZ0.alloc _).alloc _).drewN _)) (HB.out.pend.same (((kZ0.alloc _).alloc _).drewN _))).mono ?_
 rintro e w2 ⟨rfl, aN⟩
 go_wp2
 go_ret
 exact ⟨rfl, (((kZ0.alloc _).alloc _).drewN _).trans aN⟩
theorem jap (base : Nat) (dv pv : Value) (dur : List Int) (ps : List PW) (k0 : Int) (w : World) (h0 : 0 ≤ k0) (h1 : endP (k0 + dur.length) ps ≤ 1125899906842624) (hn : ps.length ≤ 1125899906842624)
  (ha : OwnD base 76 5 w dv pv dur ps) :
  Calls Tryz.prog 10 #[.agg #[dv, pv], .int .i64 k0] w fun e w' => e = .returned (.int .i64 (endP (k0 + dur.length) ps)) ∧
   OwnD base 76 5 w' dv pv (marks k0 dur.length) (Ud (k0 + dur.length) ps) ∧ Kept (Vu dv pv ps) w w' := by
 have kx := Z4 (k0 + dur.length) ps
 obtain ⟨a1, n1, c1, rfl⟩ := Sd ha.dur
 obtain ⟨a2, n2, c2, rfl⟩ := U6 ha.pend
 have HA := (show Hid (OwnD base 76 5 w _ _ dur ps) from ha)
 have H1 : Hid (endP (k0 + dur.length) ps ≤ 1125899906842624) := h1
 have cN : k0 + dur.length ≤ 1125899906842624 := by omega
 have bH := HA.out.lt
 have rH : Hid (∀ b, Vu (.slice a1 n1 c1) (.slice a2 n2 c2) ps b → base ≤ b ∧ b < w.heap.size) := bH
 clear ha h1 kx bH
 go_enter Tryz.func10, Tryz.ntmps10
 go_wp2_with fail
 refine (TP base _ dur k0 _ (by omega) (by omega) (by omega) (HA.out.dur.same (kZ0.alloc _))).mono ?_
 rintro e w1 ⟨rfl, gk, aH⟩
 have hc : w1.cell? ⟨w.heap.size, 1, none⟩ = some (.slice a2 n2 c2) := by
  rw [aH.cell (by simp) (fun e => by have := (rH.out w.heap.size (.inl e)).2; omega)]; simp
 have gP : Hid (OwnP base 76 5 w1 (.slice a2 n2 c2) ps) :=
  (HA.out.pend.same (kZ0.alloc _)).kept aH (fun b hb e => HA.out.apart b hb e)
 have aM : Hid (Kept (fun b => (Value.slice a1 n1 c1).ownBlock = some b) w w1) := (kZ0.alloc _).trans aH
 have ts : Hid (Own base 5 .u8 w1 (.slice a1 n1 c1) (marks k0 dur.length)) := gk
 clear gk aH
 go_wp2_with fail
 refine (VH base _ ps (k0 + dur.length) _ (by omega) H1.out hn gP.out).mono ?_
 rintro e w2 ⟨rfl, m3, aN⟩
 have HF : Hid (OwnD base 76 5 w2 (.slice a1 n1 c1) (.slice a2 n2 c2) (marks k0 dur.length) (Ud (k0 + dur.length) ps) ∧ Kept (Vu (.slice a1 n1 c1) (.slice a2 n2 c2) ps) w w2) :=
  ⟨⟨ts.out.kept aN (fun b hb e => HA.out.apart b e hb), m3, fun b hb => HA.out.apart b ((jeg (jcn _ _) b).1 hb)⟩,
   (aM.out.mono (fun b _ e => .inl e)).trans (aN.mono (fun b _ e => .inr e))⟩
 clear m3 aN hc gP aM ts
 go_wp2
 go_ret
 exact ⟨rfl, HF.out⟩
theorem Tryz.infoSW : (Tryz.prog.info? 76).map (fun i => (i.zero, i.size, i.bytes)) = some (some (.agg #[.int .i64 0, .slice none 0 0]), 2, 32) := by kernel_rfl
theorem WN (sec : Int) (a : Option Addr) (n c : Nat) (left : Int) (w : World) (h0 : 0 ≤ left) (h1 : left ≤ 1048576) (hn : n ≤ maxLen) :
  Calls Tryz.prog 34 #[.agg #[.int .i64 sec, .slice a n c], .int .i64 left] w fun e w' => ∃ r : Int, e = .returned (.int .i64 r) ∧ ((r = -1 ∧ left < n) ∨ (r = left - n ∧ 0 ≤ r)) ∧ Same w w' := by
 go_enter Tryz.func34, Tryz.ntmps34
 go_wp2_with fail
 refine (Xz a n c left _ h0 h1 hn).mono ?_
 rintro e w1 ⟨r, rfl, hr, rfl⟩
 rcases hr with ⟨rfl, hr⟩ | ⟨hr, tY⟩
 ·go_wp2
  go_ret
  exact ⟨_, rfl, .inl ⟨rfl, hr⟩, kZ0.alloc _⟩
 ·have HR : Hid (r = left - n) := hr
  clear hr
  go_wp2
  go_ret
  exact ⟨_, rfl, .inr ⟨HR.out, tY⟩, kZ0.alloc _⟩
theorem Ws (v : Value) (ps : List PW) (left : Int) (w : World) (h0 : 0 ≤ left) (h1 : left ≤ 1048576) (hp : RdP w v ps) :
  Calls Tryz.prog 14 #[v, .int .i64 left] w fun e w' => ∃ r : Int, e = .returned (.int .i64 r) ∧ (r = -1 ∨ (r = left - ps.length - Ti ps ∧ 0 ≤ r)) ∧ Same w w' := by
 have hn := hp.len
 unfold maxLen at hn
 rcases hp.row with ⟨rfl, a, c, rfl⟩ | ⟨b, off, c, rfl, hc⟩
 ·clear hp hn
  go_enter Tryz.func14, Tryz.ntmps14
  go_wp2
  refine wp_loop_rounds 1 ?_
  rw [rounds_succ]
  go_wp2
  go_ret
  exact ⟨_, rfl, .inr ⟨by simp [Ti], by omega⟩, kZ0⟩
 ·have HP : Hid (RdP w (.slice (some ⟨b, off, none⟩) ps.length c) ps) := hp
  have HC : Hid (∀ i (h : i < ps.length), w.cell? ⟨b, off + i * 2, none⟩ = some (.int .i64 ps[i].sec) ∧ w.cell? ⟨b, off + i * 2 + 1, none⟩ = some ps[i].v) := hc
  clear hp hc
  generalize hl : ps.length = len at hn HP ⊢
  have HL : Hid (ps.length = len) := hl
  clear hl
  by_cases h : left < len
  ·go_enter Tryz.func14, Tryz.ntmps14
   go_wp2
   go_ret
   exact ⟨_, rfl, .inl rfl, kZ0⟩
  ·go_enter Tryz.func14, Tryz.ntmps14
   go_wp2
   go_loopw [1, 5] (fun u i wr => ∃ (k : Nat) (r : Int), k ≤ len ∧ i = .int .i64 k ∧ u = .int .i64 r ∧ 0 ≤ r ∧ r ≤ left ∧ Hid (r = left - len - Ti (ps.take k)) ∧ Hid (Same w wr)) (fun _ i _ => len - (intOf i).toNat)
   case atStart => exact ⟨0, left - len, Nat.zero_le _, rfl, rfl, by omega, by omega, by simp [Ti, Hid], kZ0⟩
   case round =>
    obtain ⟨k, r, hk, rfl, rfl, tY, lk, HR, HK⟩ := hrel
    by_cases bH : k < len
    ·have dh : k < ps.length := by rw [HL.out]; exact bH
     obtain ⟨a1, c1, e1⟩ := (HP.out.data _ (List.getElem_mem dh)).form
     have iZ := (HP.out.data _ (List.getElem_mem dh)).1
     have q1 := HK.out.cellOf (HC.out k dh).1 id
     have q2 := HK.out.cellOf (HC.out k dh).2 id
     rw [e1] at q2
     clear e1
     go_wp2_with fail
     refine (WN _ _ _ _ _ _ tY (by omega) iZ).mono ?_
     rintro e w1 ⟨r1, rfl, b9, aH⟩
     have aM : Hid (Same w w1) := HK.out.trans aH
     clear q1 q2 aH
     rcases b9 with ⟨rfl, b9⟩ | ⟨b9, rY⟩
     ·go_wp2
      go_ret
      exact ⟨_, rfl, .inl rfl, aM.out⟩
     ·have N7 : r1 ≤ left := by omega
      have fU : Hid (r1 = r - ps[k].bs.length) := b9
      clear b9
      go_wp2
      go_roundw
      case rel => exact ⟨k + 1, r1, by omega, by go_num, rfl, rY, N7, by have h1 := fU.out; have h2 := HR.out; have h3 := jbF ps k dh; unfold Hid; omega, aM⟩
      case measure => simp [intOf]; omega
    ·go_wp2
     go_ret
     obtain rfl : k = len := by omega
     have h1 := HR.out
     have h2 := HL.out
     rw [← h2, List.take_length] at h1
     exact ⟨r, rfl, .inr ⟨by omega, tY⟩, HK.out⟩
theorem jb8 (dv pv : Value) (dur : List Int) (ps : List PW) (left : Int) (w : World) (h0 : 0 ≤ left) (h1 : left ≤ 1048576) (hp : RdD w dv pv dur ps) :
  Calls Tryz.prog 4 #[.agg #[dv, pv], .int .i64 left] w fun e w' => ∃ r : Int, e = .returned (.int .i64 r) ∧ (r = -1 ∨ (r = left - dur.length - ps.length - Ti ps ∧ 0 ≤ r)) ∧ Same w w' := by
 obtain ⟨a1, c1, rfl⟩ := hp.dur.form
 obtain ⟨a2, c2, rfl⟩ := hp.pend.form
 have hm := hp.dur.1
 have HP := (show Hid (RdP w _ ps) from hp.pend)
 clear hp
 go_enter Tryz.func4, Tryz.ntmps4
 go_wp2_with fail
 refine (Xz _ _ _ left _ h0 h1 hm).mono ?_
 rintro e w1 ⟨r, rfl, hr, rfl⟩
 rcases hr with ⟨rfl, hr⟩ | ⟨hr, tY⟩
 ·go_wp2
  go_ret
  exact ⟨_, rfl, .inl rfl, kZ0.alloc _⟩
 ·have lk : r ≤ left := by omega
  have HR : Hid (r = left - dur.length) := hr
  clear hr
  go_wp2_with fail
  refine (Ws _ ps r _ tY (by omega) (HP.out.same (kZ0.alloc _))).mono ?_
  rintro e w2 ⟨r2, rfl, b9, aN⟩
  have aY : Hid (Same w w2) := (kZ0.alloc _).trans aN
  clear aN
  rcases b9 with rfl | ⟨b9, rY⟩
  ·go_wp2
   go_ret
   exact ⟨_, rfl, .inl rfl, aY.out⟩
  ·have jD : Hid (r2 = r - ps.length - Ti ps) := b9
   clear b9
   go_wp2
   go_ret
   exact ⟨r2, rfl, .inr ⟨by have h1 := HR.out; have h2 := jD.out; omega, rY⟩, aY.out⟩
end Go.Proofs.YtaojjcnmififoaaGreat
