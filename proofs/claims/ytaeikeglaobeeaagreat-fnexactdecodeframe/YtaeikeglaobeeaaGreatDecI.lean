import Derived.Test.YtaeikeglaobeeaaGreatG25
import Derived.Test.YtaeikeglaobeeaaGreatG11
namespace Go.Proofs.YtaeikeglaobeeaaGreat
set_option maxRecDepth 100000
set_option maxHeartbeats 4000000
set_option linter.unusedVariables false
set_option linter.unusedSimpArgs false
open Go.RowKit
def StLogRecord.cells (y : StLogRecord) : List Value := [.int .i64 y.kind, .int .i64 y.txn, .int .i64 y.prev, .int .i64 y.page, .int .i64 y.slot, .bool y.before.used, y.before.data.v, .bool y.after.used, y.after.data.v, .int .i64 y.uN, .int .i64 y.nT, y.txns.v, y.dirty.v, y.image.v]
def zCells : List Value := [.bool false, .int .i64 0, .int .i64 0, .int .i64 0, .int .i64 0, .int .i64 0, .bool false, .slice none 0 0, .bool false, .slice none 0 0, .int .i64 0, .int .i64 0, .slice none 0 0, .slice none 0 0, .slice none 0 0]
def nilB : BS := ⟨5, none, 0, []⟩
def nilF (e : TypeId) : FR := ⟨e, none, 0, 0, []⟩
def rec0 (k t p : Int) : StLogRecord := ⟨k, t, p, 0, 0, ⟨false, nilB⟩, ⟨false, nilB⟩, 0, 0, nilF 50, nilF 52, nilB⟩
theorem own_nilB (w : World) : OwnL w nilB.rows := OwnL.one (Own.nil 0 _ .u8 _)
theorem foot_nilB {b : Nat} (h : FootL nilB.rows b) : False := by have h := (footL_ints _ _ _ _ _).1 h; simp [nilB, BS.v, Value.ownBlock] at h
theorem own_nilF (m : Nat) (e : TypeId) (w : World) : OwnL w ((nilF e).rows m) :=
 ⟨fun r hr => by rw [List.mem_singleton.1 hr]; exact ⟨by simp [vals, nilF], .inl ⟨rfl, rfl⟩⟩, List.pairwise_singleton _ _⟩
theorem foot_nilF {m : Nat} {e : TypeId} {b : Nat} (h : FootL ((nilF e).rows m) b) : False := by have h := (FootL_one _ _).1 h; simp [nilF, FR.v, Value.ownBlock] at h
theorem own_rec0 (k t p : Int) (w : World) : OwnL w (rec0 k t p).rows :=
 (own_nilB w).append ((own_nilB w).append ((own_nilF _ _ w).append ((own_nilF _ _ w).append (own_nilB w) (fun b h => (foot_nilF h).elim)) (fun b h => (foot_nilF h).elim)) (fun b h => (foot_nilB h).elim)) (fun b h => (foot_nilB h).elim)
theorem foot_rec0 {k t p : Int} {b : Nat} (h : FootL (rec0 k t p).rows b) : False := by
 rcases (FootL_append _ _ _).1 h with h | h
 ·exact foot_nilB h
 rcases (FootL_append _ _ _).1 h with h | h
 ·exact foot_nilB h
 rcases (FootL_append _ _ _).1 h with h | h
 ·exact foot_nilF h
 rcases (FootL_append _ _ _).1 h with h | h
 ·exact foot_nilF h
 ·exact foot_nilB h
structure DcI (w wx : World) (v : Value) (bs rs : List Int) (lim P R Z : Nat) (y : StLogRecord) : Prop where
 rs : RS wx w.heap.size P v bs rs lim
 box : Blk wx R 28 y.cells
 res : Blk wx Z 30 zCells
 kept : Same w wx
 own : OwnL wx y.rows
 foot : ∀ b, FootL y.rows b → w.heap.size ≤ b ∧ b ≠ P ∧ b ≠ R ∧ b ≠ Z
 pl : w.heap.size ≤ R ∧ w.heap.size ≤ Z ∧ P ≠ R ∧ P ≠ Z ∧ R ≠ Z
variable {w wx wy : World} {v : Value} {bs rs rs' : List Int} {lim lim' P R Z : Nat} {y y' : StLogRecord}
theorem DcI.read (h : DcI w wx v bs rs lim P R Z y) (hr : RS wy w.heap.size P v bs rs' lim') (hk : Kept (fun b => b = P) wx wy) : DcI w wy v bs rs' lim' P R Z y :=
 ⟨hr, h.box.kept hk (fun e => h.pl.2.2.1 e.symm), h.res.kept hk (fun e => h.pl.2.2.2.1 e.symm), h.kept.next hk (fun i hi e => by have := h.rs.le; omega), h.own.kept hk (fun b hb e => (h.foot b hb).2.1 e), h.foot, h.pl⟩
theorem DcI.same (h : DcI w wx v bs rs lim P R Z y) (hk : Same wx wy) : DcI w wy v bs rs lim P R Z y :=
 ⟨h.rs.same hk, h.box.same hk, h.res.same hk, h.kept.trans hk, h.own.same hk, h.foot, h.pl⟩
theorem DcI.aside {X : Nat} (h : DcI w wx v bs rs lim P R Z y) (hk : Kept (fun b => b = X) wx wy) (h0 : w.heap.size ≤ X) (hP : X ≠ P) (hR : X ≠ R) (hZ : X ≠ Z) (hf : ∀ b, FootL y.rows b → b ≠ X) : DcI w wy v bs rs lim P R Z y :=
 ⟨h.rs.keep hk (fun e => hP e.symm) (fun b _ e => by omega), h.box.kept hk (fun e => hR e.symm), h.res.kept hk (fun e => hZ e.symm), h.kept.next hk (fun i hi e => by omega), h.own.kept hk (fun b hb e => hf b hb e), h.foot, h.pl⟩
theorem DcI.wrote (h : DcI w wx v bs rs lim P R Z y) (hk : Kept (fun b => b = R) wx wy) (hb : Blk wy R 28 y'.cells) (ho : OwnL wx y'.rows) (hf : ∀ b, FootL y'.rows b → w.heap.size ≤ b ∧ b ≠ P ∧ b ≠ R ∧ b ≠ Z) : DcI w wy v bs rs lim P R Z y' :=
 ⟨h.rs.keep hk (fun e => h.pl.2.2.1 e) (fun b _ e => by have := h.pl.1; omega), hb, h.res.kept hk (fun e => h.pl.2.2.2.2 e.symm), h.kept.next hk (fun i hi e => by have := h.pl.1; omega), ho.kept hk (fun b hb e => (hf b hb).2.2.1 e), hf, h.pl⟩
theorem DcI.num (h : DcI w wx v bs rs lim P R Z y) (j : Nat) (x : Value) (y' : StLogRecord) (hc : y'.cells = y.cells.set j x) (hr : y'.rows = y.rows) : DcI w (wx.setCell ⟨R, j, none⟩ x) v bs rs lim P R Z y' :=
 h.wrote ((Kept.refl (fun b => b = R) wx).setCell (p := ⟨R, j, none⟩) (.inr rfl) _) (by rw [hc]; exact h.box.stored j x) (hr ▸ h.own) (fun b hb => h.foot b (hr ▸ hb))
theorem OwnL.under {F : Nat → Prop} {A L L' : List Row} (h : OwnL wx (A ++ L)) (hk : Kept F wx wy) (hF : ∀ b, FootL A b → ¬ F b) (h' : OwnL wy L') (hf : ∀ b, FootL L' b → FootL L b ∨ wx.heap.size ≤ b) : OwnL wy (A ++ L') :=
 (h.left.kept hk hF).append h' (fun b h1 h2 => (hf b h2).elim (h.cut b h1) (fun n => by have := h.left.lt b h1; omega))
theorem foot_under {A L L' : List Row} {n : Nat} (hf : ∀ b, FootL L' b → FootL L b ∨ n ≤ b) : ∀ b, FootL (A ++ L') b → FootL (A ++ L) b ∨ n ≤ b := fun b hb =>
 ((FootL_append _ _ _).1 hb).elim (fun h => .inl ((FootL_append _ _ _).2 (.inl h))) (fun h => (hf b h).imp (fun h => (FootL_append _ _ _).2 (.inr h)) id)
theorem foot_swap {B B' C : List Row} {n : Nat} (hf : ∀ b, FootL B' b → FootL B b ∨ n ≤ b) : ∀ b, FootL (B' ++ C) b → FootL (B ++ C) b ∨ n ≤ b := fun b hb =>
 ((FootL_append _ _ _).1 hb).elim (fun h => (hf b h).imp (fun h => (FootL_append _ _ _).2 (.inl h)) id) (fun h => .inl ((FootL_append _ _ _).2 (.inr h)))
theorem OwnL.swap {B B' C : List Row} (h : OwnL wx (B ++ C)) (hk : Kept (FootL B) wx wy) (h' : OwnL wy B') (hf : ∀ b, FootL B' b → FootL B b ∨ wx.heap.size ≤ b) : OwnL wy (B' ++ C) :=
 h'.append (h.right.kept hk (fun b h1 h2 => h.cut b h2 h1)) (fun b h1 h2 => (hf b h1).elim (fun h3 => h.cut b h3 h2) (fun n => by have := h.right.lt b h2; omega))
theorem DcI.next {wz : World} (h : DcI w wx v bs rs lim P R Z y) {F : Nat → Prop} (hk : Kept F wx wy) (hF : ∀ b, F b → FootL y.rows b) (ho : OwnL wy y'.rows) (hf : ∀ b, FootL y'.rows b → FootL y.rows b ∨ wx.heap.size ≤ b) (hz : Kept (fun b => b = R) wy wz) (hb : Blk wy R 28 y.cells → Blk wz R 28 y'.cells) : DcI w wz v bs rs lim P R Z y' := by
 have e1 := h.rs.lt
 have e2 := h.box.lt
 have e3 := h.res.lt
 have e4 := h.kept.size
 have e5 := hk.size
 have g : ∀ b, F b → w.heap.size ≤ b ∧ b ≠ P ∧ b ≠ R ∧ b ≠ Z := fun b hb => h.foot b (hF b hb)
 have f' : ∀ b, FootL y'.rows b → w.heap.size ≤ b ∧ b ≠ P ∧ b ≠ R ∧ b ≠ Z := fun b hb => (hf b hb).elim (h.foot b) (fun n => by omega)
 have e6 := h.pl
 exact ⟨(h.rs.keep hk (fun e => (g P e).2.1 rfl) (fun b _ e => (g b e).1)).keep hz (fun e => h.pl.2.2.1 e) (fun b _ e => by omega), hb (h.box.kept hk (fun e => (g R e).2.2.1 rfl)), (h.res.kept hk (fun e => (g Z e).2.2.2 rfl)).kept hz (fun e => h.pl.2.2.2.2 e.symm), (h.kept.next hk (fun i hi e => by have := (g i e).1; omega)).next hz (fun i hi e => by omega), ho.kept hz (fun b hb e => (f' b hb).2.2.1 e), f', h.pl⟩
theorem DcI.slotB (h : DcI w wx v bs rs lim P R Z y) (q : StPageRecord) (n : Nat) (hn : wx.heap.size ≤ n) (hr : RS wy w.heap.size P v bs rs' lim') (hkr : Kept (fun b => b = P) wx wy) (hq : OwnL wy q.rows) (hf : ∀ b, FootL q.rows b → n ≤ b) : DcI w ((wy.setCell ⟨R, 5, none⟩ (.bool q.used)).setCell ⟨R, 6, none⟩ q.data.v) v bs rs' lim' P R Z { y with before := q } := by
 have h1 := h.read hr hkr
 have ho := h1.own
 refine h1.wrote (((Kept.refl (fun b => b = R) wy).setCell (p := ⟨R, 5, none⟩) (.inr rfl) _).setCell (p := ⟨R, 6, none⟩) (.inr rfl) _) ((h1.box.stored 5 _).stored 6 _) (hq.append ho.right (fun b hb hc => ?_)) (fun b hb => ?_)
 ·have := (h.own.right).lt b hc
  have := hf b hb
  omega
 ·rcases (FootL_append _ _ _).1 hb with h2 | h2
  ·have := hf b h2
   have e1 := h.rs.lt
   have e2 := h.box.lt
   have e3 := h.res.lt
   have e4 := h.kept.size
   omega
  ·exact h.foot b ((FootL_append _ _ _).2 (.inr h2))
theorem DcI.slotA (h : DcI w wx v bs rs lim P R Z y) (q : StPageRecord) (n : Nat) (hn : wx.heap.size ≤ n) (hr : RS wy w.heap.size P v bs rs' lim') (hkr : Kept (fun b => b = P) wx wy) (hq : OwnL wy q.rows) (hf : ∀ b, FootL q.rows b → n ≤ b) : DcI w ((wy.setCell ⟨R, 7, none⟩ (.bool q.used)).setCell ⟨R, 8, none⟩ q.data.v) v bs rs' lim' P R Z { y with after := q } := by
 have h1 := h.read hr hkr
 have ho := h1.own
 refine h1.wrote (((Kept.refl (fun b => b = R) wy).setCell (p := ⟨R, 7, none⟩) (.inr rfl) _).setCell (p := ⟨R, 8, none⟩) (.inr rfl) _) ((h1.box.stored 7 _).stored 8 _) (ho.left.append (hq.append ho.right.right (fun b hb hc => ?_)) (fun b hb hc => ?_)) (fun b hb => ?_)
 ·have := (h.own.right.right).lt b hc
  have := hf b hb
  omega
 ·rcases (FootL_append _ _ _).1 hc with h2 | h2
  ·have := (h.own.left).lt b hb
   have := hf b h2
   omega
  ·exact h.own.cut b hb ((FootL_append _ _ _).2 (.inr h2))
 ·rcases (FootL_append _ _ _).1 hb with h2 | h2
  ·exact h.foot b ((FootL_append _ _ _).2 (.inl h2))
  rcases (FootL_append _ _ _).1 h2 with h2 | h2
  ·have := hf b h2
   have e1 := h.rs.lt
   have e2 := h.box.lt
   have e3 := h.res.lt
   have e4 := h.kept.size
   omega
  ·exact h.foot b ((FootL_append _ _ _).2 (.inr ((FootL_append _ _ _).2 (.inr h2))))
theorem DcI.img (h : DcI w wx v bs rs lim P R Z y) (q : BS) (hr : RS wy w.heap.size P v bs rs' lim') (hkr : Kept (fun b => b = P) wx wy) (hq : OwnL wy q.rows) (hf : ∀ b, FootL q.rows b → wx.heap.size ≤ b) : DcI w (wy.setCell ⟨R, 13, none⟩ q.v) v bs rs' lim' P R Z { y with image := q } := by
 have h1 := h.read hr hkr
 have hP : ∀ b, FootL y.rows b → ¬ b = P := fun b hb => (h.foot b hb).2.1
 have o4 := h.own.right.right.right.under hkr (fun b hb => hP b ((FootL_append _ _ _).2 (.inr ((FootL_append _ _ _).2 (.inr ((FootL_append _ _ _).2 (.inr ((FootL_append _ _ _).2 (.inl hb))))))))) hq (fun b hb => .inr (hf b hb))
 have f4 := foot_under (A := y.dirty.rows 2) (L := y.image.rows) (L' := q.rows) (n := wx.heap.size) (fun b hb => .inr (hf b hb))
 have o3 := h.own.right.right.under hkr (fun b hb => hP b ((FootL_append _ _ _).2 (.inr ((FootL_append _ _ _).2 (.inr ((FootL_append _ _ _).2 (.inl hb))))))) o4 f4
 have f3 := foot_under (A := y.txns.rows 4) f4
 have o2 := h.own.right.under hkr (fun b hb => hP b ((FootL_append _ _ _).2 (.inr ((FootL_append _ _ _).2 (.inl hb))))) o3 f3
 have f2 := foot_under (A := y.after.rows) f3
 have o1 := h.own.under hkr (fun b hb => hP b ((FootL_append _ _ _).2 (.inl hb))) o2 f2
 have f1 := foot_under (A := y.before.rows) f2
 refine h1.wrote ((Kept.refl (fun b => b = R) wy).setCell (p := ⟨R, 13, none⟩) (.inr rfl) _) (h1.box.stored 13 _) o1 (fun b hb => ?_)
 rcases f1 b hb with h2 | h2
 ·exact h.foot b h2
 ·have e1 := h.rs.lt
  have e2 := h.box.lt
  have e3 := h.res.lt
  have e4 := h.kept.size
  omega
theorem foot_fr {m : Nat} {x : FR} {b : Nat} : FootL (x.rows m) b ↔ x.v.ownBlock = some b := FootL_one _ _
theorem DcI.growT (h : DcI w wx v bs rs lim P R Z y) (hk : Kept (fun b => y.txns.v.ownBlock = some b) wx wy) (q : FR) (hq : OwnL wy (q.rows 4)) (hf : ∀ b, q.v.ownBlock = some b → y.txns.v.ownBlock = some b ∨ wx.heap.size ≤ b) : DcI w (wy.setCell ⟨R, 11, none⟩ q.v) v bs rs lim P R Z { y with txns := q } := by
 have hk' : Kept (FootL (y.txns.rows 4)) wx wy := hk.mono (fun b _ e => foot_fr.2 e)
 have hf' : ∀ b, FootL (q.rows 4) b → FootL (y.txns.rows 4) b ∨ wx.heap.size ≤ b := fun b hb => (hf b (foot_fr.1 hb)).imp foot_fr.2 id
 have hin : ∀ b, FootL (y.txns.rows 4) b → FootL (y.txns.rows 4 ++ (y.dirty.rows 2 ++ y.image.rows)) b := fun b hb => (FootL_append _ _ _).2 (.inl hb)
 have o3 := h.own.right.right.swap hk' hq hf'
 have f3 := foot_swap (C := y.dirty.rows 2 ++ y.image.rows) hf'
 have o2 := h.own.right.under hk' (fun b hb hc => h.own.right.cut b hb (hin b hc)) o3 f3
 have f2 := foot_under (A := y.after.rows) f3
 have o1 := h.own.under hk' (fun b hb hc => h.own.cut b hb ((FootL_append _ _ _).2 (.inr (hin b hc)))) o2 f2
 have f1 := foot_under (A := y.before.rows) f2
 exact h.next hk' (fun b hb => (FootL_append _ _ _).2 (.inr ((FootL_append _ _ _).2 (.inr (hin b hb))))) o1 f1 ((Kept.refl (fun b => b = R) wy).setCell (p := ⟨R, 11, none⟩) (.inr rfl) _) (fun hb => hb.stored 11 _)
theorem DcI.growD (h : DcI w wx v bs rs lim P R Z y) (hk : Kept (fun b => y.dirty.v.ownBlock = some b) wx wy) (q : FR) (hq : OwnL wy (q.rows 2)) (hf : ∀ b, q.v.ownBlock = some b → y.dirty.v.ownBlock = some b ∨ wx.heap.size ≤ b) : DcI w (wy.setCell ⟨R, 12, none⟩ q.v) v bs rs lim P R Z { y with dirty := q } := by
 have hk' : Kept (FootL (y.dirty.rows 2)) wx wy := hk.mono (fun b _ e => foot_fr.2 e)
 have hf' : ∀ b, FootL (q.rows 2) b → FootL (y.dirty.rows 2) b ∨ wx.heap.size ≤ b := fun b hb => (hf b (foot_fr.1 hb)).imp foot_fr.2 id
 have hin : ∀ b, FootL (y.dirty.rows 2) b → FootL (y.dirty.rows 2 ++ y.image.rows) b := fun b hb => (FootL_append _ _ _).2 (.inl hb)
 have hin2 : ∀ b, FootL (y.dirty.rows 2) b → FootL (y.txns.rows 4 ++ (y.dirty.rows 2 ++ y.image.rows)) b := fun b hb => (FootL_append _ _ _).2 (.inr (hin b hb))
 have o4 := h.own.right.right.right.swap hk' hq hf'
 have f4 := foot_swap (C := y.image.rows) hf'
 have o3 := h.own.right.right.under hk' (fun b hb hc => h.own.right.right.cut b hb (hin b hc)) o4 f4
 have f3 := foot_under (A := y.txns.rows 4) f4
 have o2 := h.own.right.under hk' (fun b hb hc => h.own.right.cut b hb (hin2 b hc)) o3 f3
 have f2 := foot_under (A := y.after.rows) f3
 have o1 := h.own.under hk' (fun b hb hc => h.own.cut b hb ((FootL_append _ _ _).2 (.inr (hin2 b hc)))) o2 f2
 have f1 := foot_under (A := y.before.rows) f2
 exact h.next hk' (fun b hb => (FootL_append _ _ _).2 (.inr ((FootL_append _ _ _).2 (.inr (hin2 b hb))))) o1 f1 ((Kept.refl (fun b => b = R) wy).setCell (p := ⟨R, 12, none⟩) (.inr rfl) _) (fun hb => hb.stored 12 _)
theorem own_app4 {e : TypeId} {w : World} {g n c : Nat} {bs : List Int} {x y z u : Int} (h : w.ownsRow 0 e 4 (.slice (some ⟨g, 0, none⟩) n c) n (vals .i64 bs ++ [.int .i64 x, .int .i64 y, .int .i64 z, .int .i64 u])) : OwnL w (FR.rows 4 ⟨e, some ⟨g, 0, none⟩, n, c, bs ++ [x, y, z, u]⟩) :=
 OwnF.out (by
  have e1 : vals .i64 bs ++ [.int .i64 x, .int .i64 y, .int .i64 z, .int .i64 u] = vals .i64 (bs ++ [x, y, z, u]) := by simp [vals]
  rw [e1] at h
  exact h)
theorem own_app2 {e : TypeId} {w : World} {g n c : Nat} {bs : List Int} {x y : Int} (h : w.ownsRow 0 e 2 (.slice (some ⟨g, 0, none⟩) n c) n (vals .i64 bs ++ [.int .i64 x, .int .i64 y])) : OwnL w (FR.rows 2 ⟨e, some ⟨g, 0, none⟩, n, c, bs ++ [x, y]⟩) :=
 OwnF.out (by
  have e1 : vals .i64 bs ++ [.int .i64 x, .int .i64 y] = vals .i64 (bs ++ [x, y]) := by simp [vals]
  rw [e1] at h
  exact h)
theorem DcI.owntxns (h : DcI w wx v bs rs lim P R Z y) : wx.ownsRow 0 y.txns.e 4 y.txns.v y.txns.n (vals .i64 y.txns.bs) := h.own.right.right.left.1 _ (List.mem_singleton.2 rfl)
theorem DcI.owndirty (h : DcI w wx v bs rs lim P R Z y) : wx.ownsRow 0 y.dirty.e 2 y.dirty.v y.dirty.n (vals .i64 y.dirty.bs) := h.own.right.right.right.left.1 _ (List.mem_singleton.2 rfl)
theorem fr_at {e : TypeId} {g n c : Nat} {xs : List Int} {b : Nat} (h : (FR.v ⟨e, some ⟨g, 0, none⟩, n, c, xs⟩).ownBlock = some b) : g = b := by simpa [FR.v, Value.ownBlock] using h
theorem DcI.appT {o : Obj} {w9 : World} {g c : Nat} {x1 x2 x3 x4 : Int} (h : DcI w wx v bs rs lim P R Z y) (ha : Same wx (wx.alloc o)) (ho : w9.ownsRow 0 y.txns.e 4 (.slice (some ⟨g, 0, none⟩) (y.txns.n + 1) c) (y.txns.n + 1) (vals .i64 y.txns.bs ++ [.int .i64 x1, .int .i64 x2, .int .i64 x3, .int .i64 x4])) (hg : (wx.alloc o).grownBy w9 y.txns.v.ownBlock) (hat : y.txns.v.ownBlock = some g ∨ g = wx.heap.size + 1) (hs : (wx.alloc o).heap.size = wx.heap.size + 1) : DcI w (w9.setCell ⟨R, 11, none⟩ (.slice (some ⟨g, 0, none⟩) (y.txns.n + 1) c)) v bs rs lim P R Z { y with txns := ⟨y.txns.e, some ⟨g, 0, none⟩, y.txns.n + 1, c, y.txns.bs ++ [x1, x2, x3, x4]⟩ } :=
 (h.same ha).growT (Kept.of_grown hg (fun k e => e)) ⟨y.txns.e, some ⟨g, 0, none⟩, y.txns.n + 1, c, y.txns.bs ++ [x1, x2, x3, x4]⟩ (own_app4 ho) (fun b hb => by have e := fr_at hb; subst e; exact hat.imp id (fun e => by omega))
theorem DcI.appD {o : Obj} {w9 : World} {g c : Nat} {x1 x2 : Int} (h : DcI w wx v bs rs lim P R Z y) (ha : Same wx (wx.alloc o)) (ho : w9.ownsRow 0 y.dirty.e 2 (.slice (some ⟨g, 0, none⟩) (y.dirty.n + 1) c) (y.dirty.n + 1) (vals .i64 y.dirty.bs ++ [.int .i64 x1, .int .i64 x2])) (hg : (wx.alloc o).grownBy w9 y.dirty.v.ownBlock) (hat : y.dirty.v.ownBlock = some g ∨ g = wx.heap.size + 1) (hs : (wx.alloc o).heap.size = wx.heap.size + 1) : DcI w (w9.setCell ⟨R, 12, none⟩ (.slice (some ⟨g, 0, none⟩) (y.dirty.n + 1) c)) v bs rs lim P R Z { y with dirty := ⟨y.dirty.e, some ⟨g, 0, none⟩, y.dirty.n + 1, c, y.dirty.bs ++ [x1, x2]⟩ } :=
 (h.same ha).growD (Kept.of_grown hg (fun k e => e)) ⟨y.dirty.e, some ⟨g, 0, none⟩, y.dirty.n + 1, c, y.dirty.bs ++ [x1, x2]⟩ (own_app2 ho) (fun b hb => by have e := fr_at hb; subst e; exact hat.imp id (fun e => by omega))
theorem DcI.outtxns (h : DcI w wx v bs rs lim P R Z y) : ¬ y.txns.v.ownBlock = some R := fun e => (h.foot R ((FootL_append _ _ _).2 (.inr ((FootL_append _ _ _).2 (.inr ((FootL_append _ _ _).2 (.inl (foot_fr.2 e)))))))).2.2.1 rfl
theorem DcI.outdirty (h : DcI w wx v bs rs lim P R Z y) : ¬ y.dirty.v.ownBlock = some R := fun e => (h.foot R ((FootL_append _ _ _).2 (.inr ((FootL_append _ _ _).2 (.inr ((FootL_append _ _ _).2 (.inr ((FootL_append _ _ _).2 (.inl (foot_fr.2 e)))))))))).2.2.1 rfl
theorem DcI.rest (h : DcI w wx v bs rs lim P R Z y) (h1 : rs = rs') (h2 : lim = lim') (h3 : y = y') : DcI w wx v bs rs' lim' P R Z y' := by subst h1 h2 h3; exact h
theorem padB_isB {xs : List Int} (n : Nat) (h : IsB xs) : IsB (padB xs n) := fun x hx => by
 unfold padB at hx
 rcases List.mem_append.1 hx with h1 | h1
 ·exact h x (List.mem_of_mem_take h1)
 ·rw [List.eq_of_mem_replicate h1]; omega
theorem IsB.drop {xs : List Int} (n : Nat) (h : IsB xs) : IsB (xs.drop n) := fun x hx => h x (List.mem_of_mem_drop hx)
theorem IsB.nil : IsB [] := fun x hx => by simp at hx
theorem rdSlot_isB {xs : List Int} (h : IsB xs) : IsB (rdSlot nS padB xs).1.2 ∧ IsB (rdSlot nS padB xs).2 ∧ (rdSlot nS padB xs).1.2.length ≤ 65535 := by
 unfold rdSlot
 split
 ·have h2 := nS_two (h.drop 1)
  refine ⟨padB_isB _ (h.drop 3), (h.drop 3).drop _, ?_⟩
  simp only [padB, List.length_append, List.length_take, List.length_replicate]
  omega
 ·exact ⟨IsB.nil, h.drop 1, by simp⟩
theorem nS_one {xs : List Int} (h : IsB xs) : 0 ≤ nS xs 1 ∧ nS xs 1 ≤ 255 := by
 have hl : (padB xs 1).length = 1 := by simp [padB]; omega
 have hb := padB_isB 1 h
 unfold nS
 match hm : padB xs 1, hl with
 | [a], _ =>
  have ha := hb a (by rw [hm]; simp)
  have hn : num [a] = a := by simp [num]
  unfold getN
  rw [hn, if_neg (by simp only [List.length_cons, List.length_nil]; omega)]
  omega
def sizeD (d : RecD) : Nat := d.2.2.2.2.2.1.2.length + d.2.2.2.2.2.2.1.2.length + d.2.2.2.2.2.2.2.2.2.1.length + d.2.2.2.2.2.2.2.2.2.2.1.length + d.2.2.2.2.2.2.2.2.2.2.2.length
theorem txL_len (rs : List Int) (n : Nat) : (txL nS rs n).length = 4 * n := flatMap_len (m := 4) (fun i => rfl) n
theorem dyL_len (rs : List Int) (n : Nat) : (dyL nS rs n).length = 2 * n := flatMap_len (m := 2) (fun i => rfl) n
theorem rdBody_good {k t p : Int} {r : List Int} (h : IsB r) : IsB (rdBody nS padB k t p r).2.2.2.2.2.1.2 ∧ IsB (rdBody nS padB k t p r).2.2.2.2.2.2.1.2 ∧ IsB (rdBody nS padB k t p r).2.2.2.2.2.2.2.2.2.2.2 ∧ sizeD (rdBody nS padB k t p r) ≤ 140000 := by
 have s1 := rdSlot_isB (h.drop 4)
 have s2 := rdSlot_isB s1.2.1
 unfold rdBody sizeD
 split
 ·exact ⟨s1.1, s2.1, IsB.nil, by have := s1.2.2; have := s2.2.2; simp only [List.length_nil]; omega⟩
 split
 ·exact ⟨IsB.nil, s1.1, IsB.nil, by have := s1.2.2; simp only [List.length_nil]; omega⟩
 split
 ·refine ⟨IsB.nil, IsB.nil, IsB.nil, ?_⟩
  have h1 := nS_one (h.drop 4)
  have h2 := nS_one ((h.drop 5).drop (21 * (nS (r.drop 4) 1).toNat))
  simp only [List.length_nil, txL_len, dyL_len]
  omega
 split
 ·refine ⟨IsB.nil, IsB.nil, padB_isB _ (h.drop 2), ?_⟩
  simp only [padB, List.length_nil, List.length_append, List.length_take, List.length_replicate]
  omega
 ·exact ⟨IsB.nil, IsB.nil, IsB.nil, by simp only [List.length_nil]; omega⟩
end Go.Proofs.YtaeikeglaobeeaaGreat
