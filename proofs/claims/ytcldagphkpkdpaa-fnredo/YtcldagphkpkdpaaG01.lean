import Derived.Test.YtcldagphkpkdpaaG00
import Derived.Deep.DeepCutAuto
import Derived.Deep.RegionHeld3
import Derived.OrdersHeld
import Derived.RangeFuncWrites
import Derived.RangeFuncCalls
import Derived.RangeFuncLeaves
import Derived.TacticsIn
import Derived.OrdersIn
import Derived.Deep.AppendSrc
import Derived.Deep.AppendLies
namespace Go.Proofs.Ytcldagphkpkdpaa
set_option maxRecDepth 100000
set_option maxHeartbeats 16000000
set_option linter.unusedVariables false
set_option linter.unusedSimpArgs false
open Go.RowKit Go
structure StPageRecord where
 used : Bool
 data : BS
def StPageRecord.val (x : StPageRecord) : Value := .agg #[.bool x.used, x.data.v]
def StPageRecord.rows (x : StPageRecord) : List Row := x.data.rows
def StPageRecord.dat (x : StPageRecord) : Bool × List Int := (x.used, x.data.bs)
def StPageRecord.size (x : StPageRecord) : Int := (x.data.bs.length : Int)
def StPageRecord.marked (x : StPageRecord) (k : Int) : StPageRecord := ⟨x.used, x.data.marked (k)⟩
def StPageRecord.rd (w : World) (x : StPageRecord) : Prop := Rd .u8 w x.data.v x.data.bs
theorem StPageRecord.rd.kept {R : Nat → Prop} {w w' : World} {x : StPageRecord} (h : StPageRecord.rd w x) (hk : Kept R w w') (hr : ∀ b, FootL x.rows b → ¬ R b) : StPageRecord.rd w' x :=
 Rd.kept (h) hk (fun b hb => hr b (((footL_ints _ _ _ _ _).2 hb)))
theorem StPageRecord.rd.same {w w' : World} {x : StPageRecord} (h : StPageRecord.rd w x) (hk : Same w w') : StPageRecord.rd w' x := h.kept hk (fun _ _ => id)
theorem StPageRecord.own_rd {w : World} {x : StPageRecord} (h : OwnL w x.rows) : StPageRecord.rd w x :=
 (OwnL.of_one h).rd
def StPageRecord.szs (x : StPageRecord) : Int := (x.data.bs.length : Int)
theorem StPageRecord.szs_le (x : StPageRecord) : 0 ≤ x.szs := by
 unfold StPageRecord.szs
 omega
def RdF (m : Nat) (w : World) (x : FR) : Prop :=
 x.n ≤ maxLen ∧ x.bs.length = x.n * m ∧ (x.n = 0 ∨ ∃ b off, x.a = some ⟨b, off, none⟩ ∧ x.n ≤ x.c ∧ ∀ i, i < x.n * m → w.cell? ⟨b, off + i, none⟩ = some (.int .i64 (x.bs.getD i 0)))
theorem RdF.kept {R : Nat → Prop} {m : Nat} {w w' : World} {x : FR} (h : RdF m w x) (hk : Kept R w w') (hr : ∀ b, x.v.ownBlock = some b → ¬ R b) : RdF m w' x := by
 refine ⟨h.1, h.2.1, ?_⟩
 rcases h.2.2 with h | ⟨b, off, he, hle, hc⟩
 ·exact .inl h
 ·exact .inr ⟨b, off, he, hle, fun i hi => hk.cellOf (hc i hi) (hr b (by simp [FR.v, he, Value.ownBlock]))⟩
theorem RdF.same {m : Nat} {w w' : World} {x : FR} (h : RdF m w x) (hk : Same w w') : RdF m w' x := h.kept hk (fun _ _ => id)
def OwnF (m : Nat) (e : TypeId) (w : World) (g n c : Nat) (bs : List Int) : Prop := w.ownsRow 0 e m (.slice (some ⟨g, 0, none⟩) n c) n (vals .i64 bs)
theorem FR.own_one {m : Nat} {w : World} {x : FR} (h : OwnL w (x.rows m)) : w.ownsRow 0 x.e m x.v x.n (vals .i64 x.bs) := h.own _ (List.mem_singleton.2 rfl)
theorem FR.own_len {m : Nat} {w : World} {x : FR} (h : OwnL w (x.rows m)) : x.bs.length = x.n * m := by
 have := (FR.own_one h).1
 rwa [vals_length] at this
theorem FR.own_form {m : Nat} {w : World} {x : FR} (h : OwnL w (x.rows m)) : (x.n = 0 ∧ x.a = none ∧ x.c = 0) ∨ ∃ g, x.a = some ⟨g, 0, none⟩ ∧ x.n ≤ x.c ∧ x.c ≤ maxLen ∧ OwnF m x.e w g x.n x.c x.bs := by
 have h1 := FR.own_one h
 rcases h1.2 with ⟨h2, h3⟩ | ⟨g, cap, cur, hv, hb, hgg, hc, hm, hs, ht⟩
 ·simp only [FR.v] at h2
  injection h2 with a1 a2 a3
  exact .inl ⟨a2, a1, a3⟩
 ·have hv' := hv
  simp only [FR.v] at hv'
  injection hv' with a1 a2 a3
  refine .inr ⟨g, a1, by omega, by omega, ?_⟩
  unfold OwnF
  rw [a3, ← hv]
  exact h1
theorem OwnF.cell {m : Nat} {e : TypeId} {w : World} {g n c : Nat} {bs : List Int} (h : OwnF m e w g n c bs) (j : Nat) (hj : j < n * m) : w.cell? ⟨g, j, none⟩ = some (.int .i64 (bs.getD j 0)) := by
 have h1 := h.1
 rw [vals_length] at h1
 rw [World.ownsRow.cellAt h j hj, vals_at .i64 bs j (by omega)]
theorem OwnF.frozen {m : Nat} {e : TypeId} {w : World} {g n c : Nat} {bs : List Int} (h : OwnF m e w g n c bs) (j : Nat) : w.frozen? ⟨g, j, none⟩ = false := World.ownsRow.frozenAt h j
theorem OwnF.stored {m : Nat} {e : TypeId} {w : World} {g n c : Nat} {bs : List Int} (h : OwnF m e w g n c bs) (j : Nat) (x : Int) : OwnF m e (w.setCell ⟨g, j, none⟩ (.int .i64 x)) g n c (bs.set j x) := by
 have := (World.ownsRow.stored h j (.int .i64 x)).1
 unfold OwnF
 have e : vals .i64 (bs.set j x) = (vals .i64 bs).set j (.int .i64 x) := by simp [vals]
 rw [e]
 exact this
theorem OwnF.same {m : Nat} {e : TypeId} {w w' : World} {g n c : Nat} {bs : List Int} (h : OwnF m e w g n c bs) (hk : Same w w') : OwnF m e w' g n c bs := hk.owns h (fun _ _ => id)
theorem OwnF.out {m : Nat} {e : TypeId} {w : World} {g n c : Nat} {bs : List Int} (h : OwnF m e w g n c bs) : OwnL w (FR.rows m ⟨e, some ⟨g, 0, none⟩, n, c, bs⟩) :=
 ⟨fun r hr => by rw [List.mem_singleton.1 hr]; exact h, List.pairwise_singleton _ _⟩
theorem FR.own_rd {m : Nat} {w : World} {x : FR} (h : OwnL w (x.rows m)) : RdF m w x := by
 have hl := FR.own_len h
 rcases FR.own_form h with ⟨h1, h2, h3⟩ | ⟨g, h1, h2, h3, h4⟩
 ·exact ⟨by rw [h1]; exact Nat.zero_le _, hl, .inl h1⟩
 ·exact ⟨by omega, hl, .inr ⟨g, 0, h1, h2, fun i hi => by rw [Nat.zero_add]; exact h4.cell i hi⟩⟩
structure StLogRecord where
 kind : Int
 txn : Int
 prev : Int
 page : Int
 slot : Int
 before : StPageRecord
 after : StPageRecord
 uN : Int
 nT : Int
 txns : FR
 dirty : FR
 image : BS
def StLogRecord.val (x : StLogRecord) : Value := .agg #[.int .i64 x.kind, .int .i64 x.txn, .int .i64 x.prev, .int .i64 x.page, .int .i64 x.slot, .bool x.before.used, x.before.data.v, .bool x.after.used, x.after.data.v, .int .i64 x.uN, .int .i64 x.nT, x.txns.v, x.dirty.v, x.image.v]
def StLogRecord.rows (x : StLogRecord) : List Row := x.before.rows ++ (x.after.rows ++ ((x.txns).rows 4 ++ ((x.dirty).rows 2 ++ (x.image.rows))))
abbrev RcY : Type := Int × Int × Int × Int × Int × (Bool × List Int) × (Bool × List Int) × Int × Int × List Int × List Int × List Int
def StLogRecord.dat (x : StLogRecord) : RcY := (x.kind, x.txn, x.prev, x.page, x.slot, x.before.dat, x.after.dat, x.uN, x.nT, x.txns.bs, x.dirty.bs, x.image.bs)
def StLogRecord.size (x : StLogRecord) : Int := x.before.size + x.after.size + (x.txns.bs.length : Int) + (x.dirty.bs.length : Int) + (x.image.bs.length : Int)
def StLogRecord.marked (x : StLogRecord) (k : Int) : StLogRecord := ⟨x.kind, x.txn, x.prev, x.page, x.slot, x.before.marked (k), x.after.marked (k + x.before.size), x.uN, x.nT, x.txns.marked (k + x.before.size + x.after.size), x.dirty.marked (k + x.before.size + x.after.size + (x.txns.bs.length : Int)), x.image.marked (k + x.before.size + x.after.size + (x.txns.bs.length : Int) + (x.dirty.bs.length : Int))⟩
def StLogRecord.rd (w : World) (x : StLogRecord) : Prop := StPageRecord.rd w x.before ∧ StPageRecord.rd w x.after ∧ RdF 4 w x.txns ∧ RdF 2 w x.dirty ∧ Rd .u8 w x.image.v x.image.bs
theorem StLogRecord.rd.kept {R : Nat → Prop} {w w' : World} {x : StLogRecord} (h : StLogRecord.rd w x) (hk : Kept R w w') (hr : ∀ b, FootL x.rows b → ¬ R b) : StLogRecord.rd w' x :=
 ⟨StPageRecord.rd.kept (h.1) hk (fun b hb => hr b ((FootL_append _ _ _).2 (.inl hb))), StPageRecord.rd.kept (h.2.1) hk (fun b hb => hr b ((FootL_append _ _ _).2 (.inr ((FootL_append _ _ _).2 (.inl hb))))), RdF.kept (h.2.2.1) hk (fun b hb => hr b ((FootL_append _ _ _).2 (.inr ((FootL_append _ _ _).2 (.inr ((FootL_append _ _ _).2 (.inl ((FootL_one _ _).2 hb)))))))), RdF.kept (h.2.2.2.1) hk (fun b hb => hr b ((FootL_append _ _ _).2 (.inr ((FootL_append _ _ _).2 (.inr ((FootL_append _ _ _).2 (.inr ((FootL_append _ _ _).2 (.inl ((FootL_one _ _).2 hb)))))))))), Rd.kept (h.2.2.2.2) hk (fun b hb => hr b ((FootL_append _ _ _).2 (.inr ((FootL_append _ _ _).2 (.inr ((FootL_append _ _ _).2 (.inr ((FootL_append _ _ _).2 (.inr (((footL_ints _ _ _ _ _).2 hb)))))))))))⟩
theorem StLogRecord.rd.same {w w' : World} {x : StLogRecord} (h : StLogRecord.rd w x) (hk : Same w w') : StLogRecord.rd w' x := h.kept hk (fun _ _ => id)
theorem StLogRecord.own_rd {w : World} {x : StLogRecord} (h : OwnL w x.rows) : StLogRecord.rd w x :=
 ⟨(StPageRecord.own_rd h.left), (StPageRecord.own_rd h.right.left), (FR.own_rd h.right.right.left), (FR.own_rd h.right.right.right.left), (OwnL.of_one h.right.right.right.right).rd⟩
def StLogRecord.szs (x : StLogRecord) : Int := x.before.szs + x.after.szs + (x.txns.n : Int) + (x.dirty.n : Int) + (x.image.bs.length : Int)
theorem StLogRecord.szs_le (x : StLogRecord) : 0 ≤ x.szs := by
 unfold StLogRecord.szs
 have h0 := x.before.szs_le
 have h1 := x.after.szs_le
 omega
structure StLogFrame where
 lsn : Int
 epoch : Int
 record : StLogRecord
def StLogFrame.val (x : StLogFrame) : Value := .agg #[.int .i64 x.lsn, .int .i64 x.epoch, .int .i64 x.record.kind, .int .i64 x.record.txn, .int .i64 x.record.prev, .int .i64 x.record.page, .int .i64 x.record.slot, .bool x.record.before.used, x.record.before.data.v, .bool x.record.after.used, x.record.after.data.v, .int .i64 x.record.uN, .int .i64 x.record.nT, x.record.txns.v, x.record.dirty.v, x.record.image.v]
def StLogFrame.rows (x : StLogFrame) : List Row := x.record.rows
def StLogFrame.dat (x : StLogFrame) : Int × Int × RcY := (x.lsn, x.epoch, x.record.dat)
def StLogFrame.size (x : StLogFrame) : Int := x.record.size
def StLogFrame.marked (x : StLogFrame) (k : Int) : StLogFrame := ⟨x.lsn, x.epoch, x.record.marked (k)⟩
def StLogFrame.rd (w : World) (x : StLogFrame) : Prop := StLogRecord.rd w x.record
theorem StLogFrame.rd.kept {R : Nat → Prop} {w w' : World} {x : StLogFrame} (h : StLogFrame.rd w x) (hk : Kept R w w') (hr : ∀ b, FootL x.rows b → ¬ R b) : StLogFrame.rd w' x :=
 StLogRecord.rd.kept (h) hk (fun b hb => hr b (hb))
theorem StLogFrame.rd.same {w w' : World} {x : StLogFrame} (h : StLogFrame.rd w x) (hk : Same w w') : StLogFrame.rd w' x := h.kept hk (fun _ _ => id)
theorem StLogFrame.own_rd {w : World} {x : StLogFrame} (h : OwnL w x.rows) : StLogFrame.rd w x :=
 (StLogRecord.own_rd h)
def StLogFrame.szs (x : StLogFrame) : Int := x.record.szs
theorem StLogFrame.szs_le (x : StLogFrame) : 0 ≤ x.szs := by
 unfold StLogFrame.szs
 have h0 := x.record.szs_le
 omega
def StLogFrame.cells (x : StLogFrame) : List Value := [.int .i64 x.lsn, .int .i64 x.epoch, .int .i64 x.record.kind, .int .i64 x.record.txn, .int .i64 x.record.prev, .int .i64 x.record.page, .int .i64 x.record.slot, .bool x.record.before.used, x.record.before.data.v, .bool x.record.after.used, x.record.after.data.v, .int .i64 x.record.uN, .int .i64 x.record.nT, x.record.txns.v, x.record.dirty.v, x.record.image.v]
def kFr : RowK StLogFrame := ⟨16, StLogFrame.cells, fun _ => rfl, fun _ => .slice none 0 0, fun _ => []⟩
def datFr (ps : List StLogFrame) := ps.map StLogFrame.dat
def szsFr (ps : List StLogFrame) := ps.map StLogFrame.szs
def frRows (ps : List StLogFrame) : List Row := ps.flatMap StLogFrame.rows
theorem datFr_length (ps : List StLogFrame) : (datFr ps).length = ps.length := by simp [datFr]
theorem datFr_at {ps qs : List StLogFrame} (h : datFr ps = datFr qs) (k : Nat) (h1 : k < ps.length) (h2 : k < qs.length) : ps[k].dat = qs[k].dat := by
 have e : (datFr ps)[k]'(by rw [datFr_length]; exact h1) = (datFr qs)[k]'(by rw [datFr_length]; exact h2) := by simp only [h]
 simpa [datFr] using e
theorem frRows_append (ps qs : List StLogFrame) : frRows (ps ++ qs) = frRows ps ++ frRows qs := by simp [frRows]
theorem frRows_cons (p : StLogFrame) (ps : List StLogFrame) : frRows (p :: ps) = p.rows ++ frRows ps := by simp [frRows]
theorem footRows_mem {ps : List StLogFrame} {b : Nat} : FootL (frRows ps) b ↔ ∃ p ∈ ps, FootL p.rows b := by
 unfold FootL frRows
 constructor
 ·rintro ⟨r, hr, hb⟩
  obtain ⟨p, hp, hr⟩ := List.mem_flatMap.1 hr
  exact ⟨p, hp, r, hr, hb⟩
 ·rintro ⟨p, hp, r, hr, hb⟩
  exact ⟨r, List.mem_flatMap.2 ⟨p, hp, hr⟩, hb⟩
structure OwnFr (w : World) (v : Value) (ps : List StLogFrame) : Prop where
 own : OwnR kFr 0 50 5 w v ps
 rows : OwnL w (frRows ps)
 out : ∀ b, v.ownBlock = some b → ¬ FootL (frRows ps) b
def footFr (v : Value) (ps : List StLogFrame) (b : Nat) : Prop := v.ownBlock = some b ∨ FootL (frRows ps) b
structure RdFr (w : World) (v : Value) (ps : List StLogFrame) : Prop where
 row : RdR kFr w v ps
 data : ∀ p ∈ ps, StLogFrame.rd w p
theorem footFr_head {v : Value} {ps : List StLogFrame} {b : Nat} (h : footR kFr v ps b) : v.ownBlock = some b := by
 rcases h with h | ⟨p, _, h⟩
 ·exact h
 ·simp [kFr, Value.ownBlock] at h
theorem OwnFr.kept {R : Nat → Prop} {w w' : World} {v : Value} {ps : List StLogFrame} (h : OwnFr w v ps) (hk : Kept R w w') (hr : ∀ b, footFr v ps b → ¬ R b) : OwnFr w' v ps :=
 ⟨h.own.kept hk (fun b hb => hr b (.inl (footFr_head hb))), h.rows.kept hk (fun b hb => hr b (.inr hb)), h.out⟩
theorem OwnFr.same {w w' : World} {v : Value} {ps : List StLogFrame} (h : OwnFr w v ps) (hk : Same w w') : OwnFr w' v ps := h.kept hk (fun _ _ => id)
theorem OwnFr.lt {w : World} {v : Value} {ps : List StLogFrame} (h : OwnFr w v ps) (b : Nat) (hb : footFr v ps b) : b < w.heap.size := by
 rcases hb with hb | hb
 ·exact (h.own.lt b (.inl hb)).2
 ·exact h.rows.lt b hb
theorem OwnL.mem {w : World} {ps : List StLogFrame} (h : OwnL w (frRows ps)) (p : StLogFrame) (hp : p ∈ ps) : OwnL w p.rows := by
 obtain ⟨a, c, rfl⟩ := List.append_of_mem hp
 rw [frRows_append, frRows_cons] at h
 exact h.right.left
theorem OwnFr.rd {w : World} {v : Value} {ps : List StLogFrame} (h : OwnFr w v ps) : RdFr w v ps := ⟨h.own.rd, fun p hp => StLogFrame.own_rd (h.rows.mem p hp)⟩
theorem RdFr.same {w w' : World} {v : Value} {ps : List StLogFrame} (h : RdFr w v ps) (hk : Same w w') : RdFr w' v ps := ⟨h.row.same hk, fun p hp => (h.data p hp).same hk⟩
theorem RdFr.form {w : World} {v : Value} {ps : List StLogFrame} (h : RdFr w v ps) : ∃ a c, v = .slice a ps.length c := h.row.form
def sizeFr : List StLogFrame → Int
 | [] => 0
 | p :: ps => p.szs + sizeFr ps
theorem sizeFr_nonneg (ps : List StLogFrame) : 0 ≤ sizeFr ps := by
 induction ps with
 | nil => exact Int.le_refl _
 | cons p ps ih => have := p.szs_le; simp only [sizeFr]; omega
theorem sizeFr_mem (ps : List StLogFrame) (p : StLogFrame) (h : p ∈ ps) : p.szs ≤ sizeFr ps := by
 induction ps with
 | nil => simp at h
 | cons q ps ih =>
  have h1 := sizeFr_nonneg ps
  have h2 := q.szs_le
  rcases List.mem_cons.1 h with rfl | h
  ·simp only [sizeFr]; omega
  ·have := ih h; simp only [sizeFr]; omega
theorem sizeFr_szs {ps qs : List StLogFrame} (h : szsFr qs = szsFr ps) : sizeFr qs = sizeFr ps := by
 have key : ∀ rs : List StLogFrame, sizeFr rs = (szsFr rs).sum := fun rs => by
  induction rs with
  | nil => rfl
  | cons p rs ih => simp only [sizeFr, szsFr, List.map_cons, List.sum_cons]; rw [ih]; rfl
 rw [key, key, h]
variable {E : Type}
section
variable {K : RowK E} {base : Nat} {tw tb : TypeId} {w w' : World} {v : Value} {qs : List E}
theorem OwnR.snoc {g n cap : Nat} (p : E) (h : OwnR K base tw tb w v qs) (hu : Own base tb .u8 w (K.v p) (K.bs p)) (huf : ∀ b, (K.v p).ownBlock = some b → ¬ footR K v qs b)
  (hg : w.grownBy w' v.ownBlock) (hrow : w'.ownsRow base tw K.m (.slice (some ⟨g, 0, none⟩) (n + 1) cap) (n + 1) (K.all qs ++ K.cells p)) (hn : n = qs.length) (hat : v.ownBlock = some g ∨ g = w.heap.size) :
  OwnR K base tw tb w' (.slice (some ⟨g, 0, none⟩) (n + 1) cap) (qs ++ [p]) := by
 have hk : Kept (fun b => v.ownBlock = some b) w w' := Kept.of_grown hg (fun k e => e)
 have hul : ∀ b, (K.v p).ownBlock = some b → b < w.heap.size := fun b hb => (hu.lt b hb).2
 have hgu : (K.v p).ownBlock ≠ some g := fun e => by
  rcases hat with hat | hat
  ·exact huf g e (.inl hat)
  ·have := hul g e; omega
 have hgp : ∀ q ∈ qs, (K.v q).ownBlock ≠ some g := fun q hp e => by
  rcases hat with hat | hat
  ·exact h.out (K.v q) (List.mem_map_of_mem hp) g hat e
  ·have := (h.lt g (.inr ⟨q, hp, e⟩)).2; omega
 refine ⟨?_, fun q hp => ?_, fun x hx => ?_, ?_⟩
 ·have e : K.all (qs ++ [p]) = K.all qs ++ K.cells p := by rw [K.all_append]; simp [RowK.all]
  rw [e, List.length_append, List.length_singleton, ← hn]
  exact hrow
 ·rcases List.mem_append.1 hp with hp | hp
  ·exact (h.data q hp).kept hk (fun b hb e => h.out (K.v q) (List.mem_map_of_mem hp) b e hb)
  ·simp at hp
   subst hp
   exact hu.kept hk (fun b hb e => huf b hb (.inl e))
 ·rw [List.map_append, List.mem_append] at hx
  intro b hb
  have hb' : b = g := by simpa [Value.ownBlock] using hb.symm
  subst hb'
  rcases hx with hx | hx
  ·obtain ⟨q, hp, rfl⟩ := List.mem_map.1 hx
   exact hgp q hp
  ·simp at hx
   subst hx
   exact hgu
 ·rw [List.map_append]
  refine List.pairwise_append.2 ⟨h.each, by simp, fun x hx y hy => ?_⟩
  obtain ⟨q, hp, rfl⟩ := List.mem_map.1 hx
  simp at hy
  subst hy
  exact fun b hb hb' => huf b hb' (.inr ⟨q, hp, hb⟩)
theorem list_mid {qs : List E} {k : Nat} (h : k < qs.length) : qs = qs.take k ++ qs[k] :: qs.drop (k + 1) := by
 rw [← List.drop_eq_getElem_cons h, List.take_append_drop]
theorem set_mid {qs : List E} {k : Nat} (h : k < qs.length) (p : E) : qs.set k p = qs.take k ++ p :: qs.drop (k + 1) := List.set_eq_take_append_cons_drop.trans (if_pos h)
theorem OwnR.setAt {g n cap k : Nat} {p' : E} (h : OwnR K base tw tb w (.slice (some ⟨g, 0, none⟩) n cap) qs) (hn : n = qs.length) (hk : k < qs.length) (i : Nat) (u : Value) (hi : i < K.m)
  (hc : K.cells p' = (K.cells qs[k]).set i u) (hv : K.v p' = K.v qs[k]) (hb : K.bs p' = K.bs qs[k]) (j : Nat) (hj : j = k * K.m + i) :
  OwnR K base tw tb (w.setCell ⟨g, j, none⟩ u) (.slice (some ⟨g, 0, none⟩) n cap) (qs.set k p') := by
 have h' := h
 rw [list_mid hk] at h'
 rw [set_mid hk]
 exact OwnR.set h' (by rw [← list_mid hk]; exact hn) i u hi hc hv hb j (by rw [List.length_take, Nat.min_eq_left (Nat.le_of_lt hk)]; exact hj)
end
section
variable {P : Program} {ops : Array Oper} {Q : Exit → Act → World → Prop} {md : Region.Mode} {S : World → Prop} {s : Nat}
def wpAnyV (P : Program) (md : Region.Mode) (ops : Array Oper) (Q : Exit → Act → World → Prop) (S : World → Prop) (s : Nat) : Nat → Array Bool → Act → World → Prop
 | 0, listed, a, w => Region.ready md ops listed = [] ∧ Q .normal a w
 | fuel + 1, listed, a, w =>
  (Region.ready md ops listed = [] → Q .normal a w) ∧
  ∀ i ∈ Region.ready md ops listed, wpOp P ops Q i (fun a' w' => (i ≠ s → S w') ∧ wpAnyV P md ops Q S s fuel (listed.setIfInBounds i true) a' w') a w
theorem wpAny_of_V : ∀ (fuel : Nat) (listed : Array Bool) (a : Act) (w : World), wpAnyV P md ops Q S s fuel listed a w → wpAny P md ops Q fuel listed a w
 | 0, _, _, _, h => h
 | fuel + 1, _, _, _, h => ⟨h.1, fun i hi => wpOp_mono (fun a' w' h' => wpAny_of_V fuel _ a' w' h'.2) (h.2 i hi)⟩
def waits (md : Region.Mode) (ops : Array Oper) (s i : Nat) : Bool :=
 match ops[s]? with
 | some o => o.after.any fun e => Region.binds md e && e.on == i
 | none => true
theorem waits_spec {i : Nat} (h : waits md ops s i = true) {os : Oper} (ho : ops[s]? = some os) (hn : ∀ e ∈ os.after, Region.binds md e = true → e.on ≠ i) : False := by
 unfold waits at h
 rw [ho] at h
 obtain ⟨e, he, hb⟩ := Array.any_eq_true'.1 h
 simp only [Bool.and_eq_true, beq_iff_eq] at hb
 exact hn e he hb.1 hb.2
theorem ready_apart {listed : Array Bool} {i j : Nat} (hi : i ∈ Region.ready md ops listed) (hj : j ∈ Region.ready md ops listed) {oj : Oper} (hoj : ops[j]? = some oj) :
  ∀ e ∈ oj.after, Region.binds md e = true → e.on ≠ i := by
 rintro e he hb rfl
 obtain ⟨_, o, ho, hall⟩ := mem_ready.1 hj
 obtain rfl : o = oj := by rw [hoj] at ho; exact (Option.some.inj ho).symm
 have hyes := hall e he hb
 have hno := (mem_ready.1 hi).1
 by_cases hl : e.on < listed.size <;> simp_all
def Loose (md : Region.Mode) (ops : Array Oper) (i : Nat) (oi : Oper) (listed : Array Bool) : Prop :=
 ∀ j oj, ops[j]? = some oj → j ≠ i → listed.getD j true = false → (∀ e ∈ oj.after, Region.binds md e = true → e.on ≠ i) → oi.apart ops oj = true
theorem Loose.on {i j : Nat} {oi : Oper} {listed : Array Bool} (h : Loose md ops i oi listed) (hj : listed.getD j true = false) : Loose md ops i oi (listed.setIfInBounds j true) := fun k ok hk hki hun hno =>
 h k ok hk hki (if e : j = k then e ▸ hj else (getD_set_ne true e) ▸ hun) hno
theorem wpAnyV_first {i : Nat} {oi : Oper} {v : Value} (hi : ops[i]? = some oi) (hsel : ∀ (j : Nat) (o : Oper) cs b, ops[j]? = some o → o.op ≠ .select cs b) (hs : waits md ops s i = true)
  (hQ : ∀ c a w, Q (.panic c) (a.put oi.dst v) w → Q (.panic c) a w) (fuel : Nat) : ∀ (listed : Array Bool) (a : Act) (w : World), Loose md ops i oi listed → i ∈ Region.ready md ops listed → YieldsIf P ops S oi v a → S w →
   wpAnyV P md ops Q S s fuel (listed.setIfInBounds i true) (a.put oi.dst v) w → wpAnyV P md ops Q S s (fuel + 1) listed a w := by
 induction fuel with
 | zero =>
  intro listed a w _ hr hy hS H
  constructor
  ·intro h0; simp [h0] at hr
  ·intro j hj
   by_cases e : j = i
   ·exact e ▸ hy.wpOp hi hS ⟨fun _ => hS, H⟩
   ·have := ready_mono hj e
    simp [H.1] at this
 | succ fuel ih =>
  intro listed a w hl hr hy hS H
  constructor
  ·intro h0; simp [h0] at hr
  ·intro j hj
   by_cases e : j = i
   ·exact e ▸ hy.wpOp hi hS ⟨fun _ => hS, H⟩
   ·obtain ⟨hun, oj, hoj, _⟩ := mem_ready.1 hj
    have hap := ready_apart hr hj hoj
    have hjs : j ≠ s := fun es => waits_spec hs (es ▸ hoj) hap
    refine wpOp_mono ?_ (wpOp_putIf hoj (hl j oj hoj e hun hap) (fun cs b => hsel i oi cs b hi) (fun cs b => hsel j oj cs b hoj) hQ hy (H.2 j (ready_mono hj e)))
    rintro a' w' ⟨hy', hS', hw'⟩
    exact ⟨hS', ih _ a' w' (hl.on hun) (ready_mono hr (Ne.symm e)) hy' (hS' hjs) (by rw [Array.setIfInBounds_comm _ _ e]; exact hw')⟩
theorem wpAnyV_take {i : Nat} {oi : Oper} {v : Value} {fuel : Nat} {listed : Array Bool} {a : Act} {w : World} (d : Option Tmp) (hi : ops[i]? = some oi) (hd : oi.dst = d)
  (hsl : Region.noSelect ops = true) (hf : Region.free md ops listed i = true) (hr : (Region.ready md ops listed).contains i = true) (hs : waits md ops s i = true)
  (hQ : ∀ c a w, Q (.panic c) (a.put d v) w → Q (.panic c) a w) (hy : YieldsIf P ops S oi v a) (hS : S w)
  (h : wpAnyV P md ops Q S s fuel (listed.setIfInBounds i true) (a.put d v) w) : wpAnyV P md ops Q S s (fuel + 1) listed a w := by
 subst hd
 exact wpAnyV_first hi (Region.noSelect_spec hsl) hs hQ fuel listed a w (Region.free_spec hi hf) (by simpa using hr) hy hS h
theorem sA {α : Type} {l : List α} {i : Nat} {a : α} : l.toArray.setIfInBounds i a = (l.set i a).toArray := List.setIfInBounds_toArray ..
theorem s0 {α : Type} {x : α} {xs : List α} {a : α} : (x :: xs).set 0 a = a :: xs := List.set_cons_zero
theorem sS {α : Type} {x : α} {xs : List α} {i : Nat} {a : α} : (x :: xs).set (i + 1) a = x :: xs.set i a := List.set_cons_succ
theorem tk (i d : Nat) {oi : Oper} {v : Value} {fuel : Nat} {listed : Array Bool} {a a' : Act} {w : World} (hS : S w)
  (h : wpAnyV P md ops Q S s fuel (listed.setIfInBounds i true) a' w) (hi : ops[i]? = some oi := by rfl) (hg : Region.wanted oi (yielded ops a.tmps) = true := by rfl) (hd : oi.dst = some d := by rfl)
  (hy : ∀ w, S w → (execOp a.eval oi).run P w = .ok (.value v) w := by intro w hSw; (try dsimp (config := { zetaDelta := true }) only at hSw); go_simp; (try with_reducible rfl))
  (hsl : Region.noSelect ops = true := by kernel_rfl) (hf : Region.free md ops listed i = true := by kernel_rfl) (hr : (Region.ready md ops listed).contains i = true := by kernel_rfl) (hs : waits md ops s i = true := by kernel_rfl)
  (hQ : ∀ c a w, Q (.panic c) (a.put (some d) v) w → Q (.panic c) a w := by exact fun _ _ _ h => h)
  (ha : a.put (some d) v = a' := by first | (simp only [Act.put, sA, s0, sS]; done) | (simp only [Act.put, sA, s0, sS]; rfl) | rfl) : wpAnyV P md ops Q S s (fuel + 1) listed a w :=
 wpAnyV_take (some d) hi hd hsl hf hr hs hQ (Or.inl ⟨hg, hy⟩) hS (ha ▸ h)
theorem tkV (i d : Nat) (v : Value) {oi : Oper} {fuel : Nat} {listed : Array Bool} {a a' : Act} {w : World} (hS : S w)
  (h : wpAnyV P md ops Q S s fuel (listed.setIfInBounds i true) a' w) (hi : ops[i]? = some oi := by rfl) (hg : Region.wanted oi (yielded ops a.tmps) = true := by rfl) (hd : oi.dst = some d := by rfl)
  (hy : ∀ w, S w → (execOp a.eval oi).run P w = .ok (.value v) w := by intro w hSw; (try dsimp (config := { zetaDelta := true }) only at hSw); go_simp; (try omega))
  (hsl : Region.noSelect ops = true := by kernel_rfl) (hf : Region.free md ops listed i = true := by kernel_rfl) (hr : (Region.ready md ops listed).contains i = true := by kernel_rfl) (hs : waits md ops s i = true := by kernel_rfl)
  (hQ : ∀ c a w, Q (.panic c) (a.put (some d) v) w → Q (.panic c) a w := by exact fun _ _ _ h => h)
  (ha : a.put (some d) v = a' := by first | (simp only [Act.put, sA, s0, sS]; done) | (simp only [Act.put, sA, s0, sS]; rfl) | rfl) : wpAnyV P md ops Q S s (fuel + 1) listed a w :=
 wpAnyV_take (some d) hi hd hsl hf hr hs hQ (Or.inl ⟨hg, hy⟩) hS (ha ▸ h)
theorem tkS (i d : Nat) {oi : Oper} {fuel : Nat} {listed : Array Bool} {a a' : Act} {w : World} (hS : S w)
  (h : wpAnyV P md ops Q S s fuel (listed.setIfInBounds i true) a' w) (hi : ops[i]? = some oi := by rfl) (hg : Region.wanted oi (yielded ops a.tmps) = false := by rfl) (hd : oi.dst = some d := by rfl)
  (hsl : Region.noSelect ops = true := by kernel_rfl) (hf : Region.free md ops listed i = true := by kernel_rfl) (hr : (Region.ready md ops listed).contains i = true := by kernel_rfl) (hs : waits md ops s i = true := by kernel_rfl)
  (hQ : ∀ c a w, Q (.panic c) (a.put (some d) undef) w → Q (.panic c) a w := by exact fun _ _ _ h => h)
  (ha : a.put (some d) undef = a' := by first | (simp only [Act.put, sA, s0, sS]; done) | (simp only [Act.put, sA, s0, sS]; rfl) | rfl) : wpAnyV P md ops Q S s (fuel + 1) listed a w :=
 wpAnyV_take (some d) hi hd hsl hf hr hs hQ (Or.inr ⟨hg, rfl⟩) hS (ha ▸ h)
theorem wpAnyV_one {i : Nat} {o : Oper} {fuel : Nat} {listed : Array Bool} {a : Act} {w : World} (hr : Region.ready md ops listed = [i]) (ho : ops[i]? = some o)
  (h : ∀ K' : Act → World → Prop, Shut (∀ a w, (i ≠ s → S w) → wpAnyV P md ops Q S s fuel (listed.setIfInBounds i true) a w → K' a w) → if Region.wanted o (yielded ops a.tmps) = true then Oper.wp P o a w K' Q else K' (a.put o.dst undef) w) :
  wpAnyV P md ops Q S s (fuel + 1) listed a w := by
 constructor
 ·intro h0; simp [hr] at h0
 ·intro j hj
  rw [hr] at hj
  obtain rfl : j = i := by simpa using hj
  exact wpOp_step ho (fun K' hK => h K' (fun a w hS hW => hK a w ⟨hS, hW⟩))
theorem wpAnyV_two {i j : Nat} {o o' : Oper} {fuel : Nat} {listed : Array Bool} {a : Act} {w : World} (hr : Region.ready md ops listed = [i, j]) (ho : ops[i]? = some o) (ho' : ops[j]? = some o')
  (h : ∀ K' : Act → World → Prop, Shut (∀ a w, (i ≠ s → S w) → wpAnyV P md ops Q S s fuel (listed.setIfInBounds i true) a w → K' a w) → if Region.wanted o (yielded ops a.tmps) = true then Oper.wp P o a w K' Q else K' (a.put o.dst undef) w)
  (h' : ∀ K' : Act → World → Prop, Shut (∀ a w, (j ≠ s → S w) → wpAnyV P md ops Q S s fuel (listed.setIfInBounds j true) a w → K' a w) → if Region.wanted o' (yielded ops a.tmps) = true then Oper.wp P o' a w K' Q else K' (a.put o'.dst undef) w) :
  wpAnyV P md ops Q S s (fuel + 1) listed a w := by
 constructor
 ·intro h0; simp [hr] at h0
 ·intro k hk
  rw [hr] at hk
  simp only [List.mem_cons, List.not_mem_nil, or_false] at hk
  rcases hk with rfl | rfl
  ·exact wpOp_step ho (fun K' hK => h K' (fun a w hS hW => hK a w ⟨hS, hW⟩))
  ·exact wpOp_step ho' (fun K' hK => h' K' (fun a w hS hW => hK a w ⟨hS, hW⟩))
theorem wpAnyV_done {fuel : Nat} {listed : Array Bool} {a : Act} {w : World} (hr : Region.ready md ops listed = []) (h : Q .normal a w) : wpAnyV P md ops Q S s fuel listed a w := by
 cases fuel with
 | zero => exact ⟨hr, h⟩
 | succ n => exact ⟨fun _ => h, by rw [hr]; simp⟩
theorem wp_region_V {id : Nat} {a : Act} {w : World} (S : World → Prop) (s n : Nat) (hn : ops.size = n) (hm : P.follows .mixedOrders = true) (h : wpAnyV P .any ops Q S s n (Array.replicate n false) a w.drew) : (Code.region id ops true).wp P Q a w := by
 subst hn
 exact wp_region_any hm (wpAny_of_V _ _ _ _ h)
end
section
variable {P : Program} {ops : Array Oper} {Q : Exit → Act → World → Prop} {l m : Nat}
end
def Bare (B : Nat) (w : World) (b : Nat) : Prop := B ≤ b ∧ ∃ o : Obj, w.heap[b]? = some o ∧ o.isCells = false
theorem Blk.not_bare {w : World} {b B : Nat} {e : TypeId} {vs : List Value} (h : Blk w b e vs) : ¬ Bare B w b := fun ⟨_, o, ho, hc⟩ => by
 rw [show w.heap[b]? = _ from h] at ho
 cases ho
 cases hc
theorem Own.not_bare {base : Nat} {e : TypeId} {k : IntKind} {w : World} {v : Value} {bs : List Int} {B b : Nat} (h : Own base e k w v bs) (hb : v.ownBlock = some b) : ¬ Bare B w b := fun ⟨_, o, ho, hc⟩ => by
 rcases h.2 with ⟨rfl, _⟩ | ⟨g, cap, cur, rfl, _, hg, _⟩
 ·simp [Value.ownBlock] at hb
 ·have : g = b := by simpa [Value.ownBlock] using hb
  subst this
  rw [hg] at ho
  cases ho
  cases hc
theorem OwnR.not_bare {E : Type} {K : RowK E} {base : Nat} {tw tb : TypeId} {w : World} {v : Value} {qs : List E} {B b : Nat} (h : OwnR K base tw tb w v qs) (hb : footR K v qs b) : ¬ Bare B w b := by
 rcases hb with hb | ⟨p, hp, hb⟩
 ·rintro ⟨_, o, ho, hc⟩
  rcases h.row.2 with ⟨rfl, _⟩ | ⟨g, cap, cur, rfl, _, hg, _⟩
  ·simp [Value.ownBlock] at hb
  ·have : g = b := by simpa [Value.ownBlock] using hb
   subst this
   rw [hg] at ho
   cases ho
   cases hc
 ·exact (h.data p hp).not_bare hb
theorem keepsFrom_of {R : Nat → Prop} {B : Nat} {W W' : World} (hk : Kept R W W') (hr : ∀ b, R b → ¬ Bare B W b) : KeepsFrom B W W' :=
 ⟨hk.size, fun k o hB ho hc => (hk.block k (Array.getElem?_eq_some_iff.1 ho).1 (fun e => hr k e ⟨hB, o, ho, hc⟩)).trans ho⟩
structure StFrameResult where
 code : Int
 fsz : Int
 epoch : Int
 record : StLogRecord
def StFrameResult.val (x : StFrameResult) : Value := .agg #[.int .i64 x.code, .int .i64 x.fsz, .int .i64 x.epoch, .int .i64 x.record.kind, .int .i64 x.record.txn, .int .i64 x.record.prev, .int .i64 x.record.page, .int .i64 x.record.slot, .bool x.record.before.used, x.record.before.data.v, .bool x.record.after.used, x.record.after.data.v, .int .i64 x.record.uN, .int .i64 x.record.nT, x.record.txns.v, x.record.dirty.v, x.record.image.v]
def StFrameResult.rows (x : StFrameResult) : List Row := x.record.rows
def StFrameResult.dat (x : StFrameResult) : Int × Int × Int × RcY := (x.code, x.fsz, x.epoch, x.record.dat)
def StFrameResult.size (x : StFrameResult) : Int := x.record.size
def StFrameResult.marked (x : StFrameResult) (k : Int) : StFrameResult := ⟨x.code, x.fsz, x.epoch, x.record.marked (k)⟩
def StFrameResult.rd (w : World) (x : StFrameResult) : Prop := StLogRecord.rd w x.record
theorem StFrameResult.rd.kept {R : Nat → Prop} {w w' : World} {x : StFrameResult} (h : StFrameResult.rd w x) (hk : Kept R w w') (hr : ∀ b, FootL x.rows b → ¬ R b) : StFrameResult.rd w' x :=
 StLogRecord.rd.kept (h) hk (fun b hb => hr b (hb))
theorem StFrameResult.rd.same {w w' : World} {x : StFrameResult} (h : StFrameResult.rd w x) (hk : Same w w') : StFrameResult.rd w' x := h.kept hk (fun _ _ => id)
theorem StFrameResult.own_rd {w : World} {x : StFrameResult} (h : OwnL w x.rows) : StFrameResult.rd w x :=
 (StLogRecord.own_rd h)
def StFrameResult.szs (x : StFrameResult) : Int := x.record.szs
theorem StFrameResult.szs_le (x : StFrameResult) : 0 ≤ x.szs := by
 unfold StFrameResult.szs
 have h0 := x.record.szs_le
 omega
structure UnB (w : World) (u : List Int) (g off cap : Nat) : Prop where
 le : u.length ≤ cap
 max : cap ≤ maxLen
 lt : g < w.heap.size
 there : ∀ j, j < cap → (w.cell? ⟨g, off + j, none⟩).isSome = true ∧ w.frozen? ⟨g, off + j, none⟩ = false
 cells : ∀ j, j < u.length → w.cell? ⟨g, off + j, none⟩ = some (.int .u8 (u.getD j 0))
def Un (lo : Nat) (w : World) (v : Value) (u : List Int) : Prop := (v = .slice none 0 0 ∧ u = []) ∨ ∃ g off cap, v = .slice (some ⟨g, off, none⟩) u.length cap ∧ lo ≤ g ∧ UnB w u g off cap
theorem Un.nil (lo : Nat) (w : World) : Un lo w (.slice none 0 0) [] := .inl ⟨rfl, rfl⟩
theorem Un.form {lo : Nat} {w : World} {v : Value} {u : List Int} (h : Un lo w v u) : ∃ a c, v = .slice a u.length c ∧ u.length ≤ c ∧ c ≤ maxLen ∧ (a = none → c = 0) := by
 rcases h with ⟨rfl, rfl⟩ | ⟨g, off, cap, rfl, _, h⟩
 ·exact ⟨none, 0, rfl, Nat.le_refl _, Nat.zero_le _, fun _ => rfl⟩
 ·exact ⟨_, cap, rfl, h.le, h.max, fun e => by cases e⟩
theorem Un.cap {lo : Nat} {w : World} {a : Option Addr} {n c : Nat} {u : List Int} (h : Un lo w (.slice a n c) u) : u.length ≤ c ∧ c ≤ maxLen := by
 obtain ⟨_, _, e, h1, h2, _⟩ := h.form
 simp only [Value.slice.injEq] at e
 rw [e.2.2]
 exact ⟨h1, h2⟩
theorem Un.rd {lo : Nat} {w : World} {v : Value} {u : List Int} (h : Un lo w v u) : Rd .u8 w v u := by
 rcases h with ⟨rfl, rfl⟩ | ⟨g, off, cap, rfl, _, h⟩
 ·exact ⟨Nat.zero_le _, .inl ⟨rfl, none, 0, rfl, fun _ => rfl⟩⟩
 ·exact ⟨Nat.le_trans h.le h.max, .inr ⟨g, off, cap, rfl, h.le, h.cells⟩⟩
theorem Un.kept {R : Nat → Prop} {lo : Nat} {w w' : World} {v : Value} {u : List Int} (h : Un lo w v u) (hk : Kept R w w') (hr : ∀ b, lo ≤ b → v.ownBlock = some b → (∃ j, (w.cell? ⟨b, j, none⟩).isSome = true) → ¬ R b) : Un lo w' v u := by
 rcases h with h | ⟨g, off, cap, rfl, hl, h⟩
 ·exact .inl h
 ·refine .inr ⟨g, off, cap, rfl, hl, h.le, h.max, Nat.lt_of_lt_of_le h.lt hk.size, fun j hj => ?_, fun j hj => ?_⟩
  ·have hn := hr g hl rfl ⟨_, (h.there j hj).1⟩
   rw [hk.cell (p := ⟨g, off + j, none⟩) h.lt hn, hk.frozen (p := ⟨g, off + j, none⟩) h.lt hn]
   exact h.there j hj
  ·have hn := hr g hl rfl ⟨_, (h.there j (Nat.lt_of_lt_of_le hj h.le)).1⟩
   rw [hk.cell (p := ⟨g, off + j, none⟩) h.lt hn]
   exact h.cells j hj
theorem Un.same {lo : Nat} {w w' : World} {v : Value} {u : List Int} (h : Un lo w v u) (hk : Same w w') : Un lo w' v u := h.kept hk (fun _ _ _ _ => id)
theorem Un.lt {lo : Nat} {w : World} {v : Value} {u : List Int} (h : Un lo w v u) (b : Nat) (hb : v.ownBlock = some b) : lo ≤ b ∧ b < w.heap.size := by
 rcases h with ⟨rfl, rfl⟩ | ⟨g, off, cap, rfl, hl, h⟩
 ·simp [Value.ownBlock] at hb
 ·have e : g = b := by simpa [Value.ownBlock] using hb
  subst e
  exact ⟨hl, h.lt⟩
theorem bare_cell {B b j : Nat} {w : World} (h : (w.cell? ⟨b, j, none⟩).isSome = true) : ¬ Bare B w b := fun ⟨_, o, ho, hc⟩ => by
 have hlt : b < w.heap.size := (Array.getElem?_eq_some_iff.1 ho).1
 cases o <;> simp_all [World.cell?, Obj.isCells]
theorem Un.turn {lo B : Nat} {w w' : World} {v : Value} {u : List Int} (h : Un lo w v u) (hk : Kept (Bare B w) w w') : Un lo w' v u := h.kept hk (fun _ _ _ ⟨_, hj⟩ => bare_cell hj)
theorem Un.drop {lo : Nat} {w : World} {g off cap n : Nat} {u : List Int} (h : Un lo w (.slice (some ⟨g, off, none⟩) u.length cap) u) (hn : n ≤ u.length) : Un lo w (.slice (some ⟨g, off + n, none⟩) (u.length - n) (cap - n)) (u.drop n) := by
 rcases h with ⟨h, _⟩ | ⟨g', off', cap', e, hl, h⟩
 ·simp at h
 ·simp only [Value.slice.injEq, Option.some.injEq, Addr.mk.injEq, and_true, true_and] at e
  obtain ⟨⟨rfl, rfl⟩, rfl⟩ := e
  refine .inr ⟨g, off + n, cap - n, by rw [List.length_drop], hl, by rw [List.length_drop]; have := h.le; omega, by have := h.max; omega, h.lt, fun j hj => ?_, fun j hj => ?_⟩
  ·rw [Nat.add_assoc]
   exact h.there (n + j) (by omega)
  ·rw [List.length_drop] at hj
   rw [Nat.add_assoc, h.cells (n + j) (by omega)]
   simp [List.getD, List.getElem?_drop]
theorem OwnFr.snoc {g n cap : Nat} {w w' : World} {v : Value} {qs : List StLogFrame} (p : StLogFrame) (h : OwnFr w v qs) (hp : OwnL w p.rows) (hd : ∀ b, FootL p.rows b → ¬ footFr v qs b)
  (hg : w.grownBy w' v.ownBlock) (hrow : w'.ownsRow 0 50 16 (.slice (some ⟨g, 0, none⟩) (n + 1) cap) (n + 1) (kFr.all qs ++ p.cells)) (hn : n = qs.length) (hat : v.ownBlock = some g ∨ g = w.heap.size) :
  OwnFr w' (.slice (some ⟨g, 0, none⟩) (n + 1) cap) (qs ++ [p]) := by
 have hk : Kept (fun b => v.ownBlock = some b) w w' := Kept.of_grown hg (fun k e => e)
 have e : frRows (qs ++ [p]) = frRows qs ++ p.rows := by rw [frRows_append]; simp [frRows]
 refine ⟨h.own.snoc (K := kFr) p (Own.nil _ _ _ _) (fun b hb => by simp [kFr, Value.ownBlock] at hb) hg hrow hn hat, ?_, ?_⟩
 ·rw [e]
  exact (h.rows.kept hk (fun b hb hv => h.out b hv hb)).append (hp.kept hk (fun b hb hv => hd b hb (.inl hv))) (fun b hb hb' => hd b hb' (.inr hb))
 ·intro b hb hf
  have hb' : g = b := by simpa [Value.ownBlock] using hb
  subst hb'
  rw [e] at hf
  rcases (FootL_append _ _ _).1 hf with hf | hf
  ·rcases hat with hat | hat
   ·exact h.out _ hat hf
   ·have := h.rows.lt _ hf; omega
  ·rcases hat with hat | hat
   ·exact hd _ hf (.inl hat)
   ·have := hp.lt _ hf; omega
theorem footFr_snoc {g n cap : Nat} {v : Value} {qs : List StLogFrame} {p : StLogFrame} (b : Nat) (hb : footFr (.slice (some ⟨g, 0, none⟩) n cap) (qs ++ [p]) b) : b = g ∨ footFr v qs b ∨ FootL p.rows b := by
 rcases hb with hb | hb
 ·exact .inl (by simpa [Value.ownBlock] using hb.symm)
 ·rw [frRows_append] at hb
  rcases (FootL_append _ _ _).1 hb with hb | hb
  ·exact .inr (.inl (.inr hb))
  ·exact .inr (.inr (by simpa [frRows] using hb))
theorem OwnFr.nil (w : World) : OwnFr w (.slice none 0 0) [] := ⟨OwnR.nil _ _ _ _ _, OwnL.nil _, fun b hb => by simp [Value.ownBlock] at hb⟩
def StFrameResult.fr (y : StFrameResult) (lsn : Int) : StLogFrame := ⟨lsn, y.epoch, y.record⟩
theorem owns_not_bare {base : Nat} {e : TypeId} {m n B b : Nat} {w : World} {v : Value} {xs : List Value} (h : w.ownsRow base e m v n xs) (hb : v.ownBlock = some b) : ¬ Bare B w b := fun ⟨_, o, ho, hc⟩ => by
 rcases h.2 with ⟨rfl, _⟩ | ⟨g, cap, cur, rfl, _, hg, _⟩
 ·simp [Value.ownBlock] at hb
 ·have e : g = b := by simpa [Value.ownBlock] using hb
  subst e
  rw [hg] at ho
  cases ho
  simp [Obj.isCells] at hc
theorem OwnFr.turn {B : Nat} {w w' : World} {v : Value} {qs : List StLogFrame} (h : OwnFr w v qs) (hk : Kept (Bare B w) w w') : OwnFr w' v qs := h.kept hk (fun b hb => by
 rcases hb with hb | ⟨r, hr, hb⟩
 ·exact owns_not_bare h.own.row hb
 ·exact owns_not_bare (h.rows.own r hr) hb)
structure ScM (w5 : World) (b1 b2 b3 : Nat) (rest : List Int) (lsn least : Int) (ua : Option Addr) (uc : Nat) (fa : Option Addr) (fn fc : Nat) (qs : List StLogFrame) (W : World) : Prop where
 scan : Blk W b1 36 [.slice fa fn fc, .int .i64 lsn]
 least : Blk W b2 2 [.int .i64 least]
 un : Blk W b3 22 [.slice ua rest.length uc]
 bytes : Un w5.heap.size W (.slice ua rest.length uc) rest
 own : OwnFr W (.slice fa fn fc) qs
 foot : ∀ b, footFr (.slice fa fn fc) qs b → w5.heap.size ≤ b
 apart : ∀ b, footFr (.slice fa fn fc) qs b → ¬ (Value.slice ua rest.length uc).ownBlock = some b
 kept : Kept (fun b => b = b1 ∨ b = b2 ∨ b = b3) w5 W
 low : b1 < w5.heap.size ∧ b2 < w5.heap.size ∧ b3 < w5.heap.size
theorem ScM.turn {w5 : World} {b1 b2 b3 : Nat} {rest : List Int} {lsn least : Int} {ua : Option Addr} {uc : Nat} {fa : Option Addr} {fn fc : Nat} {qs : List StLogFrame} {W W' : World} (h : ScM w5 b1 b2 b3 rest lsn least ua uc fa fn fc qs W) (hk : Kept (Bare w5.heap.size W) W W') : ScM w5 b1 b2 b3 rest lsn least ua uc fa fn fc qs W' :=
 ⟨h.scan.kept hk h.scan.not_bare, h.least.kept hk h.least.not_bare, h.un.kept hk h.un.not_bare, h.bytes.turn hk, h.own.turn hk, h.foot, h.apart, h.kept.next hk (fun i hi e => by have := e.1; omega), h.low⟩
theorem ScM.same {w5 : World} {b1 b2 b3 : Nat} {rest : List Int} {lsn least : Int} {ua : Option Addr} {uc : Nat} {fa : Option Addr} {fn fc : Nat} {qs : List StLogFrame} {W W' : World} (h : ScM w5 b1 b2 b3 rest lsn least ua uc fa fn fc qs W) (hk : Same W W') : ScM w5 b1 b2 b3 rest lsn least ua uc fa fn fc qs W' :=
 ⟨h.scan.same hk, h.least.same hk, h.un.same hk, h.bytes.same hk, h.own.same hk, h.foot, h.apart, h.kept.next hk (fun i hi e => e.elim), h.low⟩
theorem kfTr {B : Nat} {A C D : World} (h : KeepsFrom B A C) (k : KeepsFrom B C D) : KeepsFrom B A D := ⟨Nat.le_trans h.1 k.1, fun i o hB ho hc => k.2 i o hB (h.2 i o hB ho hc) hc⟩
theorem ScM.more {w5 : World} {b1 b2 b3 : Nat} {rest X : List Int} {lsn least : Int} {ua a' : Option Addr} {uc c' : Nat} {fa : Option Addr} {fn fc : Nat} {qs : List StLogFrame} {W w8 : World} (h : ScM w5 b1 b2 b3 rest lsn least ua uc fa fn fc qs W) (h13 : b1 ≠ b3) (h23 : b2 ≠ b3)
  (hun : Un w5.heap.size w8 (.slice a' (rest.length + X.length) c') (rest ++ X)) (hkk : Kept (fun b => (Value.slice ua rest.length uc).ownBlock = some b ∧ ∃ j, (W.cell? ⟨b, j, none⟩).isSome = true) W w8) (hff : ∀ b, (Value.slice a' (rest.length + X.length) c').ownBlock = some b → (Value.slice ua rest.length uc).ownBlock = some b ∨ W.heap.size ≤ b) :
  ScM w5 b1 b2 b3 (rest ++ X) lsn least a' c' fa fn fc qs (w8.setCell ⟨b3, 0, none⟩ (.slice a' (rest.length + X.length) c')) ∧ KeepsFrom w5.heap.size W (w8.setCell ⟨b3, 0, none⟩ (.slice a' (rest.length + X.length) c')) := by
 have hk9 : Kept (fun b => b = b3) w8 (w8.setCell ⟨b3, 0, none⟩ (.slice a' (rest.length + X.length) c')) := Kept.setCell (R := fun b => b = b3) (Kept.refl _ _) (p := ⟨b3, 0, none⟩) (.inr rfl) _
 have hlow := h.low
 have hnu : ∀ b, b < w5.heap.size → ¬ ((Value.slice ua rest.length uc).ownBlock = some b ∧ ∃ j, (W.cell? ⟨b, j, none⟩).isSome = true) := fun b hb e => by have := (h.bytes.lt b e.1).1; omega
 refine ⟨⟨(h.scan.kept hkk (hnu _ (by omega))).kept hk9 h13, (h.least.kept hkk (hnu _ (by omega))).kept hk9 h23, ?_, ?_, ?_, h.foot, ?_, ?_, h.low⟩, ?_⟩
 ·have h1 := (h.un.kept hkk (hnu _ (by omega))).stored 0 (.slice a' (rest.length + X.length) c')
  rw [List.length_append]
  exact h1
 ·have h1 := hun.kept hk9 (fun b hb _ _ e => by have e' : b = b3 := e; omega)
  rw [List.length_append]
  exact h1
 ·exact (h.own.kept hkk (fun b hb e => h.apart b hb e.1)).kept hk9 (fun b hb e => by have e' : b = b3 := e; have := h.foot b hb; omega)
 ·intro b hb e
  rw [List.length_append] at e
  rcases hff b e with e | e
  ·exact h.apart b hb e
  ·have := h.own.lt b hb; omega
 ·exact (h.kept.next hkk (fun i hi e => absurd e (hnu i hi))).next hk9 (fun i hi e => .inr (.inr e))
 ·exact kfTr (keepsFrom_of hkk (fun b ⟨_, _, hj⟩ => bare_cell hj)) (keepsFrom_of hk9 (fun b e => by
   have e' : b = b3 := e
   subst e'
   exact (h.un.kept hkk (hnu _ (by omega))).not_bare))
section
variable {F : Fence} {n : Nat} {P : Program} {Q : Exit → Act → World → Prop} {a : Act} {w : World}
end
def StFrameResult.cls (x : StFrameResult) : List Value := [.int .i64 x.code, .int .i64 x.fsz, .int .i64 x.epoch, .int .i64 x.record.kind, .int .i64 x.record.txn, .int .i64 x.record.prev, .int .i64 x.record.page, .int .i64 x.record.slot, .bool x.record.before.used, x.record.before.data.v, .bool x.record.after.used, x.record.after.data.v, .int .i64 x.record.uN, .int .i64 x.record.nT, x.record.txns.v, x.record.dirty.v, x.record.image.v]
theorem StFrameResult.cls_one (x : StFrameResult) : x.cls.toArray.all (·.oneCell') = true := all_oneCell_toArray (fun v hv => by
 simp only [StFrameResult.cls, List.mem_cons, List.not_mem_nil, or_false] at hv
 rcases hv with rfl | rfl | rfl | rfl | rfl | rfl | rfl | rfl | rfl | rfl | rfl | rfl | rfl | rfl | rfl | rfl | rfl <;> rfl)
theorem Try.infoLF : (Try.prog.info? 50).map (fun i => (i.zero, i.size, i.bytes)) = some (some (.agg #[.int .i64 0, .int .i64 0, .int .i64 0, .int .i64 0, .int .i64 0, .int .i64 0, .int .i64 0, .bool false, .slice none 0 0, .bool false, .slice none 0 0, .int .i64 0, .int .i64 0, .slice none 0 0, .slice none 0 0, .slice none 0 0]), 16, 208) := by kernel_rfl
theorem step_store_mid {P : Program} {ops : Array Oper} {o : Oper} {a : Act} {w : World} {K : Act → World → Prop} {Q : Exit → Act → World → Prop} {E : Prop} (hgd : o.guard = none) (ty : TypeId) (x y : Operand) (ho : o.op = .store ty x y)
  (b off : Nat) (cells : Array Value) (hx : a.eval x = .pointer (some ⟨b, off, none⟩)) (hy : a.eval y = .agg cells) (ht : w.there b off cells.size) (hi : (P.info? ty).map (·.size) = some cells.size) (h1 : cells.all (·.oneCell') = true)
  (h : K (a.put o.dst undef) (w.setCells b off cells.toList)) : if Region.wanted o (yielded ops a.tmps) = true then Oper.wp P o a w K Q else E := by
 have hw : Region.wanted o (yielded ops a.tmps) = true := by simp [Region.wanted, hgd]
 rw [if_pos hw]
 exact wp_store_mid ty x y ho b off cells hx hy ht hi h1 h
structure Src (w : World) (B : Nat) (v : Value) (cs : List Int) (at_ : Nat) (size : Int) : Prop where
 blk : Blk w B 72 [v, .int .i64 at_, .int .i64 size]
 code : Rd .u8 w v cs
 bytes : IsB cs
 few : cs.length ≤ 1048576
 little : 0 ≤ size ∧ size ≤ 12
theorem Src.kept {R : Nat → Prop} {w w' : World} {B : Nat} {v : Value} {cs : List Int} {at_ : Nat} {size : Int} (h : Src w B v cs at_ size) (hk : Kept R w w') (hB : ¬ R B) (hv : Rd .u8 w' v cs) : Src w' B v cs at_ size :=
 ⟨h.blk.kept hk hB, hv, h.bytes, h.few, h.little⟩
theorem Src.same {w w' : World} {B : Nat} {v : Value} {cs : List Int} {at_ : Nat} {size : Int} (h : Src w B v cs at_ size) (hk : Same w w') : Src w' B v cs at_ size :=
 ⟨h.blk.same hk, h.code.same hk, h.bytes, h.few, h.little⟩
theorem source_any (v : Value) (cs : List Int) (w : World) (hb : IsB cs) (hn : cs.length ≤ 1048576) (hv : Rd .u8 w v cs) :
  Calls Try.prog 11 #[v] w fun e w' => ∃ B size, e = .returned (.pointer (some ⟨B, 0, none⟩)) ∧ w.heap.size ≤ B ∧ Src w' B v cs 0 size ∧ Same w w' := by
 obtain ⟨a, c, rfl⟩ := hv.form
 by_cases h : 12 < (cs.length : Int) / 16
 ·go_enter Try.func11, Try.ntmps11
  go_wp2
  go_ret
  exact ⟨_, 12, rfl, Nat.le_refl _, ⟨Blk.new _ _ _, hv.same ((Kept.refl _ _).alloc _), hb, hn, by omega, by omega⟩, (Kept.refl _ _).alloc _⟩
 ·go_enter Try.func11, Try.ntmps11
  go_wp2
  go_ret
  exact ⟨_, rfl, Nat.le_refl _, ⟨_, Blk.new _ _ _, hv.same ((Kept.refl _ _).alloc _), hb, hn, by omega, by omega⟩, (Kept.refl _ _).alloc _⟩
def Drawn (n r : Int) : Prop := (n < 1 → r = 0) ∧ (1 ≤ n → 0 ≤ r ∧ r < n)
theorem next_any (B : Nat) (v : Value) (cs : List Int) (k : Nat) (size n : Int) (w : World) (hs : Src w B v cs k size) (hR : ∀ w', Kept (fun b => b = B) w w' → Rd .u8 w' v cs) (hk : k ≤ 1073741824) (hn : IsI n) :
  Calls Try.prog 13 #[.pointer (some ⟨B, 0, none⟩), .int .i64 n] w fun e w' => ∃ r, e = .returned (.int .i64 r) ∧ Drawn n r ∧ Src w' B v cs (k + 1) size ∧ Kept (fun b => b = B) w w' := by
 obtain ⟨a, c, rfl⟩ := hs.code.form
 have c0 : w.cell? ⟨B, 0, none⟩ = some (.slice a cs.length c) := by rw [hs.blk.cell]; rfl
 have c1 : w.cell? ⟨B, 1, none⟩ = some (.int .i64 k) := by rw [hs.blk.cell]; rfl
 have f1 := hs.blk.frozen 1
 have hkk : Kept (fun b => b = B) w (w.setCell ⟨B, 1, none⟩ (.int .i64 ((k : Int) + 1))) := Kept.setCell (R := fun b => b = B) (Kept.refl _ _) (.inr rfl) _
 have hsrc : Src (w.setCell ⟨B, 1, none⟩ (.int .i64 ((k : Int) + 1))) B (.slice a cs.length c) cs (k + 1) size :=
  ⟨by have := hs.blk.stored 1 (.int .i64 ((k : Int) + 1)); exact this, hR _ hkk, hs.bytes, hs.few, hs.little⟩
 have HS := (show Hid (Src (w.setCell ⟨B, 1, none⟩ (.int .i64 ((k : Int) + 1))) B (.slice a cs.length c) cs (k + 1) size) from hsrc)
 have HK := (show Hid (Kept (fun b => b = B) w (w.setCell ⟨B, 1, none⟩ (.int .i64 ((k : Int) + 1)))) from hkk)
 have hfew := hs.few
 obtain ⟨hn1, hn2⟩ := hn
 clear hs hR hsrc hkk
 by_cases h1 : n < 1
 ·go_enter Try.func13, Try.ntmps13
  go_wp2
  go_ret
  exact ⟨0, rfl, ⟨fun _ => rfl, fun h => by omega⟩, HS.out, HK.out⟩
 ·by_cases h2 : cs.length = 0
  ·have e0 : ((cs.length : Nat) : Int) = 0 := by omega
   rw [h2] at c0
   go_enter Try.func13, Try.ntmps13
   go_wp2
   go_ret
   refine ⟨_, rfl, ⟨fun h => by omega, fun h => ⟨Int.emod_nonneg _ (by omega), Int.emod_lt_of_pos _ (by omega)⟩⟩, ?_, HK.out⟩
   have := HS.out
   rw [h2] at this
   exact this
  ·obtain ⟨b, off, rfl, hc⟩ : ∃ b off, a = some ⟨b, off, none⟩ ∧ ∀ i, i < cs.length → (w.setCell ⟨B, 1, none⟩ (.int .i64 ((k : Int) + 1))).cell? ⟨b, off + i, none⟩ = some (.int .u8 (cs.getD i 0)) := by
    rcases HS.out.code.2 with ⟨hnil, _⟩ | ⟨b, off, c', h, _, hc⟩
    ·rw [hnil] at h2
     simp at h2
    ·cases h
     exact ⟨b, off, rfl, hc⟩
   have q1 := hc (k % cs.length) (Nat.mod_lt _ (by omega))
   have q2 := hc ((k + 1) % cs.length) (Nat.mod_lt _ (by omega))
   have x1 := HS.out.bytes.at (k % cs.length) (Nat.mod_lt _ (by omega))
   have x2 := HS.out.bytes.at ((k + 1) % cs.length) (Nat.mod_lt _ (by omega))
   clear hc
   have m1 : (k : Int) % (cs.length : Int) = ((k % cs.length : Nat) : Int) := by simp
   have m2 : ((k : Int) + 1) % (cs.length : Int) = (((k + 1) % cs.length : Nat) : Int) := by simp
   have l1 := Nat.mod_lt k (y := cs.length) (by omega)
   have l2 := Nat.mod_lt (k + 1) (y := cs.length) (by omega)
   have d1 : (k : Int) / (cs.length : Int) = ((k / cs.length : Nat) : Int) := by simp
   have d2 : k / cs.length ≤ k := Nat.div_le_self _ _
   generalize cs.getD (k % cs.length) 0 = x at *
   generalize cs.getD ((k + 1) % cs.length) 0 = y at *
   generalize k % cs.length = i1 at *
   generalize (k + 1) % cs.length = i2 at *
   generalize k / cs.length = j1 at *
   generalize hl : cs.length = len at *
   have hl0 : (0 : Int) < (len : Int) := by omega
   have hl1 : ¬ (len : Int) = 0 := by omega
   have l1' : (i1 : Int) < (len : Int) := by omega
   have l2' : (i2 : Int) < (len : Int) := by omega
   by_cases h3 : 200 < n
   ·go_enter Try.func13, Try.ntmps13
    go_wp2
    go_quiet (fail)
    go_wp2
    go_quiet (fail)
    go_wp2
    go_ret
    refine ⟨_, rfl, ⟨fun h => by omega, fun h => ⟨Int.emod_nonneg _ (by omega), Int.emod_lt_of_pos _ (by omega)⟩⟩, ?_, ?_⟩
    ·exact HS.out.same ((Kept.refl _ _).drewN _)
    ·exact HK.out.drewN _
   ·go_enter Try.func13, Try.ntmps13
    go_wp2
    go_quiet (fail)
    go_wp2
    go_ret
    refine ⟨_, rfl, ⟨fun h => by omega, fun h => ⟨Int.emod_nonneg _ (by omega), Int.emod_lt_of_pos _ (by omega)⟩⟩, ?_, ?_⟩
    ·exact HS.out.same ((Kept.refl _ _).drewN _)
    ·exact HK.out.drewN _
theorem Src.lt {w : World} {B : Nat} {v : Value} {cs : List Int} {at_ : Nat} {size : Int} (h : Src w B v cs at_ size) : B < w.heap.size := h.blk.lt
structure SrcR (w0 w : World) (B : Nat) (v : Value) (cs : List Int) (k : Nat) (size : Int) : Prop where
 src : Src w B v cs k size
 kept : Kept (fun b => b = B) w0 w
 rd : ∀ w', Kept (fun b => b = B) w0 w' → Rd .u8 w' v cs
theorem source_r (v : Value) (cs : List Int) (w : World) (hb : IsB cs) (hn : cs.length ≤ 1048576) (hv : Rd .u8 w v cs) :
  Calls Try.prog 11 #[v] w fun e w' => ∃ B size, e = .returned (.pointer (some ⟨B, 0, none⟩)) ∧ w.heap.size ≤ B ∧ SrcR w' w' B v cs 0 size ∧ Same w w' := by
 refine (source_any v cs w hb hn hv).mono ?_
 rintro e w' ⟨B, size, rfl, hB, hs, hk⟩
 exact ⟨B, size, rfl, hB, ⟨hs, Kept.refl _ _, fun w2 h => hv.same (hk.next h (fun i hi e => by omega))⟩, hk⟩
end Go.Proofs.Ytcldagphkpkdpaa
