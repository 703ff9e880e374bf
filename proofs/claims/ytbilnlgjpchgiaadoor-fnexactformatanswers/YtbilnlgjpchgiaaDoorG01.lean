import Derived.Test.YtbilnlgjpchgiaaDoorG00
import Derived.Deep.MidRow
import Derived.Deep.WholeRow
import Derived.Deep.RegionWith
import Derived.Deep.DeepMust
namespace Go.Proofs.YtbilnlgjpchgiaaDoor
set_option linter.unusedVariables false
set_option linter.unusedSimpArgs false
set_option maxRecDepth 100000
set_option maxHeartbeats 2000000
open Go Go.RowKit Go.ChangeShapes Go.WideShapes Go.ChangeAt
structure RowK (E : Type) where
 m : Nat
 cells : E → List Value
 len : ∀ p, (cells p).length = m
 v : E → Value
 bs : E → List Int
variable {E : Type}
def RowK.all (K : RowK E) : List E → List Value
 | [] => []
 | p :: ps => K.cells p ++ K.all ps
theorem RowK.all_length (K : RowK E) (ps : List E) : (K.all ps).length = ps.length * K.m := by
 induction ps with
 | nil => simp [RowK.all]
 | cons p ps ih => rw [RowK.all, List.length_append, K.len, ih, List.length_cons, Nat.add_mul, Nat.one_mul, Nat.add_comm]
theorem RowK.all_append (K : RowK E) (ps qs : List E) : K.all (ps ++ qs) = K.all ps ++ K.all qs := by
 induction ps with
 | nil => rfl
 | cons p ps ih => simp only [List.cons_append, RowK.all, ih, List.append_assoc]
theorem RowK.all_at (K : RowK E) (ps : List E) (j i : Nat) (h : j < ps.length) (hi : i < K.m) : (K.all ps)[j * K.m + i]? = (K.cells ps[j])[i]? := by
 induction ps generalizing j with
 | nil => simp at h
 | cons p ps ih =>
  cases j with
  | zero => rw [Nat.zero_mul, Nat.zero_add, RowK.all, List.getElem?_append_left (by rw [K.len]; exact hi)]; rfl
  | succ j =>
   rw [RowK.all, List.getElem?_append_right (by rw [K.len, Nat.add_mul]; omega), K.len, show (j + 1) * K.m + i - K.m = j * K.m + i from by rw [Nat.add_mul]; omega]
   exact ih j (by simpa using h)
structure OwnR (K : RowK E) (base : Nat) (tw tb : TypeId) (w : World) (v : Value) (ps : List E) : Prop where
 row : w.ownsRow base tw K.m v ps.length (K.all ps)
 data : ∀ p ∈ ps, Own base tb .u8 w (K.v p) (K.bs p)
 out : ∀ u ∈ ps.map K.v, Apart v u
 each : (ps.map K.v).Pairwise Apart
def footR (K : RowK E) (v : Value) (ps : List E) (b : Nat) : Prop := v.ownBlock = some b ∨ ∃ p ∈ ps, (K.v p).ownBlock = some b
section
variable {K : RowK E} {base : Nat} {tw tb : TypeId} {w w' : World} {v : Value} {ps qs : List E}
theorem OwnR.form (h : OwnR K base tw tb w v ps) :
  (v = .slice none 0 0 ∧ ps = []) ∨ ∃ g cap, v = .slice (some ⟨g, 0, none⟩) ps.length cap ∧ base ≤ g ∧ g < w.heap.size ∧ ps.length ≤ cap ∧ cap ≤ maxLen := by
 rcases h.row.2 with ⟨rfl, hn⟩ | ⟨g, cap, cur, rfl, hb, hgg, hc, hm, _⟩
 ·exact .inl ⟨rfl, List.length_eq_zero_iff.1 hn⟩
 ·exact .inr ⟨g, cap, rfl, hb, (Array.getElem?_eq_some_iff.1 hgg).1, hc, hm⟩
theorem OwnR.lt (h : OwnR K base tw tb w v ps) (b : Nat) (hb : footR K v ps b) : base ≤ b ∧ b < w.heap.size := by
 rcases hb with hb | ⟨p, hp, hb⟩
 ·exact World.ownsRow.lt h.row b hb
 ·exact (h.data p hp).lt b hb
theorem OwnR.cell {g n cap : Nat} (h : OwnR K base tw tb w (.slice (some ⟨g, 0, none⟩) n cap) ps) (hn : n = ps.length) (j i : Nat) (hj : j < ps.length) (hi : i < K.m) :
  w.cell? ⟨g, j * K.m + i, none⟩ = (K.cells ps[j])[i]? := by
 subst hn
 rw [World.ownsRow.cellAt h.row (j * K.m + i) (by have := Nat.mul_le_mul_right K.m (Nat.succ_le_of_lt hj); rw [Nat.succ_mul] at this; omega), K.all_at ps j i hj hi]
theorem OwnR.frozen {g n cap : Nat} (h : OwnR K base tw tb w (.slice (some ⟨g, 0, none⟩) n cap) ps) (hn : n = ps.length) (j : Nat) : w.frozen? ⟨g, j, none⟩ = false := by
 subst hn
 exact World.ownsRow.frozenAt h.row j
theorem OwnR.kept {R : Nat → Prop} (h : OwnR K base tw tb w v ps) (hk : Kept R w w') (hr : ∀ b, footR K v ps b → ¬ R b) : OwnR K base tw tb w' v ps :=
 ⟨hk.owns h.row (fun b hb => hr b (.inl hb)), fun p hp => (h.data p hp).kept hk (fun b hb => hr b (.inr ⟨p, hp, hb⟩)), h.out, h.each⟩
theorem OwnR.same (h : OwnR K base tw tb w v ps) (hk : Same w w') : OwnR K base tw tb w' v ps := h.kept hk (fun _ _ => id)
theorem OwnR.nil (K : RowK E) (base : Nat) (tw tb : TypeId) (w : World) : OwnR K base tw tb w (.slice none 0 0) [] :=
 ⟨World.ownsRow_nil _ _ _ _, fun _ h => by simp at h, fun _ h => by simp at h, List.Pairwise.nil⟩
theorem OwnR.set {g n cap : Nat} {pre post : List E} {p p' : E} (h : OwnR K base tw tb w (.slice (some ⟨g, 0, none⟩) n cap) (pre ++ p :: post)) (hn : n = (pre ++ p :: post).length) (i : Nat) (u : Value) (hi : i < K.m)
  (hc : K.cells p' = (K.cells p).set i u) (hv : K.v p' = K.v p) (hb : K.bs p' = K.bs p) (j : Nat) (hj : j = pre.length * K.m + i) :
  OwnR K base tw tb (w.setCell ⟨g, j, none⟩ u) (.slice (some ⟨g, 0, none⟩) n cap) (pre ++ p' :: post) := by
 subst hn hj
 have hk : Kept (fun b => b = g) w (w.setCell ⟨g, pre.length * K.m + i, none⟩ u) := Kept.setCell (Kept.refl (fun b => b = g) w) (p := ⟨g, pre.length * K.m + i, none⟩) (.inr rfl) _
 have hmap : (pre ++ p' :: post).map K.v = (pre ++ p :: post).map K.v := by simp [hv]
 refine ⟨?_, fun q hq => ?_, by rw [hmap]; exact h.out, by rw [hmap]; exact h.each⟩
 ·have hs := (World.ownsRow.stored h.row (pre.length * K.m + i) u).1
  have e : K.all (pre ++ p' :: post) = (K.all (pre ++ p :: post)).set (pre.length * K.m + i) u := by
   rw [K.all_append, K.all_append, List.set_append_right (h := by rw [K.all_length]; omega), K.all_length, Nat.add_sub_cancel_left, RowK.all, RowK.all, List.set_append_left (h := by rw [K.len]; exact hi), hc]
  rw [e]
  simpa using hs
 ·have hq' : ∃ q' ∈ pre ++ p :: post, K.v q' = K.v q ∧ K.bs q' = K.bs q := by
   rcases List.mem_append.1 hq with hq | hq
   ·exact ⟨q, by simp [hq], rfl, rfl⟩
   ·rcases List.mem_cons.1 hq with rfl | hq
    ·exact ⟨p, by simp, hv.symm, hb.symm⟩
    ·exact ⟨q, by simp [hq], rfl, rfl⟩
  obtain ⟨q', hm, e1, e2⟩ := hq'
  have hd := h.data q' hm
  rw [e1, e2] at hd
  refine hd.kept hk (fun b hb e => ?_)
  subst e
  exact h.out (K.v q) (by rw [← e1]; exact List.mem_map_of_mem hm) b rfl hb
end
structure MarkK (K : RowK E) where
 on : Int → E → E
 sz : E → Nat
 v : ∀ k p, K.v (on k p) = K.v p
section
variable {K : RowK E} (M : MarkK K)
end
structure RdR (K : RowK E) (w : World) (v : Value) (ps : List E) : Prop where
 max : ps.length ≤ maxLen
 row : (ps = [] ∧ ∃ a c, v = .slice a 0 c) ∨ ∃ b off c, v = .slice (some ⟨b, off, none⟩) ps.length c ∧ ∀ j i, (h : j < ps.length) → i < K.m → w.cell? ⟨b, off + (j * K.m + i), none⟩ = (K.cells ps[j])[i]?
 data : ∀ p ∈ ps, Rd .u8 w (K.v p) (K.bs p)
section
variable {K : RowK E} {w w' : World} {v : Value} {ps : List E}
theorem RdR.kept {R : Nat → Prop} (h : RdR K w v ps) (hk : Kept R w w') (hr : ∀ b, footR K v ps b → ¬ R b) : RdR K w' v ps := by
 refine ⟨h.max, ?_, fun p hp => (h.data p hp).kept hk (fun b hb => hr b (.inr ⟨p, hp, hb⟩))⟩
 rcases h.row with h | ⟨b, off, c, rfl, hc⟩
 ·exact .inl h
 ·refine .inr ⟨b, off, c, rfl, fun j i hj hi => ?_⟩
  have hl := K.len ps[j]
  rw [List.getElem?_eq_getElem (by omega)]
  exact hk.cellOf (by rw [hc j i hj hi, List.getElem?_eq_getElem (by omega)]) (hr b (.inl rfl))
theorem RdR.same (h : RdR K w v ps) (hk : Same w w') : RdR K w' v ps := h.kept hk (fun _ _ => id)
theorem RdR.form (h : RdR K w v ps) : ∃ a c, v = .slice a ps.length c := by
 rcases h.row with ⟨rfl, a, c, rfl⟩ | ⟨b, off, c, rfl, _⟩ <;> exact ⟨_, _, rfl⟩
theorem OwnR.rd {base : Nat} {tw tb : TypeId} (h : OwnR K base tw tb w v ps) : RdR K w v ps := by
 refine ⟨?_, ?_, fun p hp => (h.data p hp).rd⟩
 ·rcases h.form with ⟨rfl, rfl⟩ | ⟨g, cap, rfl, _, _, hc, hm⟩
  ·simp
  ·exact Nat.le_trans hc hm
 ·rcases h.form with ⟨rfl, rfl⟩ | ⟨g, cap, rfl, _, _, hc, hm⟩
  ·exact .inl ⟨rfl, _, _, rfl⟩
  ·exact .inr ⟨g, 0, cap, rfl, fun j i hj hi => by rw [Nat.zero_add]; exact h.cell rfl j i hj hi⟩
end
section
variable {H : Type} {enc : TypeId × Value → H} {w : World} {base : Nat} {spare : Nat → Bool} {held : Bool}
theorem read_rows {E : Type} [Inhabited E] (K : RowK E) (Q : E → Prop) {t e : TypeId} (hm0 : 0 < K.m) (ht : Tryd.prog.underlying t = some (.slice e)) (hc : Tryd.prog.cellsOf e = K.m)
  (he : ∀ (n : Nat) (cs : List Value) (x : DataW H × List MemPlace), cs.length = K.m → DataW.trod enc Tryd.prog w base spare held n e cs = some x → ∃ p : E, cs = K.cells p ∧ Rd .u8 w (K.v p) (K.bs p) ∧ Q p)
  {fuel : Nat} {v : Value} {x : DataW H × List MemPlace} (h : DataW.trod enc Tryd.prog w base spare held fuel t [v] = some x) : ∃ ps : List E, RdR K w v ps ∧ ∀ p ∈ ps, Q p := by
 rcases Deep.open_slice ht h with ⟨hcs, _⟩ | ⟨a, len, cap, m', n, D, Pl, hcs, hb, hl, hm, hmm, _, hx⟩
 ·simp at hcs
  subst hcs
  exact ⟨[], ⟨Nat.zero_le _, .inl ⟨rfl, _, _, rfl⟩, fun p hp => by simp at hp⟩, fun p hp => by simp at hp⟩
 ·simp at hcs
  subst hcs
  have hlm : len ≤ m' := by rw [hmm]; split <;> omega
  have each : ∀ i, i < len → ∃ p : E, (∀ j, j < K.m → w.cell? ((a.add (i * K.m)).add j) = (K.cells p)[j]?) ∧ Rd .u8 w (K.v p) (K.bs p) ∧ Q p := fun i hi => by
   obtain ⟨cs', h1, h2⟩ := hx i (by omega)
   rw [hc] at h1
   obtain ⟨_, hlen, hcell⟩ := World.cells?_some h1
   obtain ⟨p, rfl, hr, hq⟩ := he _ _ _ (by omega) h2
   exact ⟨p, fun j hj => hcell j (by omega), hr, hq⟩
  obtain ⟨f, hf⟩ := Deep.choose_lt each
  refine ⟨(List.range len).map f, ⟨by simp; omega, ?_, fun p hp => ?_⟩, fun p hp => ?_⟩
  ·by_cases h0 : len = 0
   ·subst h0
    exact .inl ⟨by simp, _, _, rfl⟩
   ·have ha : ∃ b off, a = ⟨b, off, none⟩ := by
     have h1 := (hf 0 (by omega)).1 0 hm0
     rw [Nat.zero_mul, List.getElem?_eq_getElem (by rw [K.len]; exact hm0)] at h1
     have e0 : a.add 0 = a := by cases a; simp [Addr.add]
     rw [e0] at h1
     exact addr_form (a := a) h1
    obtain ⟨b, off, rfl⟩ := ha
    refine .inr ⟨b, off, cap, by simp, fun j i hj hi => ?_⟩
    have hj' : j < len := by simpa using hj
    have h1 := (hf j hj').1 i hi
    rw [add_none, add_none, Nat.add_assoc] at h1
    simpa using h1
  ·obtain ⟨i, hi, rfl⟩ := List.mem_map.1 hp
   exact (hf i (List.mem_range.1 hi)).2.1
  ·obtain ⟨i, hi, rfl⟩ := List.mem_map.1 hp
   exact (hf i (List.mem_range.1 hi)).2.2
end
def Blk (w : World) (B : Nat) (e : TypeId) (xs : List Value) : Prop := w.heap[B]? = some (.cells xs.toArray e (0, 0))
theorem Blk.lt {w : World} {B : Nat} {e : TypeId} {xs : List Value} (h : Blk w B e xs) : B < w.heap.size := (Array.getElem?_eq_some_iff.1 h).1
theorem Blk.cell {w : World} {B : Nat} {e : TypeId} {xs : List Value} (h : Blk w B e xs) (j : Nat) : w.cell? ⟨B, j, none⟩ = xs[j]? := by
 unfold Blk at h
 simp [World.cell?, h]
theorem Blk.frozen {w : World} {B : Nat} {e : TypeId} {xs : List Value} (h : Blk w B e xs) (j : Nat) : w.frozen? ⟨B, j, none⟩ = false := by
 unfold Blk at h
 simp [World.frozen?, h]
theorem Blk.kept {R : Nat → Prop} {w w' : World} {B : Nat} {e : TypeId} {xs : List Value} (h : Blk w B e xs) (hk : Kept R w w') (hr : ¬ R B) : Blk w' B e xs := hk.heap h hr
theorem Blk.same {w w' : World} {B : Nat} {e : TypeId} {xs : List Value} (h : Blk w B e xs) (hk : Same w w') : Blk w' B e xs := hk.heap h id
theorem Blk.new (w : World) (xs : Array Value) (e : TypeId) : Blk (w.alloc (.cells xs e)) w.heap.size e xs.toList := by
 unfold Blk World.alloc
 rw [Array.toArray_toList]
 exact Array.getElem?_push_size
theorem Blk.newL (w : World) (xs : List Value) (e : TypeId) : Blk (w.alloc (.cells xs.toArray e)) w.heap.size e xs := Blk.new w xs.toArray e
theorem Blk.c0 {w : World} {B : Nat} {e : TypeId} {v0 : Value} {t : List Value} (h : Blk w B e (v0 :: t)) : w.cell? ⟨B, 0, none⟩ = some v0 := h.cell 0
theorem Blk.c1 {w : World} {B : Nat} {e : TypeId} {v0 v1 : Value} {t : List Value} (h : Blk w B e (v0 :: v1 :: t)) : w.cell? ⟨B, 1, none⟩ = some v1 := h.cell 1
theorem Blk.c2 {w : World} {B : Nat} {e : TypeId} {v0 v1 v2 : Value} {t : List Value} (h : Blk w B e (v0 :: v1 :: v2 :: t)) : w.cell? ⟨B, 2, none⟩ = some v2 := h.cell 2
theorem Blk.c3 {w : World} {B : Nat} {e : TypeId} {v0 v1 v2 v3 : Value} {t : List Value} (h : Blk w B e (v0 :: v1 :: v2 :: v3 :: t)) : w.cell? ⟨B, 3, none⟩ = some v3 := h.cell 3
theorem Blk.c4 {w : World} {B : Nat} {e : TypeId} {v0 v1 v2 v3 v4 : Value} {t : List Value} (h : Blk w B e (v0 :: v1 :: v2 :: v3 :: v4 :: t)) : w.cell? ⟨B, 4, none⟩ = some v4 := h.cell 4
theorem Blk.c5 {w : World} {B : Nat} {e : TypeId} {v0 v1 v2 v3 v4 v5 : Value} {t : List Value} (h : Blk w B e (v0 :: v1 :: v2 :: v3 :: v4 :: v5 :: t)) : w.cell? ⟨B, 5, none⟩ = some v5 := h.cell 5
theorem Blk.c6 {w : World} {B : Nat} {e : TypeId} {v0 v1 v2 v3 v4 v5 v6 : Value} {t : List Value} (h : Blk w B e (v0 :: v1 :: v2 :: v3 :: v4 :: v5 :: v6 :: t)) : w.cell? ⟨B, 6, none⟩ = some v6 := h.cell 6
theorem Blk.c7 {w : World} {B : Nat} {e : TypeId} {v0 v1 v2 v3 v4 v5 v6 v7 : Value} {t : List Value} (h : Blk w B e (v0 :: v1 :: v2 :: v3 :: v4 :: v5 :: v6 :: v7 :: t)) : w.cell? ⟨B, 7, none⟩ = some v7 := h.cell 7
theorem Blk.c8 {w : World} {B : Nat} {e : TypeId} {v0 v1 v2 v3 v4 v5 v6 v7 v8 : Value} {t : List Value} (h : Blk w B e (v0 :: v1 :: v2 :: v3 :: v4 :: v5 :: v6 :: v7 :: v8 :: t)) : w.cell? ⟨B, 8, none⟩ = some v8 := h.cell 8
theorem Blk.all9 {w : World} {B : Nat} {e : TypeId} {v0 v1 v2 v3 v4 v5 v6 v7 v8 : Value} (h : Blk w B e [v0, v1, v2, v3, v4, v5, v6, v7, v8]) : w.cell? ⟨B, 0, none⟩ = some v0 ∧ w.cell? ⟨B, 1, none⟩ = some v1 ∧ w.cell? ⟨B, 2, none⟩ = some v2 ∧ w.cell? ⟨B, 3, none⟩ = some v3 ∧ w.cell? ⟨B, 4, none⟩ = some v4 ∧ w.cell? ⟨B, 5, none⟩ = some v5 ∧ w.cell? ⟨B, 6, none⟩ = some v6 ∧ w.cell? ⟨B, 7, none⟩ = some v7 ∧ w.cell? ⟨B, 8, none⟩ = some v8 := ⟨h.cell 0, h.cell 1, h.cell 2, h.cell 3, h.cell 4, h.cell 5, h.cell 6, h.cell 7, h.cell 8⟩
theorem sameA (w : World) (xs : List Value) (e : TypeId) : Same w (w.alloc (.cells xs.toArray e)) := (Kept.refl _ _).alloc _
theorem Blk.newA (w : World) (xs : List Value) (e : TypeId) (ys : List Value) (e' : TypeId) : Blk ((w.alloc (.cells xs.toArray e)).alloc (.cells ys.toArray e')) w.heap.size e xs := by
 have h := Blk.newL w xs e
 have := Below.heap_alloc (w.alloc (.cells xs.toArray e)) (.cells ys.toArray e') w.heap.size h.lt
 unfold Blk at *
 rw [this]
 exact h
theorem Blk.newB (w : World) (xs : List Value) (e : TypeId) (ys : List Value) (e' : TypeId) : Blk ((w.alloc (.cells xs.toArray e)).alloc (.cells ys.toArray e')) (w.heap.size + 1) e' ys := by
 have h := Blk.newL (w.alloc (.cells xs.toArray e)) ys e'
 rwa [World.size_alloc] at h
theorem Blk.drew {w : World} {B : Nat} {e : TypeId} {xs : List Value} (h : Blk w B e xs) : Blk w.drew B e xs := h
theorem Blk.alloc {w : World} {B : Nat} {e : TypeId} {xs : List Value} (h : Blk w B e xs) (o : Obj) : Blk (w.alloc o) B e xs := by
 have := Below.heap_alloc w o B h.lt
 unfold Blk
 rw [this]
 exact h
theorem Blk.stored {w : World} {B : Nat} {e : TypeId} {xs : List Value} (h : Blk w B e xs) (j : Nat) (v : Value) : Blk (w.setCell ⟨B, j, none⟩ v) B e (xs.set j v) := by
 unfold Blk at h ⊢
 have hl := (Array.getElem?_eq_some_iff.1 h).1
 have hg := (Array.getElem?_eq_some_iff.1 h).2
 simp [World.setCell, hl, Array.getElem_modify, hg]
theorem Blk.other {w : World} {B : Nat} {e : TypeId} {xs : List Value} (h : Blk w B e xs) {p : Addr} (hp : p.block ≠ B) (v : Value) : Blk (w.setCell p v) B e xs := by
 unfold Blk
 rw [Below.heap_setCell _ _ _ _ (fun e => hp e.symm)]
 exact h
theorem Blk.own {w : World} {g : Nat} {e : TypeId} {k : IntKind} {bs : List Int} (h : Blk w g e (vals k bs)) (hm : bs.length ≤ maxLen) : Own 0 e k w (.slice (some ⟨g, 0, none⟩) bs.length bs.length) bs :=
 ⟨by simp [vals], .inr ⟨g, bs.length, (vals k bs).toArray, rfl, Nat.zero_le _, h, Nat.le_refl _, hm, by simp [vals], by simp only [Nat.mul_one]; exact List.take_of_length_le (by simp [vals])⟩⟩
def lay (xs : List Value) (o : Nat) (vs : List Value) : List Value := xs.take o ++ (vs ++ xs.drop (o + vs.length))
theorem lay_cons (xs : List Value) (o : Nat) (v : Value) (vs : List Value) (h : o + (vs.length + 1) ≤ xs.length) : lay (xs.set o v) (o + 1) vs = lay xs o (v :: vs) := by
 have hlt : o < xs.length := by omega
 apply List.ext_getElem?
 intro j
 unfold lay
 simp only [List.getElem?_append, List.length_take, List.length_set, List.getElem?_take, List.getElem?_drop, List.length_cons]
 by_cases h1 : j < o
 ·rw [if_pos (by omega), if_pos (by omega), if_pos (by omega), if_pos h1, List.getElem?_set_ne (by omega)]
 ·by_cases h2 : j = o
  ·subst h2
   rw [if_pos (by omega), if_pos (by omega), if_neg (by omega), if_pos (by omega)]
   have e : j - min j xs.length = 0 := by omega
   simp [hlt, e]
  ·by_cases h3 : j < o + 1 + vs.length
   ·rw [if_neg (by omega), if_pos (by omega), if_neg (by omega), if_pos (by omega)]
    have e : j - min o xs.length = (j - min (o + 1) xs.length) + 1 := by omega
    rw [e, List.getElem?_cons_succ]
   ·rw [if_neg (by omega), if_neg (by omega), if_neg (by omega), if_neg (by omega), List.getElem?_set_ne (by omega)]
    congr 1
    omega
theorem lay_nil (xs : List Value) (o : Nat) : lay xs o [] = xs := by simp [lay]
theorem addr_add (B o j : Nat) : (⟨B, o, none⟩ : Addr).add j = ⟨B, o + j, none⟩ := by unfold Addr.add; split <;> simp_all
theorem Blk.loads {P : Program} {w : World} {B : Nat} {e : TypeId} {xs : List Value} (h : Blk w B e xs) (o n : Nat) (hn : o + n ≤ xs.length) : (loadCellsFrom ⟨B, o, none⟩ 0 n #[]).run P w = .ok ((xs.drop o).take n).toArray w := by
 have hl : ((xs.drop o).take n).length = n := by simp; omega
 have := run_loadCells_list (P := P) w ⟨B, o, none⟩ ((xs.drop o).take n) (fun j v hv => by
  rw [addr_add, h.cell]
  have hj : j < n := by have := (List.getElem?_eq_some_iff.1 hv).1; omega
  rw [List.getElem?_take_of_lt hj, List.getElem?_drop] at hv
  exact hv)
 simpa [loadCells, hl] using this
theorem Blk.setCells {B : Nat} {e : TypeId} : ∀ (vs : List Value) (o : Nat) {w : World} {xs : List Value}, Blk w B e xs → o + vs.length ≤ xs.length → Blk (w.setCells B o vs) B e (lay xs o vs)
 | [], o, w, xs, h, _ => by rw [lay_nil]; exact h
 | v :: vs, o, w, xs, h, hl => by
  simp only [List.length_cons] at hl
  have := Blk.setCells vs (o + 1) (h.stored o v) (by rw [List.length_set]; omega)
  rw [lay_cons _ _ _ _ hl] at this
  exact this
theorem Kept.setCells {R : Nat → Prop} {a : World} {B : Nat} (hB : a.heap.size ≤ B ∨ R B) : ∀ (vs : List Value) (o : Nat) {b : World}, Kept R a b → Kept R a (b.setCells B o vs)
 | [], _, _, h => h
 | v :: vs, o, b, h => Kept.setCells hB vs (o + 1) (h.setCell (p := ⟨B, o, none⟩) hB v)
theorem Blk.range {w : World} {B : Nat} {e : TypeId} {xs : List Value} (h : Blk w B e xs) (o : Nat) (cs : List Value) (hc : ∀ j v, cs[j]? = some v → xs[o + j]? = some v) : w.rangeAt B o cs := fun j v hv => by
 rw [h.cell]
 exact hc j v hv
theorem Blk.there {w : World} {B : Nat} {e : TypeId} {xs : List Value} (h : Blk w B e xs) (o n : Nat) (hn : o + n ≤ xs.length) : w.there B o n := fun j hj => ⟨by rw [h.cell, List.getElem?_eq_getElem (by omega)]; rfl, h.frozen _⟩
variable {E : Type}
theorem lay_midR (A B C B' : List Value) (h : B'.length = B.length) : lay (A ++ (B ++ C)) A.length B' = A ++ (B' ++ C) := by
 unfold lay
 rw [List.take_left, h, List.drop_append, List.drop_of_length_le (by omega), Nat.add_sub_cancel_left, List.drop_left, List.nil_append]
theorem owns_setCells {base : Nat} {e : TypeId} {size g n cap : Nat} : ∀ (vs : List Value) (o : Nat) {w : World} {xs : List Value}, w.ownsRow base e size (.slice (some ⟨g, 0, none⟩) n cap) n xs → o + vs.length ≤ xs.length → (w.setCells g o vs).ownsRow base e size (.slice (some ⟨g, 0, none⟩) n cap) n (lay xs o vs)
 | [], o, w, xs, h, _ => by rw [lay_nil]; exact h
 | v :: vs, o, w, xs, h, hl => by
  simp only [List.length_cons] at hl
  have h1 := (World.ownsRow.stored h o v).1
  have := owns_setCells vs (o + 1) h1 (by rw [List.length_set]; omega)
  rw [lay_cons _ _ _ _ hl] at this
  exact this
section
variable {K : RowK E} {base : Nat} {tw tb : TypeId} {w w' : World}
theorem OwnR.setElem {g n cap : Nat} {pre post : List E} {p p' : E} (h : OwnR K base tw tb w (.slice (some ⟨g, 0, none⟩) n cap) (pre ++ p :: post)) (hn : n = (pre ++ p :: post).length) (j : Nat) (hj : j = pre.length * K.m)
  (hu : Own base tb .u8 w (K.v p') (K.bs p')) (hf : ∀ b, (K.v p').ownBlock = some b → ¬ footR K (.slice (some ⟨g, 0, none⟩) n cap) (pre ++ p :: post) b) :
  OwnR K base tw tb (w.setCells g j (K.cells p')) (.slice (some ⟨g, 0, none⟩) n cap) (pre ++ p' :: post) := by
 subst hn hj
 have hk : Kept (fun b => b = g) w (w.setCells g (pre.length * K.m) (K.cells p')) := Kept.setCells (R := fun b => b = g) (.inr rfl) _ _ (Kept.refl _ _)
 have hug : ∀ b, (K.v p').ownBlock = some b → ¬ b = g := fun b hb e => hf b hb (.inl (by rw [e]; rfl))
 have hold : ∀ q ∈ pre ++ post, q ∈ pre ++ p :: post := fun q hq => by
  rcases List.mem_append.1 hq with hq | hq
  ·simp [hq]
  ·simp [hq]
 have hea := h.each
 rw [List.map_append, List.map_cons] at hea
 obtain ⟨h1, h2, h3⟩ := List.pairwise_append.1 hea
 have h4 := List.pairwise_cons.1 h2
 refine ⟨?_, fun q hq => ?_, ?_, ?_⟩
 ·have hs := owns_setCells (K.cells p') (pre.length * K.m) h.row (by rw [K.len, K.all_length, List.length_append, List.length_cons, Nat.add_mul, Nat.add_mul]; omega)
  have e : K.all (pre ++ p' :: post) = lay (K.all (pre ++ p :: post)) (pre.length * K.m) (K.cells p') := by
   rw [K.all_append, K.all_append, RowK.all, RowK.all, ← K.all_length pre, lay_midR _ _ _ _ (by rw [K.len, K.len])]
  rw [e]
  simpa using hs
 ·have hd : ∀ q ∈ pre ++ post, Own base tb .u8 (w.setCells g (pre.length * K.m) (K.cells p')) (K.v q) (K.bs q) := fun q hq =>
   (h.data q (hold q hq)).kept hk (fun b hb e => h.out (K.v q) (List.mem_map_of_mem (hold q hq)) b (by rw [e]; rfl) hb)
  rcases List.mem_append.1 hq with hq | hq
  ·exact hd q (by simp [hq])
  ·rcases List.mem_cons.1 hq with rfl | hq
   ·exact hu.kept hk hug
   ·exact hd q (by simp [hq])
 ·intro x hx
  rw [List.map_append, List.map_cons] at hx
  have hx' : x ∈ (pre ++ post).map K.v ∨ x = K.v p' := by
   simp only [List.mem_append, List.mem_cons, List.map_append] at hx ⊢
   rcases hx with hx | hx | hx
   ·exact .inl (.inl hx)
   ·exact .inr hx
   ·exact .inl (.inr hx)
  rcases hx' with hx' | rfl
  ·obtain ⟨q, hq, rfl⟩ := List.mem_map.1 hx'
   exact h.out (K.v q) (List.mem_map_of_mem (hold q hq))
  ·exact fun b hb hu' => hf b hu' (.inl hb)
 ·rw [List.map_append, List.map_cons]
  have hua : ∀ q ∈ pre ++ post, Apart (K.v p') (K.v q) := fun q hq b hb hq' => hf b hb (.inr ⟨q, hold q hq, hq'⟩)
  refine List.pairwise_append.2 ⟨h1, List.pairwise_cons.2 ⟨fun x hx => ?_, h4.2⟩, fun x hx y hy => ?_⟩
  ·obtain ⟨q, hq, rfl⟩ := List.mem_map.1 hx
   exact hua q (by simp [hq])
  ·obtain ⟨q, hq, rfl⟩ := List.mem_map.1 hx
   rcases List.mem_cons.1 hy with rfl | hy
   ·exact (hua q (by simp [hq])).symm
   ·exact h3 (K.v q) hx y (List.mem_cons_of_mem _ hy)
theorem OwnR.cellMid {g n cap : Nat} {pre post : List E} {p : E} (h : OwnR K base tw tb w (.slice (some ⟨g, 0, none⟩) n cap) (pre ++ p :: post)) (hn : n = (pre ++ p :: post).length) (i : Nat) (hi : i < K.m) (j : Nat) (hj : j = pre.length * K.m + i) :
  w.cell? ⟨g, j, none⟩ = (K.cells p)[i]? := by
 subst hj
 rw [h.cell hn pre.length i (by simp) hi]
 simp
theorem ownR_made {v : Value} {n : Nat} {z : Value} {zp : E} (hm : 0 < K.m) (hz : z.cells = (K.cells zp).toArray) (hv : K.v zp = .slice none 0 0) (hb : K.bs zp = []) (h : w.ownsRow base tw K.m v n (madeCells z.cells (n * K.m)).toList) :
  OwnR K base tw tb w v (List.replicate n zp) := by
 have e : K.all (List.replicate n zp) = (madeCells z.cells (n * K.m)).toList := by
  apply List.ext_getElem?
  intro j
  by_cases hj : j < n * K.m
  ·have hl : j / K.m < (List.replicate n zp).length := by rw [List.length_replicate]; exact Nat.div_lt_of_lt_mul (by rw [Nat.mul_comm]; exact hj)
   have hi : j % K.m < K.m := Nat.mod_lt _ hm
   have h2 := K.all_at _ (j / K.m) (j % K.m) hl hi
   rw [show j / K.m * K.m + j % K.m = j from by rw [Nat.mul_comm]; exact Nat.div_add_mod j K.m] at h2
   rw [h2]
   have hlen := K.len zp
   simp [madeCells, hj, hz, hlen, hi]
  ·rw [List.getElem?_eq_none (by rw [K.all_length, List.length_replicate]; omega), List.getElem?_eq_none (by simp [madeCells]; omega)]
 refine ⟨by rw [List.length_replicate, e]; exact h, fun p hp => ?_, fun u hu => ?_, ?_⟩
 ·rw [List.eq_of_mem_replicate hp, hv, hb]; exact Own.nil _ _ _ _
 ·rw [List.map_replicate] at hu
  rw [List.eq_of_mem_replicate hu, hv]
  intro b _ hb'
  simp [Value.ownBlock] at hb'
 ·rw [List.map_replicate]
  refine List.pairwise_replicate.2 (.inr ?_)
  rw [hv]
  intro b _ hb'
  simp [Value.ownBlock] at hb'
end
theorem szByteS_any (a : Option Addr) (n c : Nat) (left : Int) (w : World) (h0 : 0 ≤ left) (h1 : left ≤ 1048576) (hn : n ≤ maxLen) :
  Calls Tryd.prog 51 #[.slice a n c, .int .i64 left] w fun e w' => ∃ r : Int, e = .returned (.int .i64 r) ∧ ((r = -1 ∧ left < n) ∨ (r = left - n ∧ 0 ≤ r)) ∧ w' = w := by
 unfold maxLen at hn
 by_cases h : left < n
 ·go_enter Tryd.func51, Tryd.ntmps51
  go_wp2
  go_ret
  exact ⟨_, rfl, .inl ⟨rfl, h⟩, rfl⟩
 ·go_enter Tryd.func51, Tryd.ntmps51
  go_wp2
  go_ret
  exact ⟨_, rfl, .inr ⟨rfl, by omega⟩, rfl⟩
theorem eqSectorWrite_own (base : Nat) (sec : Int) (va vb : Value) (bs : List Int) (w : World) (hn : bs.length ≤ 1125899906842624)
  (ha : Own base 5 .u8 w va bs) (hb : Own base 5 .u8 w vb bs) :
  Calls Tryd.prog 94 #[.agg #[.int .i64 sec, va], .agg #[.int .i64 sec, vb]] w fun e w' => e = .returned (.bool true) ∧ Same w w' := by
 obtain ⟨aa, na, ca, rfl⟩ : ∃ aa na ca, va = .slice aa na ca := by rcases ha.form with ⟨rfl, _⟩ | ⟨g, cap, rfl, _⟩ <;> exact ⟨_, _, _, rfl⟩
 obtain ⟨ab, nb, cb, rfl⟩ : ∃ aa na ca, vb = .slice aa na ca := by rcases hb.form with ⟨rfl, _⟩ | ⟨g, cap, rfl, _⟩ <;> exact ⟨_, _, _, rfl⟩
 have HA : Hid (Own base 5 .u8 w (.slice aa na ca) bs) := ha
 have HB : Hid (Own base 5 .u8 w (.slice ab nb cb) bs) := hb
 clear ha hb
 go_enter Tryd.func94, Tryd.ntmps94
 go_wp2_with fail
 refine (eqByteS_own base _ _ bs _ hn (HA.out.same (((Kept.refl _ _).alloc _).alloc _)) (HB.out.same (((Kept.refl _ _).alloc _).alloc _))).mono ?_
 rintro e w1 ⟨rfl, n1, rfl⟩
 go_wp2
 go_ret
 exact ⟨rfl, (((Kept.refl _ _).alloc _).alloc _).drewN _⟩
theorem eqSectorWriteS_own (base : Nat) (va vb : Value) (ps qs : List PW) (w : World) (hn : ps.length ≤ 1125899906842624) (hs : dataP ps = dataP qs) (hsm : ∀ p ∈ ps, p.bs.length ≤ 1125899906842624)
  (ha : OwnP base 148 5 w va ps) (hb : OwnP base 148 5 w vb qs) :
  Calls Tryd.prog 78 #[va, vb] w fun e w' => e = .returned (.bool true) ∧ Same w w' := by
 have hlen : qs.length = ps.length := by rw [← dataP_length, ← dataP_length, hs]
 by_cases hz : ps.length = 0
 ·obtain rfl : ps = [] := List.length_eq_zero_iff.1 hz
  obtain rfl : qs = [] := List.length_eq_zero_iff.1 hlen
  obtain ⟨aa, ca, rfl⟩ : ∃ aa ca, va = .slice aa 0 ca := by rcases ha.form with ⟨rfl, _⟩ | ⟨g, cap, rfl, _⟩ <;> exact ⟨_, _, rfl⟩
  obtain ⟨ab, cb, rfl⟩ : ∃ aa ca, vb = .slice aa 0 ca := by rcases hb.form with ⟨rfl, _⟩ | ⟨g, cap, rfl, _⟩ <;> exact ⟨_, _, rfl⟩
  clear ha hb hn hz hs
  go_enter Tryd.func78, Tryd.ntmps78
  go_wp2
  refine wp_loop_rounds 1 ?_
  rw [rounds_succ]
  go_wp2
  go_ret
  exact ⟨rfl, Kept.refl _ _⟩
 ·obtain ⟨ga, ca, rfl⟩ : ∃ g cap, va = .slice (some ⟨g, 0, none⟩) ps.length cap := by
   rcases ha.form with ⟨_, h⟩ | ⟨g, cap, h, _⟩
   ·simp [h] at hz
   ·exact ⟨g, cap, h⟩
  obtain ⟨gb, cb, rfl⟩ : ∃ g cap, vb = .slice (some ⟨g, 0, none⟩) ps.length cap := by
   rcases hb.form with ⟨_, h⟩ | ⟨g, cap, h, _⟩
   ·simp [h] at hlen; omega
   ·exact ⟨g, cap, by rw [h, hlen]⟩
  have HA : Hid (OwnP base 148 5 w (.slice (some ⟨ga, 0, none⟩) ps.length ca) ps) := ha
  have HB : Hid (OwnP base 148 5 w (.slice (some ⟨gb, 0, none⟩) ps.length cb) qs) := hb
  have HQ : Hid (qs.length = ps.length) := hlen
  have HS : Hid (dataP ps = dataP qs) := hs
  have HM : Hid (∀ p ∈ ps, p.bs.length ≤ 1125899906842624) := hsm
  clear ha hb hs hlen hsm
  generalize hl : ps.length = len at hn hz HA HB ⊢
  have HL : Hid (ps.length = len) := hl
  clear hl
  go_enter Tryd.func78, Tryd.ntmps78
  go_wp2
  go_loopw [5] (fun i wr => ∃ (k : Nat), k ≤ len ∧ i = .int .i64 k ∧ Hid (Same w wr)) (fun i _ => len - (intOf i).toNat)
  case atStart => exact ⟨0, Nat.zero_le _, rfl, Kept.refl _ _⟩
  case round =>
   obtain ⟨k, hk, rfl, HK⟩ := hrel
   by_cases hlt : k < len
   ·have hlp : k < ps.length := by rw [HL.out]; exact hlt
    have hlq : k < qs.length := by rw [HQ.out]; exact hlp
    have hoa := HA.out.same HK.out
    have hob := HB.out.same HK.out
    obtain ⟨s1, s2⟩ := dataP_at HS.out k hlp hlq
    have s3 := HM.out _ (List.getElem_mem hlp)
    have ha1 : wr.cell? ⟨ga, k * 2, none⟩ = some (.int .i64 ps[k].sec) := hoa.sec HL.out.symm k hlp
    have ha2 : wr.cell? ⟨ga, k * 2 + 1, none⟩ = some ps[k].v := hoa.val HL.out.symm k hlp
    have hb1 : wr.cell? ⟨gb, k * 2, none⟩ = some (.int .i64 ps[k].sec) := by rw [hob.sec (by rw [HQ.out, HL.out]) k hlq, s1]
    have hb2 : wr.cell? ⟨gb, k * 2 + 1, none⟩ = some qs[k].v := hob.val (by rw [HQ.out, HL.out]) k hlq
    have HDA : Hid (Own base 5 .u8 wr ps[k].v ps[k].bs) := hoa.data _ (List.getElem_mem hlp)
    have HDB : Hid (Own base 5 .u8 wr qs[k].v ps[k].bs) := by have := hob.data _ (List.getElem_mem hlq); rw [← s2] at this; exact this
    clear s1 s2 hoa hob
    go_wp2_with fail
    go_region_with (go_at_call 94; refine (eqSectorWrite_own base ps[k].sec ps[k].v qs[k].v ps[k].bs _ s3 (by exact HDA.out.same (Kept.refl _ _).drew) (by exact HDB.out.same (Kept.refl _ _).drew)).mono ?_; rintro e w1 ⟨rfl, hk1⟩)
    all_goals
     have HK1 : Hid (Same w w1) := HK.out.drew.trans hk1
     clear hk1 ha1 ha2 hb1 hb2 HDA HDB
     go_wp2
     go_roundw
     case rel => exact ⟨k + 1, by omega, by go_num, HK1⟩
     case measure => simp [intOf]; omega
   ·go_wp2
    go_ret
    exact ⟨rfl, HK.out⟩
theorem slice_of_ownP {base : Nat} {tw tb : TypeId} {w : World} {v : Value} {ps : List PW} (h : OwnP base tw tb w v ps) : ∃ aa na ca, v = .slice aa na ca := by
 rcases h.form with ⟨rfl, _⟩ | ⟨g, cap, rfl, _⟩ <;> exact ⟨_, _, _, rfl⟩
theorem eqDisk_own (base : Nat) (dv pv dv' pv' : Value) (dur : List Int) (ps qs : List PW) (w : World) (hd : dur.length ≤ 1125899906842624) (hn : ps.length ≤ 1125899906842624)
  (hs : dataP ps = dataP qs) (hsm : ∀ p ∈ ps, p.bs.length ≤ 1125899906842624)
  (ha : OwnD base 148 5 w dv pv dur ps) (hb : OwnD base 148 5 w dv' pv' dur qs) :
  Calls Tryd.prog 47 #[.agg #[dv, pv], .agg #[dv', pv']] w fun e w' => e = .returned (.bool true) ∧ Same w w' := by
 obtain ⟨a1, n1, c1, rfl⟩ := slice_of_own ha.dur
 obtain ⟨a2, n2, c2, rfl⟩ := slice_of_ownP ha.pend
 obtain ⟨a3, n3, c3, rfl⟩ := slice_of_own hb.dur
 obtain ⟨a4, n4, c4, rfl⟩ := slice_of_ownP hb.pend
 have HA := (show Hid (OwnD base 148 5 w _ _ dur ps) from ha)
 have HB := (show Hid (OwnD base 148 5 w _ _ dur qs) from hb)
 have HS : Hid (dataP ps = dataP qs) := hs
 have HM : Hid (∀ p ∈ ps, p.bs.length ≤ 1125899906842624) := hsm
 clear ha hb hs hsm
 go_enter Tryd.func47, Tryd.ntmps47
 go_wp2_with fail
 refine (eqByteS_own base _ _ dur _ hd (HA.out.dur.same (((Kept.refl _ _).alloc _).alloc _)) (HB.out.dur.same (((Kept.refl _ _).alloc _).alloc _))).mono ?_
 rintro e w1 ⟨rfl, m1, rfl⟩
 go_wp2_with fail
 refine (eqSectorWriteS_own base _ _ ps qs _ hn HS.out HM.out (HA.out.pend.same ((((Kept.refl _ _).alloc _).alloc _).drewN _)) (HB.out.pend.same ((((Kept.refl _ _).alloc _).alloc _).drewN _))).mono ?_
 rintro e w2 ⟨rfl, hk2⟩
 go_wp2
 go_ret
 exact ⟨rfl, ((((Kept.refl _ _).alloc _).alloc _).drewN _).trans hk2⟩
theorem Tryd.infoSW : (Tryd.prog.info? 148).map (fun i => (i.zero, i.size, i.bytes)) = some (some (.agg #[.int .i64 0, .slice none 0 0]), 2, 32) := by kernel_rfl
theorem szSectorWrite_any (sec : Int) (a : Option Addr) (n c : Nat) (left : Int) (w : World) (h0 : 0 ≤ left) (h1 : left ≤ 1048576) (hn : n ≤ maxLen) :
  Calls Tryd.prog 88 #[.agg #[.int .i64 sec, .slice a n c], .int .i64 left] w fun e w' => ∃ r : Int, e = .returned (.int .i64 r) ∧ ((r = -1 ∧ left < n) ∨ (r = left - n ∧ 0 ≤ r)) ∧ Same w w' := by
 go_enter Tryd.func88, Tryd.ntmps88
 go_wp2_with fail
 refine (szByteS_any a n c left _ h0 h1 hn).mono ?_
 rintro e w1 ⟨r, rfl, hr, rfl⟩
 rcases hr with ⟨rfl, hr⟩ | ⟨hr, hr0⟩
 ·go_wp2
  go_ret
  exact ⟨_, rfl, .inl ⟨rfl, hr⟩, (Kept.refl _ _).alloc _⟩
 ·have HR : Hid (r = left - n) := hr
  clear hr
  go_wp2
  go_ret
  exact ⟨_, rfl, .inr ⟨HR.out, hr0⟩, (Kept.refl _ _).alloc _⟩
theorem szSectorWriteS_any (v : Value) (ps : List PW) (left : Int) (w : World) (h0 : 0 ≤ left) (h1 : left ≤ 1048576) (hp : RdP w v ps) :
  Calls Tryd.prog 69 #[v, .int .i64 left] w fun e w' => ∃ r : Int, e = .returned (.int .i64 r) ∧ (r = -1 ∨ (r = left - ps.length - sizeP ps ∧ 0 ≤ r)) ∧ Same w w' := by
 have hn := hp.len
 unfold maxLen at hn
 rcases hp.row with ⟨rfl, a, c, rfl⟩ | ⟨b, off, c, rfl, hc⟩
 ·clear hp hn
  go_enter Tryd.func69, Tryd.ntmps69
  go_wp2
  refine wp_loop_rounds 1 ?_
  rw [rounds_succ]
  go_wp2
  go_ret
  exact ⟨_, rfl, .inr ⟨by simp [sizeP], by omega⟩, Kept.refl _ _⟩
 ·have HP : Hid (RdP w (.slice (some ⟨b, off, none⟩) ps.length c) ps) := hp
  have HC : Hid (∀ i (h : i < ps.length), w.cell? ⟨b, off + i * 2, none⟩ = some (.int .i64 ps[i].sec) ∧ w.cell? ⟨b, off + i * 2 + 1, none⟩ = some ps[i].v) := hc
  clear hp hc
  generalize hl : ps.length = len at hn HP ⊢
  have HL : Hid (ps.length = len) := hl
  clear hl
  by_cases h : left < len
  ·go_enter Tryd.func69, Tryd.ntmps69
   go_wp2
   go_ret
   exact ⟨_, rfl, .inl rfl, Kept.refl _ _⟩
  ·go_enter Tryd.func69, Tryd.ntmps69
   go_wp2
   go_loopw [1, 5] (fun u i wr => ∃ (k : Nat) (r : Int), k ≤ len ∧ i = .int .i64 k ∧ u = .int .i64 r ∧ 0 ≤ r ∧ r ≤ left ∧ Hid (r = left - len - sizeP (ps.take k)) ∧ Hid (Same w wr)) (fun _ i _ => len - (intOf i).toNat)
   case atStart => exact ⟨0, left - len, Nat.zero_le _, rfl, rfl, by omega, by omega, by simp [sizeP, Hid], Kept.refl _ _⟩
   case round =>
    obtain ⟨k, r, hk, rfl, rfl, hr0, hr1, HR, HK⟩ := hrel
    by_cases hlt : k < len
    ·have hlp : k < ps.length := by rw [HL.out]; exact hlt
     obtain ⟨a1, c1, e1⟩ := (HP.out.data _ (List.getElem_mem hlp)).form
     have hm1 := (HP.out.data _ (List.getElem_mem hlp)).1
     have q1 := HK.out.cellOf (HC.out k hlp).1 id
     have q2 := HK.out.cellOf (HC.out k hlp).2 id
     rw [e1] at q2
     clear e1
     go_wp2_with fail
     refine (szSectorWrite_any _ _ _ _ _ _ hr0 (by omega) hm1).mono ?_
     rintro e w1 ⟨r1, rfl, hr2, hk1⟩
     have HK1 : Hid (Same w w1) := HK.out.trans hk1
     clear q1 q2 hk1
     rcases hr2 with ⟨rfl, hr2⟩ | ⟨hr2, hr3⟩
     ·go_wp2
      go_ret
      exact ⟨_, rfl, .inl rfl, HK1.out⟩
     ·have hr4 : r1 ≤ left := by omega
      have HR1 : Hid (r1 = r - ps[k].bs.length) := hr2
      clear hr2
      go_wp2
      go_roundw
      case rel => exact ⟨k + 1, r1, by omega, by go_num, rfl, hr3, hr4, by have h1 := HR1.out; have h2 := HR.out; have h3 := sizeP_step ps k hlp; unfold Hid; omega, HK1⟩
      case measure => simp [intOf]; omega
    ·go_wp2
     go_ret
     obtain rfl : k = len := by omega
     have h1 := HR.out
     have h2 := HL.out
     rw [← h2, List.take_length] at h1
     exact ⟨r, rfl, .inr ⟨by omega, hr0⟩, HK.out⟩
theorem szDisk_any (dv pv : Value) (dur : List Int) (ps : List PW) (left : Int) (w : World) (h0 : 0 ≤ left) (h1 : left ≤ 1048576) (hp : RdD w dv pv dur ps) :
  Calls Tryd.prog 32 #[.agg #[dv, pv], .int .i64 left] w fun e w' => ∃ r : Int, e = .returned (.int .i64 r) ∧ (r = -1 ∨ (r = left - dur.length - ps.length - sizeP ps ∧ 0 ≤ r)) ∧ Same w w' := by
 obtain ⟨a1, c1, rfl⟩ := hp.dur.form
 obtain ⟨a2, c2, rfl⟩ := hp.pend.form
 have hm := hp.dur.1
 have HP := (show Hid (RdP w _ ps) from hp.pend)
 clear hp
 go_enter Tryd.func32, Tryd.ntmps32
 go_wp2_with fail
 refine (szByteS_any _ _ _ left _ h0 h1 hm).mono ?_
 rintro e w1 ⟨r, rfl, hr, rfl⟩
 rcases hr with ⟨rfl, hr⟩ | ⟨hr, hr0⟩
 ·go_wp2
  go_ret
  exact ⟨_, rfl, .inl rfl, (Kept.refl _ _).alloc _⟩
 ·have hr1 : r ≤ left := by omega
  have HR : Hid (r = left - dur.length) := hr
  clear hr
  go_wp2_with fail
  refine (szSectorWriteS_any _ ps r _ hr0 (by omega) (HP.out.same ((Kept.refl _ _).alloc _))).mono ?_
  rintro e w2 ⟨r2, rfl, hr2, hk2⟩
  have HK2 : Hid (Same w w2) := ((Kept.refl _ _).alloc _).trans hk2
  clear hk2
  rcases hr2 with rfl | ⟨hr2, hr3⟩
  ·go_wp2
   go_ret
   exact ⟨_, rfl, .inl rfl, HK2.out⟩
  ·have HR2 : Hid (r2 = r - ps.length - sizeP ps) := hr2
   clear hr2
   go_wp2
   go_ret
   exact ⟨r2, rfl, .inr ⟨by have h1 := HR.out; have h2 := HR2.out; omega, hr3⟩, HK2.out⟩
theorem toSectorWrite_any (sec : Int) (v : Value) (bs : List Int) (w : World) (hn : bs.length ≤ 1099511627776) (hv : Rd .u8 w v bs) :
  Calls Tryd.prog 90 #[.agg #[.int .i64 sec, v]] w fun e w' => ∃ g, e = .returned (.agg #[.int .i64 sec, .slice (some ⟨g, 0, none⟩) bs.length bs.length]) ∧ w.heap.size ≤ g ∧ Own 0 5 .u8 w' (.slice (some ⟨g, 0, none⟩) bs.length bs.length) bs ∧ Same w w' := by
 obtain ⟨a, c, rfl⟩ := hv.form
 have HV := (show Hid (Rd .u8 w _ bs) from hv)
 clear hv
 go_enter Tryd.func90, Tryd.ntmps90
 go_wp2_with fail
 refine (toByteS_any _ bs _ hn (HV.out.same ((((Kept.refl _ _).alloc _).alloc _).alloc _))).mono ?_
 rintro e w1 ⟨g, rfl, hg, ho, hk⟩
 simp only [World.size_alloc] at hg
 have b1 := ((FBox.new (w.alloc (.cells #[.int .i64 sec, .slice a bs.length c] 146)) (.int .i64 0) (.slice none 0 0) 148).next _).same hk
 have b2 := (FBox.new ((w.alloc (.cells #[.int .i64 sec, .slice a bs.length c] 146)).alloc (.cells #[.int .i64 0, .slice none 0 0] 148)) (.int .i64 sec) (.slice none 0 0) 148).same hk
 simp only [World.size_alloc] at b1 b2
 have HO := (show Hid (Own 0 5 .u8 w1 _ bs) from ho)
 have HK : Hid (Same w w1) := ((((Kept.refl _ _).alloc _).alloc _).alloc _).trans hk
 have hz1 : w.heap.size + 1 + 1 < w1.heap.size := b2.lt
 obtain ⟨p1, p2, p3, p4⟩ := b1
 obtain ⟨q1, q2, q3, q4⟩ := b2
 clear ho hk
 go_wp2
 refine bodyPost_ret (v := .agg #[.int .i64 sec, .slice (some ⟨g, 0, none⟩) bs.length bs.length]) (by simp [results, Tryd.results90, go_sem, p1, p2]) rfl ⟨g, rfl, by omega, ?_, ?_⟩
 ·refine HO.out.kept (R := fun b => b = w.heap.size + 1 ∨ b = w.heap.size + 1 + 1) ?_ (fun b hb e => by simp [Value.ownBlock] at hb; omega)
  exact ((((Kept.refl _ _).setCell (.inr (.inr rfl)) _).setTwo (.inr (.inl rfl)) _ _))
 ·exact (HK.out.setCell (.inl (by simp; omega)) _).setTwo (.inl (by simp)) _ _
theorem toSectorWriteS_any (v : Value) (ps : List PW) (w : World) (hn : ps.length ≤ 1073741824) (hs : ∀ p ∈ ps, p.bs.length ≤ 1099511627776) (hv : RdP w v ps) :
  Calls Tryd.prog 71 #[v] w fun e w' => ∃ g qs, e = .returned (.slice (some ⟨g, 0, none⟩) ps.length ps.length) ∧ dataP qs = dataP ps ∧ (∀ b, footP (.slice (some ⟨g, 0, none⟩) ps.length ps.length) qs b → w.heap.size ≤ b) ∧
   OwnP 0 148 5 w' (.slice (some ⟨g, 0, none⟩) ps.length ps.length) qs ∧ Same w w' := by
 obtain ⟨i0, hi, hz0, hz1, hz2⟩ := info_parts Tryd.infoSW
 rcases hv.row with ⟨rfl, a, c, rfl⟩ | ⟨b, off, c, rfl, hc⟩
 ·clear hv hn hs
  go_enter Tryd.func71, Tryd.ntmps71
  go_wp2_with (at_make; refine wpList_make_full _ rfl (.tmp 6) (.tmp 6) 46 rfl 0 148 i0 (.agg #[.int .i64 0, .slice none 0 0]) 2 Tryd.underlying46 hi hz0 hz1 .i64 .i64 _ _ 0 rfl rfl (by simp) (by simp) (by simp) (by simp) (Nat.zero_le _) ?_; intro w1 hown1 hgrow1; have HO : Hid (OwnP 0 148 5 w1 (.slice (some ⟨w.heap.size, 0, none⟩) 0 0) []) := own_madeP (n := 0) (by simpa using hown1); have HK : Hid (Same w w1) := Kept.of_grown hgrow1 (fun k e => by cases e); clear hown1 hgrow1)
  refine wp_loop_rounds 1 ?_
  rw [rounds_succ]
  go_wp2
  go_ret
  refine ⟨w.heap.size, [], rfl, rfl, fun b hb => ?_, HO.out, HK.out⟩
  rcases hb with hb | ⟨p, hp, _⟩
  ·simp [Value.ownBlock] at hb; omega
  ·simp at hp
 ·have HP : Hid (RdP w (.slice (some ⟨b, off, none⟩) ps.length c) ps) := hv
  have HC : Hid (∀ i (h : i < ps.length), w.cell? ⟨b, off + i * 2, none⟩ = some (.int .i64 ps[i].sec) ∧ w.cell? ⟨b, off + i * 2 + 1, none⟩ = some ps[i].v) := hc
  have HS : Hid (∀ p ∈ ps, p.bs.length ≤ 1099511627776) := hs
  clear hc hv hs
  generalize hl : ps.length = len at hn HP ⊢
  have HL : Hid (ps.length = len) := hl
  clear hl
  go_enter Tryd.func71, Tryd.ntmps71
  go_wp2_with (at_make; refine wpList_make_full _ rfl (.tmp 6) (.tmp 6) 46 rfl 0 148 i0 (.agg #[.int .i64 0, .slice none 0 0]) 2 Tryd.underlying46 hi hz0 hz1 .i64 .i64 _ _ len rfl rfl (by simp) (by simp) (by rw [hz2]; omega) (by unfold maxLen; omega) (Nat.zero_le _) ?_; intro w1 hown1 hgrow1; have HO : Hid (OwnP 0 148 5 w1 (.slice (some ⟨w.heap.size, 0, none⟩) len len) (List.replicate len zeroPW)) := own_madeP (by simpa using hown1); have HK : Hid (Same w w1) := Kept.of_grown hgrow1 (fun k e => by cases e); clear hown1 hgrow1)
  go_loopw [4] (fun i wr => ∃ (k : Nat) (qs : List PW), k ≤ len ∧ i = .int .i64 k ∧ qs.length = k ∧ Hid (dataP qs = dataP (ps.take k)) ∧ Hid (∀ b, (∃ p ∈ qs, p.v.ownBlock = some b) → w.heap.size ≤ b) ∧ Hid (OwnP 0 148 5 wr (.slice (some ⟨w.heap.size, 0, none⟩) len len) (qs ++ List.replicate (len - k) zeroPW)) ∧ Hid (Same w wr)) (fun i _ => len - (intOf i).toNat)
  case atStart => exact ⟨0, [], Nat.zero_le _, rfl, rfl, rfl, fun b ⟨p, hp, _⟩ => by simp at hp, by simpa using HO, HK⟩
  case round =>
   obtain ⟨k, qs, hk, rfl, hql, HQ, HF, HOr, HKr⟩ := hrel
   have HQL : Hid (qs.length = k) := hql
   clear hql
   by_cases hlt : k < len
   ·have hlp : k < ps.length := by rw [HL.out]; exact hlt
    have hrep : List.replicate (len - k) zeroPW = zeroPW :: List.replicate (len - (k + 1)) zeroPW := by rw [show len - k = len - (k + 1) + 1 from by omega, List.replicate_succ]
    obtain ⟨a1, c1, e1⟩ := (HP.out.data _ (List.getElem_mem hlp)).form
    have hd := (HP.out.data _ (List.getElem_mem hlp)).same HKr.out
    have hm1 := HS.out _ (List.getElem_mem hlp)
    have q1 := HKr.out.cellOf (HC.out k hlp).1 id
    have q2 := HKr.out.cellOf (HC.out k hlp).2 id
    rw [e1] at q2 hd
    have HD := (show Hid (Rd .u8 wr _ ps[k].bs) from hd)
    have hlen : len = (qs ++ List.replicate (len - k) zeroPW).length := by simp [HQL.out]; omega
    have HLN := (show Hid (len = (qs ++ List.replicate (len - k) zeroPW).length) from hlen)
    clear e1 hd hlen
    go_wp2_with fail
    refine (toSectorWrite_any _ _ ps[k].bs _ hm1 HD.out).mono ?_
    rintro e w2 ⟨g, rfl, hg, ho, hk2⟩
    have HO2 := (show Hid (OwnP 0 148 5 w2 _ _) from HOr.out.same hk2)
    have r1 := HO2.out.sec HLN.out k (by have := HLN.out; omega)
    have r2 := HO2.out.val HLN.out k (by have := HLN.out; omega)
    have r3 := HO2.out.frozen HLN.out (k * 2)
    have r4 := HO2.out.frozen HLN.out (k * 2 + 1)
    have HK2 : Hid (Same w w2) := HKr.out.trans hk2
    have HO3 := (show Hid (Own 0 5 .u8 w2 _ ps[k].bs) from ho)
    have hg0 : w.heap.size ≤ g := Nat.le_trans HKr.out.size hg
    have HG : Hid (wr.heap.size ≤ g) := hg
    clear ho hk2 hg q1 q2
    go_wp2
    go_roundw
    case rel =>
     have ho := HO2.out
     rw [hrep] at ho
     have hq := HQL.out
     have hfin := ho.setBoth (by simp [hq]; omega) ps[k].sec _ ps[k].bs (k * 2) (by rw [hq]) HO3.out (fun b hb hf => by
      have h1 : b = g := by simpa [Value.ownBlock] using hb.symm
      have h2 : footP (.slice (some ⟨w.heap.size, 0, none⟩) len len) (qs ++ List.replicate (len - k) zeroPW) b := by rw [hrep]; exact hf
      have h3 := (HOr.out.lt b h2).2
      have h4 := HG.out
      omega)
     refine ⟨k + 1, qs ++ [⟨ps[k].sec, .slice (some ⟨g, 0, none⟩) ps[k].bs.length ps[k].bs.length, ps[k].bs⟩], by omega, by go_num, by simp [hq], ?_, ?_, ?_, ?_⟩
     ·have h1 := HQ.out
      unfold Hid
      rw [List.take_succ_eq_append_getElem hlp]
      simp only [dataP, List.map_append] at h1 ⊢
      rw [h1]; rfl
     ·rintro b ⟨p, hp, hb⟩
      rcases List.mem_append.1 hp with hp | hp
      ·exact HF.out b ⟨p, hp, hb⟩
      ·simp at hp
       subst hp
       simp [Value.ownBlock] at hb
       omega
     ·rw [List.append_assoc]
      exact hfin
     ·exact Kept.setCell (p := ⟨w.heap.size, k * 2 + 1, none⟩) (Kept.setCell (p := ⟨w.heap.size, k * 2, none⟩) HK2.out (.inl (Nat.le_refl _)) _) (.inl (Nat.le_refl _)) _
    case measure => simp [intOf]; omega
   ·go_wp2
    go_ret
    obtain rfl : k = len := by omega
    have h := HOr.out
    have h2 := HL.out
    have h3 := HQ.out
    rw [Nat.sub_self, List.replicate_zero, List.append_nil] at h
    rw [← h2, List.take_length] at h3
    refine ⟨w.heap.size, qs, rfl, h3, fun b hb => ?_, h, HKr.out⟩
    rcases hb with hb | hb
    ·simp [Value.ownBlock] at hb; omega
    ·exact HF.out b hb
theorem toDisk_any (dv pv : Value) (dur : List Int) (ps : List PW) (w : World) (hd : dur.length ≤ 1099511627776) (hn : ps.length ≤ 1073741824) (hs : ∀ p ∈ ps, p.bs.length ≤ 1099511627776) (hv : RdD w dv pv dur ps) :
  Calls Tryd.prog 38 #[.agg #[dv, pv]] w fun e w' => ∃ g g' qs, e = .returned (.agg #[.slice (some ⟨g, 0, none⟩) dur.length dur.length, .slice (some ⟨g', 0, none⟩) ps.length ps.length]) ∧ dataP qs = dataP ps ∧
   (∀ b, footD (.slice (some ⟨g, 0, none⟩) dur.length dur.length) (.slice (some ⟨g', 0, none⟩) ps.length ps.length) qs b → w.heap.size ≤ b) ∧
   OwnD 0 148 5 w' (.slice (some ⟨g, 0, none⟩) dur.length dur.length) (.slice (some ⟨g', 0, none⟩) ps.length ps.length) dur qs ∧ Same w w' := by
 obtain ⟨a1, c1, rfl⟩ := hv.dur.form
 obtain ⟨a2, c2, rfl⟩ := hv.pend.form
 have HV := (show Hid (RdD w _ _ dur ps) from hv)
 have HS : Hid (∀ p ∈ ps, p.bs.length ≤ 1099511627776) := hs
 clear hv hs
 go_enter Tryd.func38, Tryd.ntmps38
 go_wp2_with fail
 refine (toByteS_any _ dur _ hd (HV.out.dur.same ((((Kept.refl _ _).alloc _).alloc _).alloc _))).mono ?_
 rintro e w1 ⟨g, rfl, hg, ho, hk⟩
 simp only [World.size_alloc] at hg
 have b0 := (((FBox.new w (.slice a1 dur.length c1) (.slice a2 ps.length c2) 37).next _).next _).same hk
 have b1 := ((FBox.new (w.alloc (.cells #[.slice a1 dur.length c1, .slice a2 ps.length c2] 37)) (.slice none 0 0) (.slice none 0 0) 48).next _).same hk
 have b2 := (FBox.new ((w.alloc (.cells #[.slice a1 dur.length c1, .slice a2 ps.length c2] 37)).alloc (.cells #[.slice none 0 0, .slice none 0 0] 48)) (.slice none 0 0) (.slice none 0 0) 48).same hk
 simp only [World.size_alloc] at b1 b2
 have HO := (show Hid (Own 0 5 .u8 w1 _ dur) from ho)
 have HK : Hid (Same w w1) := ((((Kept.refl _ _).alloc _).alloc _).alloc _).trans hk
 have hz1 : w.heap.size + 1 + 1 < w1.heap.size := b2.lt
 have HB1 : Hid (FBox w1 (w.heap.size + 1) (.slice none 0 0) (.slice none 0 0)) := b1
 have HB2 : Hid (FBox w1 (w.heap.size + 1 + 1) (.slice none 0 0) (.slice none 0 0)) := b2
 obtain ⟨o1, o2, _, _⟩ := b0
 obtain ⟨p1, p2, p3, p4⟩ := b1
 obtain ⟨q1, q2, q3, q4⟩ := b2
 clear ho hk
 go_wp2_with fail
 have hkS : Same w (w1.setCell ⟨w.heap.size + 1 + 1, 0, none⟩ (.slice (some ⟨g, 0, none⟩) dur.length dur.length)) := HK.out.setCell (.inl (by simp; omega)) _
 refine (toSectorWriteS_any _ ps _ hn HS.out (HV.out.pend.same hkS)).mono ?_
 rintro e w2 ⟨g', qs, rfl, hq, hf, hop, hk2⟩
 have b1 := (HB1.out.other ⟨w.heap.size + 1 + 1, 0, none⟩ (by simp) (.slice (some ⟨g, 0, none⟩) dur.length dur.length)).same hk2
 have b2 := (HB2.out.set0 (.slice (some ⟨g, 0, none⟩) dur.length dur.length)).same hk2
 have ho2 := (HO.out.kept (Kept.setCell (Kept.refl (fun b => b = w.heap.size + 1 + 1) w1) (p := ⟨w.heap.size + 1 + 1, 0, none⟩) (.inr rfl) (.slice (some ⟨g, 0, none⟩) dur.length dur.length)) (fun b hb e => by simp [Value.ownBlock] at hb; omega)).same hk2
 have hlt := (HO.out.lt g rfl).2
 have HD2 : Hid (OwnD 0 148 5 w2 (.slice (some ⟨g, 0, none⟩) dur.length dur.length) (.slice (some ⟨g', 0, none⟩) ps.length ps.length) dur qs) :=
  ⟨ho2, hop, fun b hb e => by have h1 := hf b hb; simp [Value.ownBlock] at e; simp [World.setCell] at h1; omega⟩
 have HF : Hid (∀ b, footD (.slice (some ⟨g, 0, none⟩) dur.length dur.length) (.slice (some ⟨g', 0, none⟩) ps.length ps.length) qs b → w.heap.size + 1 + 1 < b) := fun b hb => by
  rcases hb with hb | hb
  ·simp [Value.ownBlock] at hb; omega
  ·have h1 := hf b hb; simp [World.setCell] at h1; omega
 have HQ : Hid (dataP qs = dataP ps) := hq
 have HK2 : Hid (Same w w2) := hkS.trans hk2
 clear p1 p2 p3 p4 q1 q2 q3 q4 o1 o2 ho2 hop hf hq hk2 hkS hlt
 obtain ⟨p1, p2, p3, p4⟩ := b1
 obtain ⟨q1, q2, q3, q4⟩ := b2
 go_wp2
 refine bodyPost_ret (v := .agg #[.slice (some ⟨g, 0, none⟩) dur.length dur.length, .slice (some ⟨g', 0, none⟩) ps.length ps.length]) (by simp [results, Tryd.results38, go_sem, p1, p2]) rfl ⟨g, g', qs, rfl, HQ.out, fun b hb => by have := HF.out b hb; omega, ?_, ?_⟩
 ·refine HD2.out.kept (R := fun b => b = w.heap.size + 1 ∨ b = w.heap.size + 1 + 1) ?_ (fun b hb e => by have := HF.out b hb; omega)
  exact (Kept.setTwo (Kept.setCell (Kept.refl _ _) (p := ⟨w.heap.size + 1 + 1, 1, none⟩) (.inr (.inr rfl)) _) (.inr (.inl rfl)) _ _)
 ·exact (HK2.out.setCell (p := ⟨w.heap.size + 1 + 1, 1, none⟩) (.inl (by simp; omega)) _).setTwo (.inl (by simp)) _ _
end Go.Proofs.YtbilnlgjpchgiaaDoor
