import Derived.Test.YthbocacnfhpidaaG00
import Derived.Deep.MidRow
import Derived.Deep.WholeRow
import Derived.Deep.DeepCutAuto
import Derived.Deep.RegionHeld3
namespace Go.Proofs.Ythbocacnfhpidaa
open Go Go.RowKit
set_option linter.unusedVariables false
set_option linter.unusedSimpArgs false
structure RowK (E : Type) where
  m : Nat
  cells : E → List Value
  len : ∀ p, (cells p).length = m
  v : E → Value
  bs : E → List Int
variable {E : Type}
def RowK.all (K : RowK E) : List E → List Value
  | [] => []
  | p :: ps => K.cells p ++ K.all ps
theorem RowK.all_length (K : RowK E) (ps : List E) : (K.all ps).length = ps.length * K.m := by
  induction ps with
  | nil => simp [RowK.all]
  | cons p ps ih => rw [RowK.all, List.length_append, K.len, ih, List.length_cons, Nat.add_mul, Nat.one_mul, Nat.add_comm]
theorem RowK.all_append (K : RowK E) (ps qs : List E) : K.all (ps ++ qs) = K.all ps ++ K.all qs := by
  induction ps with
  | nil => rfl
  | cons p ps ih => simp only [List.cons_append, RowK.all, ih, List.append_assoc]
theorem RowK.all_at (K : RowK E) (ps : List E) (j i : Nat) (h : j < ps.length) (hi : i < K.m) : (K.all ps)[j * K.m + i]? = (K.cells ps[j])[i]? := by
  induction ps generalizing j with
  | nil => simp at h
  | cons p ps ih =>
    cases j with
    | zero => rw [Nat.zero_mul, Nat.zero_add, RowK.all, List.getElem?_append_left (by rw [K.len]; exact hi)]; rfl
    | succ j =>
      rw [RowK.all, List.getElem?_append_right (by rw [K.len, Nat.add_mul]; omega), K.len, show (j + 1) * K.m + i - K.m = j * K.m + i from by rw [Nat.add_mul]; omega]
      exact ih j (by simpa using h)
structure OwnR (K : RowK E) (base : Nat) (tw tb : TypeId) (w : World) (v : Value) (ps : List E) : Prop where
  row : w.ownsRow base tw K.m v ps.length (K.all ps)
  data : ∀ p ∈ ps, Own base tb .u8 w (K.v p) (K.bs p)
  out : ∀ u ∈ ps.map K.v, Apart v u
  each : (ps.map K.v).Pairwise Apart
def footR (K : RowK E) (v : Value) (ps : List E) (b : Nat) : Prop := v.ownBlock = some b ∨ ∃ p ∈ ps, (K.v p).ownBlock = some b
section
variable {K : RowK E} {base : Nat} {tw tb : TypeId} {w w' : World} {v : Value} {ps qs : List E}
theorem OwnR.form (h : OwnR K base tw tb w v ps) :
    (v = .slice none 0 0 ∧ ps = []) ∨ ∃ g cap, v = .slice (some ⟨g, 0, none⟩) ps.length cap ∧ base ≤ g ∧ g < w.heap.size ∧ ps.length ≤ cap ∧ cap ≤ maxLen := by
  rcases h.row.2 with ⟨rfl, hn⟩ | ⟨g, cap, cur, rfl, hb, hgg, hc, hm, _⟩
  · exact .inl ⟨rfl, List.length_eq_zero_iff.1 hn⟩
  · exact .inr ⟨g, cap, rfl, hb, (Array.getElem?_eq_some_iff.1 hgg).1, hc, hm⟩
theorem OwnR.lt (h : OwnR K base tw tb w v ps) (b : Nat) (hb : footR K v ps b) : base ≤ b ∧ b < w.heap.size := by
  rcases hb with hb | ⟨p, hp, hb⟩
  · exact World.ownsRow.lt h.row b hb
  · exact (h.data p hp).lt b hb
theorem OwnR.cell {g n cap : Nat} (h : OwnR K base tw tb w (.slice (some ⟨g, 0, none⟩) n cap) ps) (hn : n = ps.length) (j i : Nat) (hj : j < ps.length) (hi : i < K.m) :
    w.cell? ⟨g, j * K.m + i, none⟩ = (K.cells ps[j])[i]? := by
  subst hn
  rw [World.ownsRow.cellAt h.row (j * K.m + i) (by have := Nat.mul_le_mul_right K.m (Nat.succ_le_of_lt hj); rw [Nat.succ_mul] at this; omega), K.all_at ps j i hj hi]
theorem OwnR.frozen {g n cap : Nat} (h : OwnR K base tw tb w (.slice (some ⟨g, 0, none⟩) n cap) ps) (hn : n = ps.length) (j : Nat) : w.frozen? ⟨g, j, none⟩ = false := by
  subst hn
  exact World.ownsRow.frozenAt h.row j
theorem OwnR.kept {R : Nat → Prop} (h : OwnR K base tw tb w v ps) (hk : Kept R w w') (hr : ∀ b, footR K v ps b → ¬ R b) : OwnR K base tw tb w' v ps :=
  ⟨hk.owns h.row (fun b hb => hr b (.inl hb)), fun p hp => (h.data p hp).kept hk (fun b hb => hr b (.inr ⟨p, hp, hb⟩)), h.out, h.each⟩
theorem OwnR.same (h : OwnR K base tw tb w v ps) (hk : Same w w') : OwnR K base tw tb w' v ps := h.kept hk (fun _ _ => id)
theorem OwnR.nil (K : RowK E) (base : Nat) (tw tb : TypeId) (w : World) : OwnR K base tw tb w (.slice none 0 0) [] :=
  ⟨World.ownsRow_nil _ _ _ _, fun _ h => by simp at h, fun _ h => by simp at h, List.Pairwise.nil⟩
theorem OwnR.set {g n cap : Nat} {pre post : List E} {p p' : E} (h : OwnR K base tw tb w (.slice (some ⟨g, 0, none⟩) n cap) (pre ++ p :: post)) (hn : n = (pre ++ p :: post).length) (i : Nat) (u : Value) (hi : i < K.m)
    (hc : K.cells p' = (K.cells p).set i u) (hv : K.v p' = K.v p) (hb : K.bs p' = K.bs p) (j : Nat) (hj : j = pre.length * K.m + i) :
    OwnR K base tw tb (w.setCell ⟨g, j, none⟩ u) (.slice (some ⟨g, 0, none⟩) n cap) (pre ++ p' :: post) := by
  subst hn hj
  have hk : Kept (fun b => b = g) w (w.setCell ⟨g, pre.length * K.m + i, none⟩ u) := Kept.setCell (Kept.refl (fun b => b = g) w) (p := ⟨g, pre.length * K.m + i, none⟩) (.inr rfl) _
  have hmap : (pre ++ p' :: post).map K.v = (pre ++ p :: post).map K.v := by simp [hv]
  refine ⟨?_, fun q hq => ?_, by rw [hmap]; exact h.out, by rw [hmap]; exact h.each⟩
  · have hs := (World.ownsRow.stored h.row (pre.length * K.m + i) u).1
    have e : K.all (pre ++ p' :: post) = (K.all (pre ++ p :: post)).set (pre.length * K.m + i) u := by
      rw [K.all_append, K.all_append, List.set_append_right (h := by rw [K.all_length]; omega), K.all_length, Nat.add_sub_cancel_left, RowK.all, RowK.all, List.set_append_left (h := by rw [K.len]; exact hi), hc]
    rw [e]
    simpa using hs
  · have hq' : ∃ q' ∈ pre ++ p :: post, K.v q' = K.v q ∧ K.bs q' = K.bs q := by
      rcases List.mem_append.1 hq with hq | hq
      · exact ⟨q, by simp [hq], rfl, rfl⟩
      · rcases List.mem_cons.1 hq with rfl | hq
        · exact ⟨p, by simp, hv.symm, hb.symm⟩
        · exact ⟨q, by simp [hq], rfl, rfl⟩
    obtain ⟨q', hm, e1, e2⟩ := hq'
    have hd := h.data q' hm
    rw [e1, e2] at hd
    refine hd.kept hk (fun b hb e => ?_)
    subst e
    exact h.out (K.v q) (by rw [← e1]; exact List.mem_map_of_mem hm) b rfl hb
end
structure MarkK (K : RowK E) where
  on : Int → E → E
  sz : E → Nat
  v : ∀ k p, K.v (on k p) = K.v p
section
variable {K : RowK E} (M : MarkK K)
end
structure RdR (K : RowK E) (w : World) (v : Value) (ps : List E) : Prop where
  max : ps.length ≤ maxLen
  row : (ps = [] ∧ ∃ a c, v = .slice a 0 c) ∨ ∃ b off c, v = .slice (some ⟨b, off, none⟩) ps.length c ∧ ∀ j i, (h : j < ps.length) → i < K.m → w.cell? ⟨b, off + (j * K.m + i), none⟩ = (K.cells ps[j])[i]?
  data : ∀ p ∈ ps, Rd .u8 w (K.v p) (K.bs p)
section
variable {K : RowK E} {w w' : World} {v : Value} {ps : List E}
theorem RdR.kept {R : Nat → Prop} (h : RdR K w v ps) (hk : Kept R w w') (hr : ∀ b, footR K v ps b → ¬ R b) : RdR K w' v ps := by
  refine ⟨h.max, ?_, fun p hp => (h.data p hp).kept hk (fun b hb => hr b (.inr ⟨p, hp, hb⟩))⟩
  rcases h.row with h | ⟨b, off, c, rfl, hc⟩
  · exact .inl h
  · refine .inr ⟨b, off, c, rfl, fun j i hj hi => ?_⟩
    have hl := K.len ps[j]
    rw [List.getElem?_eq_getElem (by omega)]
    exact hk.cellOf (by rw [hc j i hj hi, List.getElem?_eq_getElem (by omega)]) (hr b (.inl rfl))
theorem RdR.same (h : RdR K w v ps) (hk : Same w w') : RdR K w' v ps := h.kept hk (fun _ _ => id)
theorem RdR.form (h : RdR K w v ps) : ∃ a c, v = .slice a ps.length c := by
  rcases h.row with ⟨rfl, a, c, rfl⟩ | ⟨b, off, c, rfl, _⟩ <;> exact ⟨_, _, rfl⟩
theorem OwnR.rd {base : Nat} {tw tb : TypeId} (h : OwnR K base tw tb w v ps) : RdR K w v ps := by
  refine ⟨?_, ?_, fun p hp => (h.data p hp).rd⟩
  · rcases h.form with ⟨rfl, rfl⟩ | ⟨g, cap, rfl, _, _, hc, hm⟩
    · simp
    · exact Nat.le_trans hc hm
  · rcases h.form with ⟨rfl, rfl⟩ | ⟨g, cap, rfl, _, _, hc, hm⟩
    · exact .inl ⟨rfl, _, _, rfl⟩
    · exact .inr ⟨g, 0, cap, rfl, fun j i hj hi => by rw [Nat.zero_add]; exact h.cell rfl j i hj hi⟩
end
end Go.Proofs.Ythbocacnfhpidaa

namespace Go.Proofs.Ythbocacnfhpidaa
set_option maxRecDepth 100000
set_option maxHeartbeats 2000000
open Go.ChangeShapes Go.WideShapes Go.ChangeAt Go.RowKit
set_option linter.unusedVariables false
set_option linter.unusedSimpArgs false
section
variable {H : Type} {enc : TypeId × Value → H} {w : World} {base : Nat} {spare : Nat → Bool} {held : Bool}
theorem read_rows {E : Type} [Inhabited E] (K : RowK E) (Q : E → Prop) {t e : TypeId} (hm0 : 0 < K.m) (ht : Try.prog.underlying t = some (.slice e)) (hc : Try.prog.cellsOf e = K.m)
    (he : ∀ (n : Nat) (cs : List Value) (x : DataW H × List MemPlace), cs.length = K.m → DataW.trod enc Try.prog w base spare held n e cs = some x → ∃ p : E, cs = K.cells p ∧ Rd .u8 w (K.v p) (K.bs p) ∧ Q p)
    {fuel : Nat} {v : Value} {x : DataW H × List MemPlace} (h : DataW.trod enc Try.prog w base spare held fuel t [v] = some x) : ∃ ps : List E, RdR K w v ps ∧ ∀ p ∈ ps, Q p := by
  rcases Deep.open_slice ht h with ⟨hcs, _⟩ | ⟨a, len, cap, m', n, D, Pl, hcs, hb, hl, hm, hmm, _, hx⟩
  · simp at hcs
    subst hcs
    exact ⟨[], ⟨Nat.zero_le _, .inl ⟨rfl, _, _, rfl⟩, fun p hp => by simp at hp⟩, fun p hp => by simp at hp⟩
  · simp at hcs
    subst hcs
    have hlm : len ≤ m' := by rw [hmm]; split <;> omega
    have each : ∀ i, i < len → ∃ p : E, (∀ j, j < K.m → w.cell? ((a.add (i * K.m)).add j) = (K.cells p)[j]?) ∧ Rd .u8 w (K.v p) (K.bs p) ∧ Q p := fun i hi => by
      obtain ⟨cs', h1, h2⟩ := hx i (by omega)
      rw [hc] at h1
      obtain ⟨_, hlen, hcell⟩ := World.cells?_some h1
      obtain ⟨p, rfl, hr, hq⟩ := he _ _ _ (by omega) h2
      exact ⟨p, fun j hj => hcell j (by omega), hr, hq⟩
    obtain ⟨f, hf⟩ := Deep.choose_lt each
    refine ⟨(List.range len).map f, ⟨by simp; omega, ?_, fun p hp => ?_⟩, fun p hp => ?_⟩
    · by_cases h0 : len = 0
      · subst h0
        exact .inl ⟨by simp, _, _, rfl⟩
      · have ha : ∃ b off, a = ⟨b, off, none⟩ := by
          have h1 := (hf 0 (by omega)).1 0 hm0
          rw [Nat.zero_mul, List.getElem?_eq_getElem (by rw [K.len]; exact hm0)] at h1
          have e0 : a.add 0 = a := by cases a; simp [Addr.add]
          rw [e0] at h1
          exact addr_form (a := a) h1
        obtain ⟨b, off, rfl⟩ := ha
        refine .inr ⟨b, off, cap, by simp, fun j i hj hi => ?_⟩
        have hj' : j < len := by simpa using hj
        have h1 := (hf j hj').1 i hi
        rw [add_none, add_none, Nat.add_assoc] at h1
        simpa using h1
    · obtain ⟨i, hi, rfl⟩ := List.mem_map.1 hp
      exact (hf i (List.mem_range.1 hi)).2.1
    · obtain ⟨i, hi, rfl⟩ := List.mem_map.1 hp
      exact (hf i (List.mem_range.1 hi)).2.2
end
end Go.Proofs.Ythbocacnfhpidaa

namespace Go.Proofs.Ythbocacnfhpidaa
open Go.RowKit
set_option linter.unusedSimpArgs false
def Blk (w : World) (B : Nat) (e : TypeId) (xs : List Value) : Prop := w.heap[B]? = some (.cells xs.toArray e (0, 0))
theorem Blk.lt {w : World} {B : Nat} {e : TypeId} {xs : List Value} (h : Blk w B e xs) : B < w.heap.size := (Array.getElem?_eq_some_iff.1 h).1
theorem Blk.cell {w : World} {B : Nat} {e : TypeId} {xs : List Value} (h : Blk w B e xs) (j : Nat) : w.cell? ⟨B, j, none⟩ = xs[j]? := by
  unfold Blk at h
  simp [World.cell?, h]
theorem Blk.frozen {w : World} {B : Nat} {e : TypeId} {xs : List Value} (h : Blk w B e xs) (j : Nat) : w.frozen? ⟨B, j, none⟩ = false := by
  unfold Blk at h
  simp [World.frozen?, h]
theorem Blk.kept {R : Nat → Prop} {w w' : World} {B : Nat} {e : TypeId} {xs : List Value} (h : Blk w B e xs) (hk : Kept R w w') (hr : ¬ R B) : Blk w' B e xs := hk.heap h hr
theorem Blk.same {w w' : World} {B : Nat} {e : TypeId} {xs : List Value} (h : Blk w B e xs) (hk : Same w w') : Blk w' B e xs := hk.heap h id
theorem Blk.new (w : World) (xs : Array Value) (e : TypeId) : Blk (w.alloc (.cells xs e)) w.heap.size e xs.toList := by
  unfold Blk World.alloc
  rw [Array.toArray_toList]
  exact Array.getElem?_push_size
theorem Blk.newL (w : World) (xs : List Value) (e : TypeId) : Blk (w.alloc (.cells xs.toArray e)) w.heap.size e xs := Blk.new w xs.toArray e
theorem Blk.c0 {w : World} {B : Nat} {e : TypeId} {v0 : Value} {t : List Value} (h : Blk w B e (v0 :: t)) : w.cell? ⟨B, 0, none⟩ = some v0 := h.cell 0
theorem Blk.c1 {w : World} {B : Nat} {e : TypeId} {v0 v1 : Value} {t : List Value} (h : Blk w B e (v0 :: v1 :: t)) : w.cell? ⟨B, 1, none⟩ = some v1 := h.cell 1
theorem Blk.c2 {w : World} {B : Nat} {e : TypeId} {v0 v1 v2 : Value} {t : List Value} (h : Blk w B e (v0 :: v1 :: v2 :: t)) : w.cell? ⟨B, 2, none⟩ = some v2 := h.cell 2
theorem Blk.c3 {w : World} {B : Nat} {e : TypeId} {v0 v1 v2 v3 : Value} {t : List Value} (h : Blk w B e (v0 :: v1 :: v2 :: v3 :: t)) : w.cell? ⟨B, 3, none⟩ = some v3 := h.cell 3
theorem Blk.c4 {w : World} {B : Nat} {e : TypeId} {v0 v1 v2 v3 v4 : Value} {t : List Value} (h : Blk w B e (v0 :: v1 :: v2 :: v3 :: v4 :: t)) : w.cell? ⟨B, 4, none⟩ = some v4 := h.cell 4
theorem Blk.c5 {w : World} {B : Nat} {e : TypeId} {v0 v1 v2 v3 v4 v5 : Value} {t : List Value} (h : Blk w B e (v0 :: v1 :: v2 :: v3 :: v4 :: v5 :: t)) : w.cell? ⟨B, 5, none⟩ = some v5 := h.cell 5
theorem Blk.c6 {w : World} {B : Nat} {e : TypeId} {v0 v1 v2 v3 v4 v5 v6 : Value} {t : List Value} (h : Blk w B e (v0 :: v1 :: v2 :: v3 :: v4 :: v5 :: v6 :: t)) : w.cell? ⟨B, 6, none⟩ = some v6 := h.cell 6
theorem Blk.c7 {w : World} {B : Nat} {e : TypeId} {v0 v1 v2 v3 v4 v5 v6 v7 : Value} {t : List Value} (h : Blk w B e (v0 :: v1 :: v2 :: v3 :: v4 :: v5 :: v6 :: v7 :: t)) : w.cell? ⟨B, 7, none⟩ = some v7 := h.cell 7
theorem Blk.c8 {w : World} {B : Nat} {e : TypeId} {v0 v1 v2 v3 v4 v5 v6 v7 v8 : Value} {t : List Value} (h : Blk w B e (v0 :: v1 :: v2 :: v3 :: v4 :: v5 :: v6 :: v7 :: v8 :: t)) : w.cell? ⟨B, 8, none⟩ = some v8 := h.cell 8
theorem Blk.c9 {w : World} {B : Nat} {e : TypeId} {v0 v1 v2 v3 v4 v5 v6 v7 v8 v9 : Value} {t : List Value} (h : Blk w B e (v0 :: v1 :: v2 :: v3 :: v4 :: v5 :: v6 :: v7 :: v8 :: v9 :: t)) : w.cell? ⟨B, 9, none⟩ = some v9 := h.cell 9
theorem Blk.c10 {w : World} {B : Nat} {e : TypeId} {v0 v1 v2 v3 v4 v5 v6 v7 v8 v9 v10 : Value} {t : List Value} (h : Blk w B e (v0 :: v1 :: v2 :: v3 :: v4 :: v5 :: v6 :: v7 :: v8 :: v9 :: v10 :: t)) : w.cell? ⟨B, 10, none⟩ = some v10 := h.cell 10
theorem Blk.c11 {w : World} {B : Nat} {e : TypeId} {v0 v1 v2 v3 v4 v5 v6 v7 v8 v9 v10 v11 : Value} {t : List Value} (h : Blk w B e (v0 :: v1 :: v2 :: v3 :: v4 :: v5 :: v6 :: v7 :: v8 :: v9 :: v10 :: v11 :: t)) : w.cell? ⟨B, 11, none⟩ = some v11 := h.cell 11
theorem Blk.c12 {w : World} {B : Nat} {e : TypeId} {v0 v1 v2 v3 v4 v5 v6 v7 v8 v9 v10 v11 v12 : Value} {t : List Value} (h : Blk w B e (v0 :: v1 :: v2 :: v3 :: v4 :: v5 :: v6 :: v7 :: v8 :: v9 :: v10 :: v11 :: v12 :: t)) : w.cell? ⟨B, 12, none⟩ = some v12 := h.cell 12
theorem Blk.c13 {w : World} {B : Nat} {e : TypeId} {v0 v1 v2 v3 v4 v5 v6 v7 v8 v9 v10 v11 v12 v13 : Value} {t : List Value} (h : Blk w B e (v0 :: v1 :: v2 :: v3 :: v4 :: v5 :: v6 :: v7 :: v8 :: v9 :: v10 :: v11 :: v12 :: v13 :: t)) : w.cell? ⟨B, 13, none⟩ = some v13 := h.cell 13
theorem Blk.all2 {w : World} {B : Nat} {e : TypeId} {v0 v1 : Value} (h : Blk w B e [v0, v1]) : w.cell? ⟨B, 0, none⟩ = some v0 ∧ w.cell? ⟨B, 1, none⟩ = some v1 := ⟨h.cell 0, h.cell 1⟩
theorem Blk.all3 {w : World} {B : Nat} {e : TypeId} {v0 v1 v2 : Value} (h : Blk w B e [v0, v1, v2]) : w.cell? ⟨B, 0, none⟩ = some v0 ∧ w.cell? ⟨B, 1, none⟩ = some v1 ∧ w.cell? ⟨B, 2, none⟩ = some v2 := ⟨h.cell 0, h.cell 1, h.cell 2⟩
theorem Blk.all4 {w : World} {B : Nat} {e : TypeId} {v0 v1 v2 v3 : Value} (h : Blk w B e [v0, v1, v2, v3]) : w.cell? ⟨B, 0, none⟩ = some v0 ∧ w.cell? ⟨B, 1, none⟩ = some v1 ∧ w.cell? ⟨B, 2, none⟩ = some v2 ∧ w.cell? ⟨B, 3, none⟩ = some v3 := ⟨h.cell 0, h.cell 1, h.cell 2, h.cell 3⟩
theorem sameA (w : World) (xs : List Value) (e : TypeId) : Same w (w.alloc (.cells xs.toArray e)) := (Kept.refl _ _).alloc _
theorem Blk.newA (w : World) (xs : List Value) (e : TypeId) (ys : List Value) (e' : TypeId) : Blk ((w.alloc (.cells xs.toArray e)).alloc (.cells ys.toArray e')) w.heap.size e xs := by
  have h := Blk.newL w xs e
  have := Below.heap_alloc (w.alloc (.cells xs.toArray e)) (.cells ys.toArray e') w.heap.size h.lt
  unfold Blk at *
  rw [this]
  exact h
theorem Blk.newB (w : World) (xs : List Value) (e : TypeId) (ys : List Value) (e' : TypeId) : Blk ((w.alloc (.cells xs.toArray e)).alloc (.cells ys.toArray e')) (w.heap.size + 1) e' ys := by
  have h := Blk.newL (w.alloc (.cells xs.toArray e)) ys e'
  rwa [World.size_alloc] at h
theorem sameA2 (w : World) (xs : List Value) (e : TypeId) (ys : List Value) (e' : TypeId) : Same w ((w.alloc (.cells xs.toArray e)).alloc (.cells ys.toArray e')) := ((Kept.refl _ _).alloc _).alloc _
theorem new1 (w : World) (xs : List Value) (e : TypeId) : Hid (Same w (w.alloc (.cells xs.toArray e))) ∧ Hid (Blk (w.alloc (.cells xs.toArray e)) w.heap.size e xs) := ⟨sameA w xs e, Blk.newL w xs e⟩
theorem new2 (w : World) (xs : List Value) (e : TypeId) (ys : List Value) (e' : TypeId) : Hid (Same w ((w.alloc (.cells xs.toArray e)).alloc (.cells ys.toArray e'))) ∧ Hid (Blk ((w.alloc (.cells xs.toArray e)).alloc (.cells ys.toArray e')) w.heap.size e xs) ∧ Hid (Blk ((w.alloc (.cells xs.toArray e)).alloc (.cells ys.toArray e')) (w.heap.size + 1) e' ys) := ⟨sameA2 w xs e ys e', Blk.newA w xs e ys e', Blk.newB w xs e ys e'⟩
theorem Blk.drew {w : World} {B : Nat} {e : TypeId} {xs : List Value} (h : Blk w B e xs) : Blk w.drew B e xs := h
theorem Blk.alloc {w : World} {B : Nat} {e : TypeId} {xs : List Value} (h : Blk w B e xs) (o : Obj) : Blk (w.alloc o) B e xs := by
  have := Below.heap_alloc w o B h.lt
  unfold Blk
  rw [this]
  exact h
theorem Blk.stored {w : World} {B : Nat} {e : TypeId} {xs : List Value} (h : Blk w B e xs) (j : Nat) (v : Value) : Blk (w.setCell ⟨B, j, none⟩ v) B e (xs.set j v) := by
  unfold Blk at h ⊢
  have hl := (Array.getElem?_eq_some_iff.1 h).1
  have hg := (Array.getElem?_eq_some_iff.1 h).2
  simp [World.setCell, hl, Array.getElem_modify, hg]
theorem Blk.other {w : World} {B : Nat} {e : TypeId} {xs : List Value} (h : Blk w B e xs) {p : Addr} (hp : p.block ≠ B) (v : Value) : Blk (w.setCell p v) B e xs := by
  unfold Blk
  rw [Below.heap_setCell _ _ _ _ (fun e => hp e.symm)]
  exact h
theorem Blk.own {w : World} {g : Nat} {e : TypeId} {k : IntKind} {bs : List Int} (h : Blk w g e (vals k bs)) (hm : bs.length ≤ maxLen) : Own 0 e k w (.slice (some ⟨g, 0, none⟩) bs.length bs.length) bs :=
  ⟨by simp [vals], .inr ⟨g, bs.length, (vals k bs).toArray, rfl, Nat.zero_le _, h, Nat.le_refl _, hm, by simp [vals], by simp only [Nat.mul_one]; exact List.take_of_length_le (by simp [vals])⟩⟩
def lay (xs : List Value) (o : Nat) (vs : List Value) : List Value := xs.take o ++ (vs ++ xs.drop (o + vs.length))
theorem lay_length (xs : List Value) (o : Nat) (vs : List Value) (h : o + vs.length ≤ xs.length) : (lay xs o vs).length = xs.length := by simp [lay]; omega
theorem lay_cons (xs : List Value) (o : Nat) (v : Value) (vs : List Value) (h : o + (vs.length + 1) ≤ xs.length) : lay (xs.set o v) (o + 1) vs = lay xs o (v :: vs) := by
  have hlt : o < xs.length := by omega
  apply List.ext_getElem?
  intro j
  unfold lay
  simp only [List.getElem?_append, List.length_take, List.length_set, List.getElem?_take, List.getElem?_drop, List.length_cons]
  by_cases h1 : j < o
  · rw [if_pos (by omega), if_pos (by omega), if_pos (by omega), if_pos h1, List.getElem?_set_ne (by omega)]
  · by_cases h2 : j = o
    · subst h2
      rw [if_pos (by omega), if_pos (by omega), if_neg (by omega), if_pos (by omega)]
      have e : j - min j xs.length = 0 := by omega
      simp [hlt, e]
    · by_cases h3 : j < o + 1 + vs.length
      · rw [if_neg (by omega), if_pos (by omega), if_neg (by omega), if_pos (by omega)]
        have e : j - min o xs.length = (j - min (o + 1) xs.length) + 1 := by omega
        rw [e, List.getElem?_cons_succ]
      · rw [if_neg (by omega), if_neg (by omega), if_neg (by omega), if_neg (by omega), List.getElem?_set_ne (by omega)]
        congr 1
        omega
theorem lay_nil (xs : List Value) (o : Nat) : lay xs o [] = xs := by simp [lay]
theorem lay_all (xs vs : List Value) (h : vs.length = xs.length) : lay xs 0 vs = vs := by simp [lay, h]
end Go.Proofs.Ythbocacnfhpidaa

namespace Go.Proofs.Ythbocacnfhpidaa
open Go.RowKit
set_option linter.unusedVariables false
theorem addr_add (B o j : Nat) : (⟨B, o, none⟩ : Addr).add j = ⟨B, o + j, none⟩ := by unfold Addr.add; split <;> simp_all
theorem Blk.loads {P : Program} {w : World} {B : Nat} {e : TypeId} {xs : List Value} (h : Blk w B e xs) (o n : Nat) (hn : o + n ≤ xs.length) : (loadCellsFrom ⟨B, o, none⟩ 0 n #[]).run P w = .ok ((xs.drop o).take n).toArray w := by
  have hl : ((xs.drop o).take n).length = n := by simp; omega
  have := run_loadCells_list (P := P) w ⟨B, o, none⟩ ((xs.drop o).take n) (fun j v hv => by
    rw [addr_add, h.cell]
    have hj : j < n := by have := (List.getElem?_eq_some_iff.1 hv).1; omega
    rw [List.getElem?_take_of_lt hj, List.getElem?_drop] at hv
    exact hv)
  simpa [loadCells, hl] using this
theorem Blk.setCells {B : Nat} {e : TypeId} : ∀ (vs : List Value) (o : Nat) {w : World} {xs : List Value}, Blk w B e xs → o + vs.length ≤ xs.length → Blk (w.setCells B o vs) B e (lay xs o vs)
  | [], o, w, xs, h, _ => by rw [lay_nil]; exact h
  | v :: vs, o, w, xs, h, hl => by
    simp only [List.length_cons] at hl
    have := Blk.setCells vs (o + 1) (h.stored o v) (by rw [List.length_set]; omega)
    rw [lay_cons _ _ _ _ hl] at this
    exact this
theorem Kept.setCells {R : Nat → Prop} {a : World} {B : Nat} (hB : a.heap.size ≤ B ∨ R B) : ∀ (vs : List Value) (o : Nat) {b : World}, Kept R a b → Kept R a (b.setCells B o vs)
  | [], _, _, h => h
  | v :: vs, o, b, h => Kept.setCells hB vs (o + 1) (h.setCell (p := ⟨B, o, none⟩) hB v)
theorem Blk.stores {P : Program} {w : World} {B : Nat} {e : TypeId} {xs : List Value} (h : Blk w B e xs) (o : Nat) (vs : List Value) (hn : o + vs.length ≤ xs.length) (h1 : ∀ v ∈ vs, v.oneCell' = true) : (storeCells ⟨B, o, none⟩ vs 0).run P w = .ok () (w.setCells B o vs) := by
  have := run_storeCells_cells (P := P) B o vs 0 w (fun j hj => by rw [Nat.add_zero, h.cell, List.getElem?_eq_getElem (by omega)]; rfl) (fun j _ => h.frozen _) h1
  simpa using this
theorem Blk.range {w : World} {B : Nat} {e : TypeId} {xs : List Value} (h : Blk w B e xs) (o : Nat) (cs : List Value) (hc : ∀ j v, cs[j]? = some v → xs[o + j]? = some v) : w.rangeAt B o cs := fun j v hv => by
  rw [h.cell]
  exact hc j v hv
theorem Blk.rangeAll {w : World} {B : Nat} {e : TypeId} {xs : List Value} (h : Blk w B e xs) : w.rangeAt B 0 xs := h.range 0 xs (fun j v hv => by rw [Nat.zero_add]; exact hv)
theorem Blk.there {w : World} {B : Nat} {e : TypeId} {xs : List Value} (h : Blk w B e xs) (o n : Nat) (hn : o + n ≤ xs.length) : w.there B o n := fun j hj => ⟨by rw [h.cell, List.getElem?_eq_getElem (by omega)]; rfl, h.frozen _⟩
theorem Kept.ranges {w w' : World} {b o : Nat} {cs : List Value} (hk : Same w w') (h : w.rangeAt b o cs) : w'.rangeAt b o cs := fun j v hv => hk.cellOf (h j v hv) id
end Go.Proofs.Ythbocacnfhpidaa

namespace Go.Proofs.Ythbocacnfhpidaa
open Go Go.RowKit
set_option linter.unusedVariables false
set_option linter.unusedSimpArgs false
variable {E : Type}
theorem lay_midR (A B C B' : List Value) (h : B'.length = B.length) : lay (A ++ (B ++ C)) A.length B' = A ++ (B' ++ C) := by
  unfold lay
  rw [List.take_left, h, List.drop_append, List.drop_of_length_le (by omega), Nat.add_sub_cancel_left, List.drop_left, List.nil_append]
theorem owns_setCells {base : Nat} {e : TypeId} {size g n cap : Nat} : ∀ (vs : List Value) (o : Nat) {w : World} {xs : List Value}, w.ownsRow base e size (.slice (some ⟨g, 0, none⟩) n cap) n xs → o + vs.length ≤ xs.length → (w.setCells g o vs).ownsRow base e size (.slice (some ⟨g, 0, none⟩) n cap) n (lay xs o vs)
  | [], o, w, xs, h, _ => by rw [lay_nil]; exact h
  | v :: vs, o, w, xs, h, hl => by
    simp only [List.length_cons] at hl
    have h1 := (World.ownsRow.stored h o v).1
    have := owns_setCells vs (o + 1) h1 (by rw [List.length_set]; omega)
    rw [lay_cons _ _ _ _ hl] at this
    exact this
section
variable {K : RowK E} {base : Nat} {tw tb : TypeId} {w w' : World}
theorem OwnR.setElem {g n cap : Nat} {pre post : List E} {p p' : E} (h : OwnR K base tw tb w (.slice (some ⟨g, 0, none⟩) n cap) (pre ++ p :: post)) (hn : n = (pre ++ p :: post).length) (j : Nat) (hj : j = pre.length * K.m)
    (hu : Own base tb .u8 w (K.v p') (K.bs p')) (hf : ∀ b, (K.v p').ownBlock = some b → ¬ footR K (.slice (some ⟨g, 0, none⟩) n cap) (pre ++ p :: post) b) :
    OwnR K base tw tb (w.setCells g j (K.cells p')) (.slice (some ⟨g, 0, none⟩) n cap) (pre ++ p' :: post) := by
  subst hn hj
  have hk : Kept (fun b => b = g) w (w.setCells g (pre.length * K.m) (K.cells p')) := Kept.setCells (R := fun b => b = g) (.inr rfl) _ _ (Kept.refl _ _)
  have hug : ∀ b, (K.v p').ownBlock = some b → ¬ b = g := fun b hb e => hf b hb (.inl (by rw [e]; rfl))
  have hold : ∀ q ∈ pre ++ post, q ∈ pre ++ p :: post := fun q hq => by
    rcases List.mem_append.1 hq with hq | hq
    · simp [hq]
    · simp [hq]
  have hea := h.each
  rw [List.map_append, List.map_cons] at hea
  obtain ⟨h1, h2, h3⟩ := List.pairwise_append.1 hea
  have h4 := List.pairwise_cons.1 h2
  refine ⟨?_, fun q hq => ?_, ?_, ?_⟩
  · have hs := owns_setCells (K.cells p') (pre.length * K.m) h.row (by rw [K.len, K.all_length, List.length_append, List.length_cons, Nat.add_mul, Nat.add_mul]; omega)
    have e : K.all (pre ++ p' :: post) = lay (K.all (pre ++ p :: post)) (pre.length * K.m) (K.cells p') := by
      rw [K.all_append, K.all_append, RowK.all, RowK.all, ← K.all_length pre, lay_midR _ _ _ _ (by rw [K.len, K.len])]
    rw [e]
    simpa using hs
  · have hd : ∀ q ∈ pre ++ post, Own base tb .u8 (w.setCells g (pre.length * K.m) (K.cells p')) (K.v q) (K.bs q) := fun q hq =>
      (h.data q (hold q hq)).kept hk (fun b hb e => h.out (K.v q) (List.mem_map_of_mem (hold q hq)) b (by rw [e]; rfl) hb)
    rcases List.mem_append.1 hq with hq | hq
    · exact hd q (by simp [hq])
    · rcases List.mem_cons.1 hq with rfl | hq
      · exact hu.kept hk hug
      · exact hd q (by simp [hq])
  · intro x hx
    rw [List.map_append, List.map_cons] at hx
    have hx' : x ∈ (pre ++ post).map K.v ∨ x = K.v p' := by
      simp only [List.mem_append, List.mem_cons, List.map_append] at hx ⊢
      rcases hx with hx | hx | hx
      · exact .inl (.inl hx)
      · exact .inr hx
      · exact .inl (.inr hx)
    rcases hx' with hx' | rfl
    · obtain ⟨q, hq, rfl⟩ := List.mem_map.1 hx'
      exact h.out (K.v q) (List.mem_map_of_mem (hold q hq))
    · exact fun b hb hu' => hf b hu' (.inl hb)
  · rw [List.map_append, List.map_cons]
    have hua : ∀ q ∈ pre ++ post, Apart (K.v p') (K.v q) := fun q hq b hb hq' => hf b hb (.inr ⟨q, hold q hq, hq'⟩)
    refine List.pairwise_append.2 ⟨h1, List.pairwise_cons.2 ⟨fun x hx => ?_, h4.2⟩, fun x hx y hy => ?_⟩
    · obtain ⟨q, hq, rfl⟩ := List.mem_map.1 hx
      exact hua q (by simp [hq])
    · obtain ⟨q, hq, rfl⟩ := List.mem_map.1 hx
      rcases List.mem_cons.1 hy with rfl | hy
      · exact (hua q (by simp [hq])).symm
      · exact h3 (K.v q) hx y (List.mem_cons_of_mem _ hy)
theorem OwnR.cellMid {g n cap : Nat} {pre post : List E} {p : E} (h : OwnR K base tw tb w (.slice (some ⟨g, 0, none⟩) n cap) (pre ++ p :: post)) (hn : n = (pre ++ p :: post).length) (i : Nat) (hi : i < K.m) (j : Nat) (hj : j = pre.length * K.m + i) :
    w.cell? ⟨g, j, none⟩ = (K.cells p)[i]? := by
  subst hj
  rw [h.cell hn pre.length i (by simp) hi]
  simp
theorem ownR_made {v : Value} {n : Nat} {z : Value} {zp : E} (hm : 0 < K.m) (hz : z.cells = (K.cells zp).toArray) (hv : K.v zp = .slice none 0 0) (hb : K.bs zp = []) (h : w.ownsRow base tw K.m v n (madeCells z.cells (n * K.m)).toList) :
    OwnR K base tw tb w v (List.replicate n zp) := by
  have e : K.all (List.replicate n zp) = (madeCells z.cells (n * K.m)).toList := by
    apply List.ext_getElem?
    intro j
    by_cases hj : j < n * K.m
    · have hl : j / K.m < (List.replicate n zp).length := by rw [List.length_replicate]; exact Nat.div_lt_of_lt_mul (by rw [Nat.mul_comm]; exact hj)
      have hi : j % K.m < K.m := Nat.mod_lt _ hm
      have h2 := K.all_at _ (j / K.m) (j % K.m) hl hi
      rw [show j / K.m * K.m + j % K.m = j from by rw [Nat.mul_comm]; exact Nat.div_add_mod j K.m] at h2
      rw [h2]
      have hlen := K.len zp
      simp [madeCells, hj, hz, hlen, hi]
    · rw [List.getElem?_eq_none (by rw [K.all_length, List.length_replicate]; omega), List.getElem?_eq_none (by simp [madeCells]; omega)]
  refine ⟨by rw [List.length_replicate, e]; exact h, fun p hp => ?_, fun u hu => ?_, ?_⟩
  · rw [List.eq_of_mem_replicate hp, hv, hb]; exact Own.nil _ _ _ _
  · rw [List.map_replicate] at hu
    rw [List.eq_of_mem_replicate hu, hv]
    intro b _ hb'
    simp [Value.ownBlock] at hb'
  · rw [List.map_replicate]
    refine List.pairwise_replicate.2 (.inr ?_)
    rw [hv]
    intro b _ hb'
    simp [Value.ownBlock] at hb'
end
end Go.Proofs.Ythbocacnfhpidaa

namespace Go.Proofs.Ythbocacnfhpidaa
set_option maxHeartbeats 400000
open Go.RowKit
theorem szByteS_any (a : Option Addr) (n c : Nat) (left : Int) (w : World) (h0 : 0 ≤ left) (h1 : left ≤ 1048576) (hn : n ≤ maxLen) :
    Calls Try.prog 48 #[.slice a n c, .int .i64 left] w fun e w' => ∃ r : Int, e = .returned (.int .i64 r) ∧ ((r = -1 ∧ left < n) ∨ (r = left - n ∧ 0 ≤ r)) ∧ w' = w := by
  unfold maxLen at hn
  by_cases h : left < n
  · go_enter Try.func48, Try.ntmps48
    go_wp2
    go_ret
    exact ⟨_, rfl, .inl ⟨rfl, h⟩, rfl⟩
  · go_enter Try.func48, Try.ntmps48
    go_wp2
    go_ret
    exact ⟨_, rfl, .inr ⟨rfl, by omega⟩, rfl⟩
end Go.Proofs.Ythbocacnfhpidaa

namespace Go.Proofs.Ythbocacnfhpidaa
set_option maxRecDepth 100000
set_option maxHeartbeats 16000000
open Go.RowKit
set_option linter.unusedVariables false
set_option linter.unusedSimpArgs false
structure StPageRecord where
  used : Bool
  data : BS
def StPageRecord.val (x : StPageRecord) : Value := .agg #[.bool x.used, x.data.v]
def StPageRecord.rows (x : StPageRecord) : List Row := x.data.rows
def StPageRecord.dat (x : StPageRecord) : Bool × List Int := (x.used, x.data.bs)
def StPageRecord.size (x : StPageRecord) : Int := (x.data.bs.length : Int)
theorem StPageRecord.size_le (x : StPageRecord) : 0 ≤ x.size := by
  unfold StPageRecord.size
  omega
def StPageRecord.marked (x : StPageRecord) (k : Int) : StPageRecord := ⟨x.used, x.data.marked (k)⟩
theorem StPageRecord.foot_marked (x : StPageRecord) (k : Int) (b : Nat) : FootL (x.marked k).rows b ↔ FootL x.rows b := by
  exact BS.foot_marked _ _ b
def StPageRecord.rd (w : World) (x : StPageRecord) : Prop := Rd .u8 w x.data.v x.data.bs
theorem StPageRecord.rd.kept {R : Nat → Prop} {w w' : World} {x : StPageRecord} (h : StPageRecord.rd w x) (hk : Kept R w w') (hr : ∀ b, FootL x.rows b → ¬ R b) : StPageRecord.rd w' x :=
  Rd.kept (h) hk (fun b hb => hr b (((footL_ints _ _ _ _ _).2 hb)))
theorem StPageRecord.rd.same {w w' : World} {x : StPageRecord} (h : StPageRecord.rd w x) (hk : Same w w') : StPageRecord.rd w' x := h.kept hk (fun _ _ => id)
theorem StPageRecord.own_rd {w : World} {x : StPageRecord} (h : OwnL w x.rows) : StPageRecord.rd w x :=
  (OwnL.of_one h).rd
def StPageRecord.szs (x : StPageRecord) : Int := (x.data.bs.length : Int)
theorem StPageRecord.szs_le (x : StPageRecord) : 0 ≤ x.szs := by
  unfold StPageRecord.szs
  omega
theorem eqPageRecord_own (x y : StPageRecord) (w : World) (hn : x.size ≤ 1125899906842624) (hd : x.dat = y.dat) (ha : OwnL w x.rows) (hb : OwnL w y.rows) :
    Calls Try.prog 53 #[x.val, y.val] w fun e w' => e = .returned (.bool true) ∧ Same w w' := by
  obtain ⟨xused, ⟨xdata_e, xdata_a, xdata_c, xdata_b⟩⟩ := x
  obtain ⟨yused, ⟨ydata_e, ydata_a, ydata_c, ydata_b⟩⟩ := y
  simp only [StPageRecord.dat, Prod.mk.injEq] at hd
  obtain ⟨rfl, rfl⟩ := hd
  simp only [StPageRecord.size] at hn
  have Hx0 := (show Hid (OwnL w [ints xdata_e .u8 (.slice xdata_a xdata_b.length xdata_c) xdata_b]) from ha)
  have Hy0 := (show Hid (OwnL w [ints ydata_e .u8 (.slice ydata_a xdata_b.length ydata_c) xdata_b]) from hb)
  clear ha hb
  dsimp only [StPageRecord.val, BS.v]
  go_enter Try.func53, Try.ntmps53
  have hk0 : Same w ((w.alloc (.cells #[.bool xused, .slice xdata_a xdata_b.length xdata_c] 55)).alloc (.cells #[.bool xused, .slice ydata_a xdata_b.length ydata_c] 55)) := ((Kept.refl _ _).alloc _).alloc _
  have HK0 := (show Hid (Same w _) from hk0)
  obtain ⟨_, HBx0, HBy0⟩ := new2 w [.bool xused, .slice xdata_a xdata_b.length xdata_c] 55 [.bool xused, .slice ydata_a xdata_b.length ydata_c] 55
  clear hk0
  go_wp2_with fail
  refine (eqByteS_own 0 _ _ xdata_b _ (by omega) (Hx0.out.of_one.same HK0.out) (Hy0.out.of_one.same HK0.out)).mono ?_
  rintro e w1 ⟨rfl, nn, hww⟩
  have hk : Same ((w.alloc (.cells #[.bool xused, .slice xdata_a xdata_b.length xdata_c] 55)).alloc (.cells #[.bool xused, .slice ydata_a xdata_b.length ydata_c] 55)) w1 := by rw [hww]; exact (Kept.refl _ _).drewN _
  clear hww
  have HK1 := (show Hid (Same w w1) from HK0.out.trans hk)
  have HBx1 := hid (HBx0.out.same hk)
  have HBy1 := hid (HBy0.out.same hk)
  clear hk HK0 HBx0 HBy0
  go_wp2
  go_ret
  exact ⟨rfl, HK1.out⟩
theorem szPageRecord_any (x : StPageRecord) (left : Int) (w : World) (h0 : 0 ≤ left) (h1 : left ≤ 1048576) (ha : StPageRecord.rd w x) :
    Calls Try.prog 46 #[x.val, .int .i64 left] w fun e w' => ∃ r : Int, e = .returned (.int .i64 r) ∧ (r = -1 ∨ (r = left - x.szs ∧ 0 ≤ r)) ∧ Same w w' := by
  obtain ⟨xused, ⟨xdata_e, xdata_a, xdata_c, xdata_b⟩⟩ := x
  have hm0 : xdata_b.length ≤ maxLen := (ha).1
  clear ha
  dsimp only [StPageRecord.val, BS.v]
  go_enter Try.func46, Try.ntmps46
  obtain ⟨HK0, HB0⟩ := new1 w [.bool xused, .slice xdata_a xdata_b.length xdata_c] 44
  go_wp2_with fail
  refine (szByteS_any _ _ _ left _ (by omega) (by omega) hm0).mono ?_
  rintro e w1 ⟨r1, rfl, hr, hww⟩
  have hk : Same (w.alloc (.cells #[.bool xused, .slice xdata_a xdata_b.length xdata_c] 44)) w1 := by rw [hww]; exact Kept.refl _ _
  clear hww
  replace hr : r1 = -1 ∨ (r1 = left - xdata_b.length ∧ 0 ≤ r1) := by omega
  have HK1 := (show Hid (Same w w1) from HK0.out.trans hk)
  have HB1 := hid (HB0.out.same hk)
  clear hk
  rcases hr with rfl | ⟨hr, hr1⟩
  · go_wp2
    go_ret
    exact ⟨_, rfl, .inl rfl, HK1.out⟩
  have hle1 : r1 ≤ 1048576 := by omega
  have HR1 := (show Hid (_ = _) from hr)
  clear hr
  go_wp2
  go_ret
  exact ⟨_, rfl, .inr ⟨by have e1 := HR1.out; simp only [StPageRecord.szs]; omega, hr1⟩, HK1.out⟩
theorem toPageRecord_any (x : StPageRecord) (w : World) (hn : x.szs ≤ 1073741824) (ha : StPageRecord.rd w x) :
    Calls Try.prog 49 #[x.val] w fun e w' => ∃ y : StPageRecord, e = .returned y.val ∧ y.dat = x.dat ∧ y.szs = x.szs ∧ (∀ b, FootL y.rows b → w.heap.size ≤ b) ∧ OwnL w' y.rows ∧ Same w w' := by
  obtain ⟨xused, ⟨xdata_e, xdata_a, xdata_c, xdata_b⟩⟩ := x
  have HV0 := (show Hid (Rd .u8 w (.slice xdata_a xdata_b.length xdata_c) xdata_b) from ha)
  clear ha
  simp only [StPageRecord.szs] at hn
  dsimp only [StPageRecord.val, BS.v]
  go_enter Try.func49, Try.ntmps49
  have hk0 : Same w (((w.alloc (.cells #[.bool xused, .slice xdata_a xdata_b.length xdata_c] 44)).alloc (.cells #[.bool false, .slice none 0 0] 55)).alloc (.cells #[.bool xused, .slice none 0 0] 55)) := (((Kept.refl _ _).alloc _).alloc _).alloc _
  have b0 : Blk (((w.alloc (.cells #[.bool xused, .slice xdata_a xdata_b.length xdata_c] 44)).alloc (.cells #[.bool false, .slice none 0 0] 55)).alloc (.cells #[.bool xused, .slice none 0 0] 55)) (w.heap.size) 44 [.bool xused, .slice xdata_a xdata_b.length xdata_c] := ((Blk.new w #[.bool xused, .slice xdata_a xdata_b.length xdata_c] 44).alloc _).alloc _
  have b1 : Blk (((w.alloc (.cells #[.bool xused, .slice xdata_a xdata_b.length xdata_c] 44)).alloc (.cells #[.bool false, .slice none 0 0] 55)).alloc (.cells #[.bool xused, .slice none 0 0] 55)) (w.heap.size + 1) 55 [.bool false, .slice none 0 0] := by have h := (Blk.new (w.alloc (.cells #[.bool xused, .slice xdata_a xdata_b.length xdata_c] 44)) #[.bool false, .slice none 0 0] 55).alloc (.cells #[.bool xused, .slice none 0 0] 55); rwa [World.size_alloc] at h
  have b2 : Blk (((w.alloc (.cells #[.bool xused, .slice xdata_a xdata_b.length xdata_c] 44)).alloc (.cells #[.bool false, .slice none 0 0] 55)).alloc (.cells #[.bool xused, .slice none 0 0] 55)) (w.heap.size + 1 + 1) 55 [.bool xused, .slice none 0 0] := by have h := Blk.new ((w.alloc (.cells #[.bool xused, .slice xdata_a xdata_b.length xdata_c] 44)).alloc (.cells #[.bool false, .slice none 0 0] 55)) #[.bool xused, .slice none 0 0] 55; rwa [World.size_alloc, World.size_alloc] at h
  have hsz : (((w.alloc (.cells #[.bool xused, .slice xdata_a xdata_b.length xdata_c] 44)).alloc (.cells #[.bool false, .slice none 0 0] 55)).alloc (.cells #[.bool xused, .slice none 0 0] 55)).heap.size = w.heap.size + 1 + 1 + 1 := by simp only [World.size_alloc]
  go_wp2_with fail
  refine (toByteS_any _ xdata_b _ (by omega) (HV0.out.same hk0)).mono ?_
  rintro e w1 ⟨g0, rfl, hg, ho, hk⟩
  have O0 : OwnL w1 (BS.rows ⟨5, some ⟨g0, 0, none⟩, xdata_b.length, xdata_b⟩) := OwnL.one ho
  have F0 : ∀ b, FootL (BS.rows ⟨5, some ⟨g0, 0, none⟩, xdata_b.length, xdata_b⟩) b → w.heap.size + 1 + 1 < b := fun b hb => by have h := (footL_ints _ _ _ _ _).1 hb; have h2 : g0 = b := Option.some.inj h; have h3 := hg; omega
  clear ho
  have hk1 : Same w w1 := hk0.trans hk
  replace b0 : Blk w1 (w.heap.size) 44 [.bool xused, .slice xdata_a xdata_b.length xdata_c] := b0.same hk
  replace b1 : Blk w1 (w.heap.size + 1) 55 [.bool false, .slice none 0 0] := b1.same hk
  replace b2 : Blk w1 (w.heap.size + 1 + 1) 55 [.bool xused, .slice none 0 0] := b2.same hk
  replace hsz : w.heap.size + 1 + 1 + 1 ≤ w1.heap.size := by have := hk.size; omega
  clear hk hg
  have da1_0 := b0.c0
  have dr1_0 := b1.c0
  have fr1_0 : w1.frozen? ⟨w.heap.size + 1, 0, none⟩ = false := b1.frozen 0
  have do1_0 := b2.c0
  have fo1_0 : w1.frozen? ⟨w.heap.size + 1 + 1, 0, none⟩ = false := b2.frozen 0
  have da1_1 := b0.c1
  have dr1_1 := b1.c1
  have fr1_1 : w1.frozen? ⟨w.heap.size + 1, 1, none⟩ = false := b1.frozen 1
  have do1_1 := b2.c1
  have fo1_1 : w1.frozen? ⟨w.heap.size + 1 + 1, 1, none⟩ = false := b2.frozen 1
  have HKz := (show Hid (Same w w1) from hk1)
  have HB1 := (show Hid (Blk w1 (w.heap.size + 1) 55 [.bool false, .slice none 0 0]) from b1)
  have HO0 := (show Hid (OwnL w1 (BS.rows ⟨5, some ⟨g0, 0, none⟩, xdata_b.length, xdata_b⟩)) from O0)
  have HF0 := (show Hid (∀ b, FootL (BS.rows ⟨5, some ⟨g0, 0, none⟩, xdata_b.length, xdata_b⟩) b → w.heap.size + 1 + 1 < b) from F0)
  clear b0 b1 b2 hk0 hk1 O0 F0 
  go_wp2
  refine bodyPost_ret (v := StPageRecord.val ⟨xused, ⟨5, some ⟨g0, 0, none⟩, xdata_b.length, xdata_b⟩⟩) (by simp [StPageRecord.val, StPageRecord.val, BS.v, results, Try.results49, go_sem, dr1_0, dr1_1]) rfl ⟨⟨xused, ⟨5, some ⟨g0, 0, none⟩, xdata_b.length, xdata_b⟩⟩, rfl, ?_, ?_, ?_, ?_, ?_⟩
  · rfl
  · rfl
  · exact fun b hb => by have := HF0.out b (hb); omega
  · refine OwnL.kept (R := fun b => b = w.heap.size + 1 ∨ b = w.heap.size + 1 + 1) (show OwnL _ (StPageRecord.rows ⟨xused, ⟨5, some ⟨g0, 0, none⟩, xdata_b.length, xdata_b⟩⟩) from HO0.out) ?_ ?_
    · exact (Kept.setCell (Kept.setCell (Kept.setCell (Kept.refl (fun b => b = w.heap.size + 1 ∨ b = w.heap.size + 1 + 1) _) (p := ⟨w.heap.size + 1 + 1, 1, none⟩) (.inr (.inr rfl)) _) (p := ⟨w.heap.size + 1, 0, none⟩) (.inr (.inl rfl)) _) (p := ⟨w.heap.size + 1, 1, none⟩) (.inr (.inl rfl)) _)
    · exact fun b hb e => by have := HF0.out b (hb); omega
  · exact (Kept.setCell (Kept.setCell (Kept.setCell HKz.out (p := ⟨w.heap.size + 1 + 1, 1, none⟩) (.inl (by simp only []; omega)) _) (p := ⟨w.heap.size + 1, 0, none⟩) (.inl (by simp only []; omega)) _) (p := ⟨w.heap.size + 1, 1, none⟩) (.inl (by simp only []; omega)) _)
end Go.Proofs.Ythbocacnfhpidaa

namespace Go.Proofs.Ythbocacnfhpidaa
set_option maxHeartbeats 2000000
open Go.RowKit
set_option linter.unusedVariables false
set_option linter.unusedSimpArgs false
theorem Try.infoDirtyEntry : (Try.prog.info? 90).map (fun i => (i.zero, i.size, i.bytes)) = some (some (.agg #[.int .i64 0, .int .i64 0]), 2, 16) := by kernel_rfl
theorem eqDirtyEntry_any (x0 x1 : Int) (w : World) : Calls Try.prog 58 #[.agg #[.int .i64 x0, .int .i64 x1], .agg #[.int .i64 x0, .int .i64 x1]] w fun e w' => e = .returned (.bool true) ∧ Same w w' := by
  go_enter Try.func58, Try.ntmps58
  go_wp2
  go_ret
  exact ⟨rfl, ((Kept.refl _ _).alloc _).alloc _⟩
theorem toDirtyEntry_any (x0 x1 : Int) (w : World) : Calls Try.prog 56 #[.agg #[.int .i64 x0, .int .i64 x1]] w fun e w' => e = .returned (.agg #[.int .i64 x0, .int .i64 x1]) ∧ Same w w' := by
  go_enter Try.func56, Try.ntmps56
  go_wp2
  refine bodyPost_ret (v := .agg #[.int .i64 x0, .int .i64 x1]) (by simp [results, Try.results56, go_sem]) rfl ⟨rfl, ?_⟩
  repeat (first | exact Kept.refl _ _ | refine Kept.alloc ?_ _ | refine Kept.setCell ?_ (.inl (by simp)) _)
theorem eqDirtyEntryS_own (x y : FR) (w : World) (hn : (x.bs.length : Int) ≤ 1125899906842624) (hd : x.bs = y.bs) (ha : OwnL w (x.rows 2)) (hb : OwnL w (y.rows 2)) :
    Calls Try.prog 54 #[x.v, y.v] w fun e w' => e = .returned (.bool true) ∧ Same w w' := by
  have hla := FR.own_len ha
  have hlb := FR.own_len hb
  have hfa := FR.own_form ha
  have hfb := FR.own_form hb
  obtain ⟨xe, xa, xn, xc, bs⟩ := x
  obtain ⟨ye, ya, yn, yc, bs'⟩ := y
  dsimp only at hn hd hla hlb hfa hfb
  subst hd
  obtain rfl : xn = yn := by omega
  dsimp only [FR.v]
  clear ha hb
  rcases hfa with ⟨rfl, rfl, rfl⟩ | ⟨ga, rfl, hac, hcm, hoa⟩
  · have hz : (0 : Nat) = 0 := rfl
    go_enter Try.func54, Try.ntmps54
    go_wp2
    refine wp_loop_rounds 1 ?_
    rw [rounds_succ]
    go_wp2
    go_ret
    exact ⟨rfl, Kept.refl _ _⟩
  rcases hfb with ⟨rfl, rfl, rfl⟩ | ⟨gb, rfl, hbc, hcm', hob⟩
  · clear hoa
    go_enter Try.func54, Try.ntmps54
    go_wp2
    refine wp_loop_rounds 1 ?_
    rw [rounds_succ]
    go_wp2
    go_ret
    exact ⟨rfl, Kept.refl _ _⟩
  have HA := (show Hid (OwnF 2 xe w ga xn xc bs) from hoa)
  have HB := (show Hid (OwnF 2 ye w gb xn yc bs) from hob)
  have hxn : (xn : Int) ≤ 1125899906842624 := by omega
  clear hoa hob hla hlb hn
  go_enter Try.func54, Try.ntmps54
  go_wp2
  go_loopw [5] (fun i wr => ∃ (k : Nat), k ≤ xn ∧ i = .int .i64 k ∧ Hid (Same w wr)) (fun i _ => xn - (intOf i).toNat)
  case atStart => exact ⟨0, Nat.zero_le _, rfl, Kept.refl _ _⟩
  case round =>
    obtain ⟨k, hk, rfl, HK⟩ := hrel
    by_cases hlt : k < xn
    · have hoa := HA.out.same HK.out
      have hob := HB.out.same HK.out
      have ha0 : wr.cell? ⟨ga, k * 2, none⟩ = some (.int .i64 (bs.getD (k * 2) 0)) := hoa.cell _ (by omega)
      have ha1 : wr.cell? ⟨ga, k * 2 + 1, none⟩ = some (.int .i64 (bs.getD (k * 2 + 1) 0)) := hoa.cell _ (by omega)
      have hb0 : wr.cell? ⟨gb, k * 2, none⟩ = some (.int .i64 (bs.getD (k * 2) 0)) := hob.cell _ (by omega)
      have hb1 : wr.cell? ⟨gb, k * 2 + 1, none⟩ = some (.int .i64 (bs.getD (k * 2 + 1) 0)) := hob.cell _ (by omega)
      clear hoa hob
      generalize bs.getD (k * 2) 0 = x0 at *
      generalize bs.getD (k * 2 + 1) 0 = x1 at *
      go_wp2_with fail
      go_region_with (go_at_call 58; refine (eqDirtyEntry_any x0 x1 _).mono ?_; rintro e w1 ⟨rfl, hk1⟩)
      all_goals
        have HK1 : Hid (Same w w1) := HK.out.drew.trans hk1
        clear hk1 ha0 hb0 ha1 hb1
        go_wp2
        go_roundw
        case rel => exact ⟨k + 1, by omega, by go_num, HK1⟩
        case measure => simp [intOf]; omega
    · go_wp2
      go_ret
      exact ⟨rfl, HK.out⟩
theorem szDirtyEntryS_any (a : Option Addr) (n c : Nat) (left : Int) (w : World) (h0 : 0 ≤ left) (h1 : left ≤ 1048576) (hn : n ≤ maxLen) :
    Calls Try.prog 47 #[.slice a n c, .int .i64 left] w fun e w' => ∃ r : Int, e = .returned (.int .i64 r) ∧ ((r = -1 ∧ left < n) ∨ (r = left - n ∧ 0 ≤ r)) ∧ w' = w := by
  unfold maxLen at hn
  by_cases h : left < n
  · go_enter Try.func47, Try.ntmps47
    go_wp2
    go_ret
    exact ⟨_, rfl, .inl ⟨rfl, h⟩, rfl⟩
  · go_enter Try.func47, Try.ntmps47
    go_wp2
    go_ret
    exact ⟨_, rfl, .inr ⟨rfl, by omega⟩, rfl⟩
theorem toDirtyEntryS_any (x : FR) (w : World) (hn : (x.n : Int) ≤ 1073741824) (hv : RdF 2 w x) :
    Calls Try.prog 50 #[x.v] w fun e w' => ∃ y : FR, e = .returned y.v ∧ y.bs = x.bs ∧ y.n = x.n ∧ (∀ b, FootL (y.rows 2) b → w.heap.size ≤ b) ∧ OwnL w' (y.rows 2) ∧ Same w w' := by
  obtain ⟨i0, hi, hz0, hz1, hz2⟩ := info_parts Try.infoDirtyEntry
  obtain ⟨hmax, hlen, hform⟩ := hv
  obtain ⟨xe, xa, len, xc, bs⟩ := x
  dsimp only [FR.v] at *
  by_cases h0 : len = 0
  · subst h0
    obtain rfl : bs = [] := List.length_eq_zero_iff.1 (by omega)
    clear hform hmax hlen hn
    go_enter Try.func50, Try.ntmps50
    go_wp2_with (at_make; refine wpList_make_full _ rfl (.tmp 6) (.tmp 6) 56 rfl 0 90 i0 (.agg #[.int .i64 0, .int .i64 0]) 2 Try.underlying56 hi hz0 hz1 .i64 .i64 _ _ 0 rfl rfl (by simp) (by simp) (by simp) (by simp) (Nat.zero_le _) ?_; intro w1 hown1 hgrow1; have HO : Hid (OwnF 2 90 w1 w.heap.size 0 0 (List.replicate (0 * 2) 0)) := ownF_made (z := .agg #[.int .i64 0, .int .i64 0]) (by decide) (by simp [Value.cells, List.replicate]) (by simpa using hown1); have HK : Hid (Same w w1) := Kept.of_grown hgrow1 (fun k e => by cases e); clear hown1 hgrow1)
    refine wp_loop_rounds 1 ?_
    rw [rounds_succ]
    go_wp2
    go_ret
    exact ⟨⟨90, some ⟨w.heap.size, 0, none⟩, 0, 0, []⟩, rfl, rfl, rfl, fun b hb => by have h := (FootL_one _ _).1 hb; simp [FR.v, Value.ownBlock] at h; omega, HO.out.out, HK.out⟩
  · obtain ⟨b, off, rfl, hle, hc⟩ := hform.resolve_left h0
    have HC := (show Hid (∀ i, i < len * 2 → w.cell? ⟨b, off + i, none⟩ = some (.int .i64 (bs.getD i 0))) from hc)
    have HLB := (show Hid (bs.length = len * 2) from hlen)
    clear hc hform hlen
    go_enter Try.func50, Try.ntmps50
    go_wp2_with (at_make; refine wpList_make_full _ rfl (.tmp 6) (.tmp 6) 56 rfl 0 90 i0 (.agg #[.int .i64 0, .int .i64 0]) 2 Try.underlying56 hi hz0 hz1 .i64 .i64 _ _ len rfl rfl (by simp) (by simp) (by rw [hz2]; omega) (by unfold maxLen; omega) (Nat.zero_le _) ?_; intro w1 hown1 hgrow1; have HO : Hid (OwnF 2 90 w1 w.heap.size len len (List.replicate (len * 2) 0)) := ownF_made (z := .agg #[.int .i64 0, .int .i64 0]) (by decide) (by simp [Value.cells, List.replicate]) (by simpa using hown1); have HK : Hid (Same w w1) := Kept.of_grown hgrow1 (fun k e => by cases e); clear hown1 hgrow1)
    go_loopw [4] (fun i wr => ∃ (k : Nat), k ≤ len ∧ i = .int .i64 k ∧ Hid (OwnF 2 90 wr w.heap.size len len (fillUp bs (k * 2))) ∧ Hid (Same w wr)) (fun i _ => len - (intOf i).toNat)
    case atStart => exact ⟨0, Nat.zero_le _, rfl, by rw [Nat.zero_mul, fillUp_zero, HLB.out]; exact HO, HK⟩
    case round =>
      obtain ⟨k, hk, rfl, HOr, HKr⟩ := hrel
      by_cases hlt : k < len
      · have q0 : wr.cell? ⟨b, off + k * 2, none⟩ = some (.int .i64 (bs.getD (k * 2) 0)) := by have h := HKr.out.cellOf (HC.out (k * 2) (by omega)) id; simpa only [Nat.add_assoc] using h
        have q1 : wr.cell? ⟨b, off + k * 2 + 1, none⟩ = some (.int .i64 (bs.getD (k * 2 + 1) 0)) := by have h := HKr.out.cellOf (HC.out (k * 2 + 1) (by omega)) id; simpa only [Nat.add_assoc] using h
        go_wp2_with fail
        refine (toDirtyEntry_any (bs.getD (k * 2) 0) (bs.getD (k * 2 + 1) 0) _).mono ?_
        rintro e w2 ⟨rfl, hk2⟩
        have HO2 := hid (HOr.out.same hk2)
        have HK2 := (show Hid (Same w w2) from HKr.out.trans hk2)
        clear hk2
        have r0 := HO2.out.cell (k * 2) (by omega)
        have f0 := HO2.out.frozen (k * 2)
        have r1 := HO2.out.cell (k * 2 + 1) (by omega)
        have f1 := HO2.out.frozen (k * 2 + 1)
        go_wp2
        go_roundw
        case rel =>
          have h0 := HO2.out
          have h1 := h0.stored (k * 2) (bs.getD (k * 2) 0)
          rw [fillUp_step _ _ (by have := HLB.out; omega)] at h1
          have h2 := h1.stored (k * 2 + 1) (bs.getD (k * 2 + 1) 0)
          rw [fillUp_step _ _ (by have := HLB.out; omega)] at h2
          refine ⟨k + 1, by omega, by go_num, ?_, ?_⟩
          · rw [show (k + 1) * 2 = k * 2 + 1 + 1 from by omega]; simpa [List.getD, Hid] using h2
          · exact ((HK2.out.setCell (.inl (Nat.le_refl _)) _).setCell (.inl (Nat.le_refl _)) _)
        case measure => simp [intOf]; omega
      · go_wp2
        go_ret
        obtain rfl : k = len := by omega
        have h := HOr.out
        rw [← HLB.out, fillUp_all] at h
        exact ⟨⟨90, some ⟨w.heap.size, 0, none⟩, k, k, bs⟩, rfl, rfl, rfl, fun b hb => by have h := (FootL_one _ _).1 hb; simp [FR.v, Value.ownBlock] at h; omega, h.out, HKr.out⟩
end Go.Proofs.Ythbocacnfhpidaa
