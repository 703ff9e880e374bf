import Derived.Test.YtfhdkbibcndmjaaG00
import Derived.Test.YtfhdkbibcndmjaaG02
import Derived.Test.YtfhdkbibcndmjaaG01
import Derived.Deep.MidRow
import Derived.Deep.WholeRow
import Derived.Deep.RegionWith
import Derived.Deep.DeepMust
import Derived.Deep.DeepCutAuto
namespace Go.Proofs.Ytfhdkbibcndmjaa
open Go Go.RowKit
set_option linter.unusedVariables false
set_option linter.unusedSimpArgs false
structure RowK (E : Type) where
  m : Nat
  cells : E → List Value
  len : ∀ p, (cells p).length = m
  v : E → Value
  bs : E → List Int
variable {E : Type}
def RowK.all (K : RowK E) : List E → List Value
  | [] => []
  | p :: ps => K.cells p ++ K.all ps
theorem RowK.all_length (K : RowK E) (ps : List E) : (K.all ps).length = ps.length * K.m := by
  induction ps with
  | nil => simp [RowK.all]
  | cons p ps ih => rw [RowK.all, List.length_append, K.len, ih, List.length_cons, Nat.add_mul, Nat.one_mul, Nat.add_comm]
theorem RowK.all_append (K : RowK E) (ps qs : List E) : K.all (ps ++ qs) = K.all ps ++ K.all qs := by
  induction ps with
  | nil => rfl
  | cons p ps ih => simp only [List.cons_append, RowK.all, ih, List.append_assoc]
theorem RowK.all_at (K : RowK E) (ps : List E) (j i : Nat) (h : j < ps.length) (hi : i < K.m) : (K.all ps)[j * K.m + i]? = (K.cells ps[j])[i]? := by
  induction ps generalizing j with
  | nil => simp at h
  | cons p ps ih =>
    cases j with
    | zero => rw [Nat.zero_mul, Nat.zero_add, RowK.all, List.getElem?_append_left (by rw [K.len]; exact hi)]; rfl
    | succ j =>
      rw [RowK.all, List.getElem?_append_right (by rw [K.len, Nat.add_mul]; omega), K.len, show (j + 1) * K.m + i - K.m = j * K.m + i from by rw [Nat.add_mul]; omega]
      exact ih j (by simpa using h)
structure OwnR (K : RowK E) (base : Nat) (tw tb : TypeId) (w : World) (v : Value) (ps : List E) : Prop where
  row : w.ownsRow base tw K.m v ps.length (K.all ps)
  data : ∀ p ∈ ps, Own base tb .u8 w (K.v p) (K.bs p)
  out : ∀ u ∈ ps.map K.v, Apart v u
  each : (ps.map K.v).Pairwise Apart
def footR (K : RowK E) (v : Value) (ps : List E) (b : Nat) : Prop := v.ownBlock = some b ∨ ∃ p ∈ ps, (K.v p).ownBlock = some b
section
variable {K : RowK E} {base : Nat} {tw tb : TypeId} {w w' : World} {v : Value} {ps qs : List E}
theorem OwnR.form (h : OwnR K base tw tb w v ps) :
    (v = .slice none 0 0 ∧ ps = []) ∨ ∃ g cap, v = .slice (some ⟨g, 0, none⟩) ps.length cap ∧ base ≤ g ∧ g < w.heap.size ∧ ps.length ≤ cap ∧ cap ≤ maxLen := by
  rcases h.row.2 with ⟨rfl, hn⟩ | ⟨g, cap, cur, rfl, hb, hgg, hc, hm, _⟩
  · exact .inl ⟨rfl, List.length_eq_zero_iff.1 hn⟩
  · exact .inr ⟨g, cap, rfl, hb, (Array.getElem?_eq_some_iff.1 hgg).1, hc, hm⟩
theorem OwnR.lt (h : OwnR K base tw tb w v ps) (b : Nat) (hb : footR K v ps b) : base ≤ b ∧ b < w.heap.size := by
  rcases hb with hb | ⟨p, hp, hb⟩
  · exact World.ownsRow.lt h.row b hb
  · exact (h.data p hp).lt b hb
theorem OwnR.cell {g n cap : Nat} (h : OwnR K base tw tb w (.slice (some ⟨g, 0, none⟩) n cap) ps) (hn : n = ps.length) (j i : Nat) (hj : j < ps.length) (hi : i < K.m) :
    w.cell? ⟨g, j * K.m + i, none⟩ = (K.cells ps[j])[i]? := by
  subst hn
  rw [World.ownsRow.cellAt h.row (j * K.m + i) (by have := Nat.mul_le_mul_right K.m (Nat.succ_le_of_lt hj); rw [Nat.succ_mul] at this; omega), K.all_at ps j i hj hi]
theorem OwnR.frozen {g n cap : Nat} (h : OwnR K base tw tb w (.slice (some ⟨g, 0, none⟩) n cap) ps) (hn : n = ps.length) (j : Nat) : w.frozen? ⟨g, j, none⟩ = false := by
  subst hn
  exact World.ownsRow.frozenAt h.row j
theorem OwnR.kept {R : Nat → Prop} (h : OwnR K base tw tb w v ps) (hk : Kept R w w') (hr : ∀ b, footR K v ps b → ¬ R b) : OwnR K base tw tb w' v ps :=
  ⟨hk.owns h.row (fun b hb => hr b (.inl hb)), fun p hp => (h.data p hp).kept hk (fun b hb => hr b (.inr ⟨p, hp, hb⟩)), h.out, h.each⟩
theorem OwnR.same (h : OwnR K base tw tb w v ps) (hk : Same w w') : OwnR K base tw tb w' v ps := h.kept hk (fun _ _ => id)
theorem OwnR.nil (K : RowK E) (base : Nat) (tw tb : TypeId) (w : World) : OwnR K base tw tb w (.slice none 0 0) [] :=
  ⟨World.ownsRow_nil _ _ _ _, fun _ h => by simp at h, fun _ h => by simp at h, List.Pairwise.nil⟩
theorem OwnR.set {g n cap : Nat} {pre post : List E} {p p' : E} (h : OwnR K base tw tb w (.slice (some ⟨g, 0, none⟩) n cap) (pre ++ p :: post)) (hn : n = (pre ++ p :: post).length) (i : Nat) (u : Value) (hi : i < K.m)
    (hc : K.cells p' = (K.cells p).set i u) (hv : K.v p' = K.v p) (hb : K.bs p' = K.bs p) (j : Nat) (hj : j = pre.length * K.m + i) :
    OwnR K base tw tb (w.setCell ⟨g, j, none⟩ u) (.slice (some ⟨g, 0, none⟩) n cap) (pre ++ p' :: post) := by
  subst hn hj
  have hk : Kept (fun b => b = g) w (w.setCell ⟨g, pre.length * K.m + i, none⟩ u) := Kept.setCell (Kept.refl (fun b => b = g) w) (p := ⟨g, pre.length * K.m + i, none⟩) (.inr rfl) _
  have hmap : (pre ++ p' :: post).map K.v = (pre ++ p :: post).map K.v := by simp [hv]
  refine ⟨?_, fun q hq => ?_, by rw [hmap]; exact h.out, by rw [hmap]; exact h.each⟩
  · have hs := (World.ownsRow.stored h.row (pre.length * K.m + i) u).1
    have e : K.all (pre ++ p' :: post) = (K.all (pre ++ p :: post)).set (pre.length * K.m + i) u := by
      rw [K.all_append, K.all_append, List.set_append_right (h := by rw [K.all_length]; omega), K.all_length, Nat.add_sub_cancel_left, RowK.all, RowK.all, List.set_append_left (h := by rw [K.len]; exact hi), hc]
    rw [e]
    simpa using hs
  · have hq' : ∃ q' ∈ pre ++ p :: post, K.v q' = K.v q ∧ K.bs q' = K.bs q := by
      rcases List.mem_append.1 hq with hq | hq
      · exact ⟨q, by simp [hq], rfl, rfl⟩
      · rcases List.mem_cons.1 hq with rfl | hq
        · exact ⟨p, by simp, hv.symm, hb.symm⟩
        · exact ⟨q, by simp [hq], rfl, rfl⟩
    obtain ⟨q', hm, e1, e2⟩ := hq'
    have hd := h.data q' hm
    rw [e1, e2] at hd
    refine hd.kept hk (fun b hb e => ?_)
    subst e
    exact h.out (K.v q) (by rw [← e1]; exact List.mem_map_of_mem hm) b rfl hb
theorem OwnR.setData {pre post : List E} {p p' : E} (h : OwnR K base tw tb w v (pre ++ p :: post)) (hk : Kept (fun b => (K.v p).ownBlock = some b) w w') (hc : K.cells p' = K.cells p) (hv : K.v p' = K.v p) (ho : Own base tb .u8 w' (K.v p) (K.bs p')) :
    OwnR K base tw tb w' v (pre ++ p' :: post) := by
  have hmap : (pre ++ p' :: post).map K.v = (pre ++ p :: post).map K.v := by simp [hv]
  have hcells : K.all (pre ++ p' :: post) = K.all (pre ++ p :: post) := by rw [K.all_append, K.all_append, RowK.all, RowK.all, hc]
  have hlen : (pre ++ p' :: post).length = (pre ++ p :: post).length := by simp
  have hea := h.each
  rw [List.map_append, List.map_cons] at hea
  obtain ⟨_, h2, h3⟩ := List.pairwise_append.1 hea
  have h4 := List.pairwise_cons.1 h2
  refine ⟨?_, fun q hq => ?_, by rw [hmap]; exact h.out, by rw [hmap]; exact h.each⟩
  · rw [hcells, hlen]
    exact hk.owns h.row (fun b hb e => h.out (K.v p) (by simp) b hb e)
  · rcases List.mem_append.1 hq with hq | hq
    · exact (h.data q (by simp [hq])).kept hk (fun b hb e => h3 (K.v q) (List.mem_map_of_mem hq) (K.v p) (by simp) b hb e)
    · rcases List.mem_cons.1 hq with rfl | hq
      · rw [hv]; exact ho
      · exact (h.data q (by simp [hq])).kept hk (fun b hb e => h4.1 (K.v q) (List.mem_map_of_mem hq) b e hb)
end
structure MarkK (K : RowK E) where
  on : Int → E → E
  sz : E → Nat
  v : ∀ k p, K.v (on k p) = K.v p
def markR {K : RowK E} (M : MarkK K) : Int → List E → List E
  | _, [] => []
  | k, p :: ps => M.on k p :: markR M (k + M.sz p) ps
def endR {K : RowK E} (M : MarkK K) : Int → List E → Int
  | k, [] => k
  | k, p :: ps => endR M (k + M.sz p) ps
section
variable {K : RowK E} (M : MarkK K)
theorem markR_length (k : Int) (ps : List E) : (markR M k ps).length = ps.length := by
  induction ps generalizing k with
  | nil => rfl
  | cons p ps ih => simp [markR, ih]
theorem endR_le (k : Int) (ps : List E) : k ≤ endR M k ps := by
  induction ps generalizing k with
  | nil => exact Int.le_refl _
  | cons p ps ih => have := ih (k + M.sz p); simp only [endR]; omega
theorem endR_snoc (k : Int) (ps : List E) (p : E) : endR M k (ps ++ [p]) = endR M k ps + M.sz p := by
  induction ps generalizing k with
  | nil => rfl
  | cons q ps ih => simp only [List.cons_append, endR, ih]
theorem endR_append (k : Int) (ps qs : List E) : endR M k (ps ++ qs) = endR M (endR M k ps) qs := by
  induction ps generalizing k with
  | nil => rfl
  | cons q ps ih => simp only [List.cons_append, endR, ih]
theorem markR_snoc (k : Int) (ps : List E) (p : E) : markR M k (ps ++ [p]) = markR M k ps ++ [M.on (endR M k ps) p] := by
  induction ps generalizing k with
  | nil => rfl
  | cons q ps ih => simp only [List.cons_append, markR, endR, ih]
def partR (k : Int) (ps : List E) (j : Nat) : List E := markR M k (ps.take j) ++ ps.drop j
theorem partR_length (k : Int) (ps : List E) (j : Nat) : (partR M k ps j).length = ps.length := by simp [partR, markR_length]; omega
theorem partR_zero (k : Int) (ps : List E) : partR M k ps 0 = ps := by simp [partR, markR]
theorem partR_all (k : Int) (ps : List E) : partR M k ps ps.length = markR M k ps := by simp [partR]
theorem partR_at (k : Int) (ps : List E) (j : Nat) (h : j < ps.length) : partR M k ps j = markR M k (ps.take j) ++ ps[j] :: ps.drop (j + 1) := by
  unfold partR
  rw [List.drop_eq_getElem_cons h]
theorem partR_step (k : Int) (ps : List E) (j : Nat) (h : j < ps.length) : partR M k ps (j + 1) = markR M k (ps.take j) ++ M.on (endR M k (ps.take j)) ps[j] :: ps.drop (j + 1) := by
  unfold partR
  rw [List.take_succ_eq_append_getElem h, markR_snoc, List.append_assoc]
  rfl
theorem endR_step (k : Int) (ps : List E) (j : Nat) (h : j < ps.length) : endR M k (ps.take (j + 1)) = endR M k (ps.take j) + M.sz ps[j] := by
  rw [List.take_succ_eq_append_getElem h, endR_snoc]
theorem endR_take_le (k : Int) (ps : List E) (j : Nat) : endR M k (ps.take j) ≤ endR M k ps := by
  have h := endR_append M k (ps.take j) (ps.drop j)
  rw [List.take_append_drop] at h
  rw [h]
  exact endR_le M _ _
end
structure RdR (K : RowK E) (w : World) (v : Value) (ps : List E) : Prop where
  max : ps.length ≤ maxLen
  row : (ps = [] ∧ ∃ a c, v = .slice a 0 c) ∨ ∃ b off c, v = .slice (some ⟨b, off, none⟩) ps.length c ∧ ∀ j i, (h : j < ps.length) → i < K.m → w.cell? ⟨b, off + (j * K.m + i), none⟩ = (K.cells ps[j])[i]?
  data : ∀ p ∈ ps, Rd .u8 w (K.v p) (K.bs p)
section
variable {K : RowK E} {w w' : World} {v : Value} {ps : List E}
theorem RdR.kept {R : Nat → Prop} (h : RdR K w v ps) (hk : Kept R w w') (hr : ∀ b, footR K v ps b → ¬ R b) : RdR K w' v ps := by
  refine ⟨h.max, ?_, fun p hp => (h.data p hp).kept hk (fun b hb => hr b (.inr ⟨p, hp, hb⟩))⟩
  rcases h.row with h | ⟨b, off, c, rfl, hc⟩
  · exact .inl h
  · refine .inr ⟨b, off, c, rfl, fun j i hj hi => ?_⟩
    have hl := K.len ps[j]
    rw [List.getElem?_eq_getElem (by omega)]
    exact hk.cellOf (by rw [hc j i hj hi, List.getElem?_eq_getElem (by omega)]) (hr b (.inl rfl))
theorem RdR.same (h : RdR K w v ps) (hk : Same w w') : RdR K w' v ps := h.kept hk (fun _ _ => id)
theorem RdR.form (h : RdR K w v ps) : ∃ a c, v = .slice a ps.length c := by
  rcases h.row with ⟨rfl, a, c, rfl⟩ | ⟨b, off, c, rfl, _⟩ <;> exact ⟨_, _, rfl⟩
theorem OwnR.rd {base : Nat} {tw tb : TypeId} (h : OwnR K base tw tb w v ps) : RdR K w v ps := by
  refine ⟨?_, ?_, fun p hp => (h.data p hp).rd⟩
  · rcases h.form with ⟨rfl, rfl⟩ | ⟨g, cap, rfl, _, _, hc, hm⟩
    · simp
    · exact Nat.le_trans hc hm
  · rcases h.form with ⟨rfl, rfl⟩ | ⟨g, cap, rfl, _, _, hc, hm⟩
    · exact .inl ⟨rfl, _, _, rfl⟩
    · exact .inr ⟨g, 0, cap, rfl, fun j i hj hi => by rw [Nat.zero_add]; exact h.cell rfl j i hj hi⟩
end
end Go.Proofs.Ytfhdkbibcndmjaa

namespace Go.Proofs.Ytfhdkbibcndmjaa
open Go.RowKit
set_option linter.unusedVariables false
theorem addr_add (B o j : Nat) : (⟨B, o, none⟩ : Addr).add j = ⟨B, o + j, none⟩ := by unfold Addr.add; split <;> simp_all
theorem Blk.loads {P : Program} {w : World} {B : Nat} {e : TypeId} {xs : List Value} (h : Blk w B e xs) (o n : Nat) (hn : o + n ≤ xs.length) : (loadCellsFrom ⟨B, o, none⟩ 0 n #[]).run P w = .ok ((xs.drop o).take n).toArray w := by
  have hl : ((xs.drop o).take n).length = n := by simp; omega
  have := run_loadCells_list (P := P) w ⟨B, o, none⟩ ((xs.drop o).take n) (fun j v hv => by
    rw [addr_add, h.cell]
    have hj : j < n := by have := (List.getElem?_eq_some_iff.1 hv).1; omega
    rw [List.getElem?_take_of_lt hj, List.getElem?_drop] at hv
    exact hv)
  simpa [loadCells, hl] using this
theorem Blk.setCells {B : Nat} {e : TypeId} : ∀ (vs : List Value) (o : Nat) {w : World} {xs : List Value}, Blk w B e xs → o + vs.length ≤ xs.length → Blk (w.setCells B o vs) B e (lay xs o vs)
  | [], o, w, xs, h, _ => by rw [lay_nil]; exact h
  | v :: vs, o, w, xs, h, hl => by
    simp only [List.length_cons] at hl
    have := Blk.setCells vs (o + 1) (h.stored o v) (by rw [List.length_set]; omega)
    rw [lay_cons _ _ _ _ hl] at this
    exact this
theorem Kept.setCells {R : Nat → Prop} {a : World} {B : Nat} (hB : a.heap.size ≤ B ∨ R B) : ∀ (vs : List Value) (o : Nat) {b : World}, Kept R a b → Kept R a (b.setCells B o vs)
  | [], _, _, h => h
  | v :: vs, o, b, h => Kept.setCells hB vs (o + 1) (h.setCell (p := ⟨B, o, none⟩) hB v)
theorem Blk.range {w : World} {B : Nat} {e : TypeId} {xs : List Value} (h : Blk w B e xs) (o : Nat) (cs : List Value) (hc : ∀ j v, cs[j]? = some v → xs[o + j]? = some v) : w.rangeAt B o cs := fun j v hv => by
  rw [h.cell]
  exact hc j v hv
theorem Blk.there {w : World} {B : Nat} {e : TypeId} {xs : List Value} (h : Blk w B e xs) (o n : Nat) (hn : o + n ≤ xs.length) : w.there B o n := fun j hj => ⟨by rw [h.cell, List.getElem?_eq_getElem (by omega)]; rfl, h.frozen _⟩
end Go.Proofs.Ytfhdkbibcndmjaa

namespace Go.Proofs.Ytfhdkbibcndmjaa
open Go Go.RowKit
set_option linter.unusedVariables false
set_option linter.unusedSimpArgs false
variable {E : Type}
theorem lay_midR (A B C B' : List Value) (h : B'.length = B.length) : lay (A ++ (B ++ C)) A.length B' = A ++ (B' ++ C) := by
  unfold lay
  rw [List.take_left, h, List.drop_append, List.drop_of_length_le (by omega), Nat.add_sub_cancel_left, List.drop_left, List.nil_append]
theorem owns_setCells {base : Nat} {e : TypeId} {size g n cap : Nat} : ∀ (vs : List Value) (o : Nat) {w : World} {xs : List Value}, w.ownsRow base e size (.slice (some ⟨g, 0, none⟩) n cap) n xs → o + vs.length ≤ xs.length → (w.setCells g o vs).ownsRow base e size (.slice (some ⟨g, 0, none⟩) n cap) n (lay xs o vs)
  | [], o, w, xs, h, _ => by rw [lay_nil]; exact h
  | v :: vs, o, w, xs, h, hl => by
    simp only [List.length_cons] at hl
    have h1 := (World.ownsRow.stored h o v).1
    have := owns_setCells vs (o + 1) h1 (by rw [List.length_set]; omega)
    rw [lay_cons _ _ _ _ hl] at this
    exact this
section
variable {K : RowK E} {base : Nat} {tw tb : TypeId} {w w' : World}
theorem OwnR.setElem {g n cap : Nat} {pre post : List E} {p p' : E} (h : OwnR K base tw tb w (.slice (some ⟨g, 0, none⟩) n cap) (pre ++ p :: post)) (hn : n = (pre ++ p :: post).length) (j : Nat) (hj : j = pre.length * K.m)
    (hu : Own base tb .u8 w (K.v p') (K.bs p')) (hf : ∀ b, (K.v p').ownBlock = some b → ¬ footR K (.slice (some ⟨g, 0, none⟩) n cap) (pre ++ p :: post) b) :
    OwnR K base tw tb (w.setCells g j (K.cells p')) (.slice (some ⟨g, 0, none⟩) n cap) (pre ++ p' :: post) := by
  subst hn hj
  have hk : Kept (fun b => b = g) w (w.setCells g (pre.length * K.m) (K.cells p')) := Kept.setCells (R := fun b => b = g) (.inr rfl) _ _ (Kept.refl _ _)
  have hug : ∀ b, (K.v p').ownBlock = some b → ¬ b = g := fun b hb e => hf b hb (.inl (by rw [e]; rfl))
  have hold : ∀ q ∈ pre ++ post, q ∈ pre ++ p :: post := fun q hq => by
    rcases List.mem_append.1 hq with hq | hq
    · simp [hq]
    · simp [hq]
  have hea := h.each
  rw [List.map_append, List.map_cons] at hea
  obtain ⟨h1, h2, h3⟩ := List.pairwise_append.1 hea
  have h4 := List.pairwise_cons.1 h2
  refine ⟨?_, fun q hq => ?_, ?_, ?_⟩
  · have hs := owns_setCells (K.cells p') (pre.length * K.m) h.row (by rw [K.len, K.all_length, List.length_append, List.length_cons, Nat.add_mul, Nat.add_mul]; omega)
    have e : K.all (pre ++ p' :: post) = lay (K.all (pre ++ p :: post)) (pre.length * K.m) (K.cells p') := by
      rw [K.all_append, K.all_append, RowK.all, RowK.all, ← K.all_length pre, lay_midR _ _ _ _ (by rw [K.len, K.len])]
    rw [e]
    simpa using hs
  · have hd : ∀ q ∈ pre ++ post, Own base tb .u8 (w.setCells g (pre.length * K.m) (K.cells p')) (K.v q) (K.bs q) := fun q hq =>
      (h.data q (hold q hq)).kept hk (fun b hb e => h.out (K.v q) (List.mem_map_of_mem (hold q hq)) b (by rw [e]; rfl) hb)
    rcases List.mem_append.1 hq with hq | hq
    · exact hd q (by simp [hq])
    · rcases List.mem_cons.1 hq with rfl | hq
      · exact hu.kept hk hug
      · exact hd q (by simp [hq])
  · intro x hx
    rw [List.map_append, List.map_cons] at hx
    have hx' : x ∈ (pre ++ post).map K.v ∨ x = K.v p' := by
      simp only [List.mem_append, List.mem_cons, List.map_append] at hx ⊢
      rcases hx with hx | hx | hx
      · exact .inl (.inl hx)
      · exact .inr hx
      · exact .inl (.inr hx)
    rcases hx' with hx' | rfl
    · obtain ⟨q, hq, rfl⟩ := List.mem_map.1 hx'
      exact h.out (K.v q) (List.mem_map_of_mem (hold q hq))
    · exact fun b hb hu' => hf b hu' (.inl hb)
  · rw [List.map_append, List.map_cons]
    have hua : ∀ q ∈ pre ++ post, Apart (K.v p') (K.v q) := fun q hq b hb hq' => hf b hb (.inr ⟨q, hold q hq, hq'⟩)
    refine List.pairwise_append.2 ⟨h1, List.pairwise_cons.2 ⟨fun x hx => ?_, h4.2⟩, fun x hx y hy => ?_⟩
    · obtain ⟨q, hq, rfl⟩ := List.mem_map.1 hx
      exact hua q (by simp [hq])
    · obtain ⟨q, hq, rfl⟩ := List.mem_map.1 hx
      rcases List.mem_cons.1 hy with rfl | hy
      · exact (hua q (by simp [hq])).symm
      · exact h3 (K.v q) hx y (List.mem_cons_of_mem _ hy)
theorem OwnR.cellMid {g n cap : Nat} {pre post : List E} {p : E} (h : OwnR K base tw tb w (.slice (some ⟨g, 0, none⟩) n cap) (pre ++ p :: post)) (hn : n = (pre ++ p :: post).length) (i : Nat) (hi : i < K.m) (j : Nat) (hj : j = pre.length * K.m + i) :
    w.cell? ⟨g, j, none⟩ = (K.cells p)[i]? := by
  subst hj
  rw [h.cell hn pre.length i (by simp) hi]
  simp
theorem ownR_made {v : Value} {n : Nat} {z : Value} {zp : E} (hm : 0 < K.m) (hz : z.cells = (K.cells zp).toArray) (hv : K.v zp = .slice none 0 0) (hb : K.bs zp = []) (h : w.ownsRow base tw K.m v n (madeCells z.cells (n * K.m)).toList) :
    OwnR K base tw tb w v (List.replicate n zp) := by
  have e : K.all (List.replicate n zp) = (madeCells z.cells (n * K.m)).toList := by
    apply List.ext_getElem?
    intro j
    by_cases hj : j < n * K.m
    · have hl : j / K.m < (List.replicate n zp).length := by rw [List.length_replicate]; exact Nat.div_lt_of_lt_mul (by rw [Nat.mul_comm]; exact hj)
      have hi : j % K.m < K.m := Nat.mod_lt _ hm
      have h2 := K.all_at _ (j / K.m) (j % K.m) hl hi
      rw [show j / K.m * K.m + j % K.m = j from by rw [Nat.mul_comm]; exact Nat.div_add_mod j K.m] at h2
      rw [h2]
      have hlen := K.len zp
      simp [madeCells, hj, hz, hlen, hi]
    · rw [List.getElem?_eq_none (by rw [K.all_length, List.length_replicate]; omega), List.getElem?_eq_none (by simp [madeCells]; omega)]
  refine ⟨by rw [List.length_replicate, e]; exact h, fun p hp => ?_, fun u hu => ?_, ?_⟩
  · rw [List.eq_of_mem_replicate hp, hv, hb]; exact Own.nil _ _ _ _
  · rw [List.map_replicate] at hu
    rw [List.eq_of_mem_replicate hu, hv]
    intro b _ hb'
    simp [Value.ownBlock] at hb'
  · rw [List.map_replicate]
    refine List.pairwise_replicate.2 (.inr ?_)
    rw [hv]
    intro b _ hb'
    simp [Value.ownBlock] at hb'
end
end Go.Proofs.Ytfhdkbibcndmjaa

namespace Go.Proofs.Ytfhdkbibcndmjaa
set_option maxRecDepth 100000
set_option maxHeartbeats 4000000
open Go.RowKit
set_option linter.unusedVariables false
set_option linter.unusedSimpArgs false
structure EOp where
  kind : Int
  sec : Int
  v : Value
  bs : List Int
def kOp : RowK EOp := ⟨3, fun p => [.int .i64 p.kind, .int .i64 p.sec, p.v], fun _ => rfl, EOp.v, EOp.bs⟩
def EOp.dat (p : EOp) : Int × Int × List Int := (p.kind, p.sec, p.bs)
def datOpS (ps : List EOp) : List (Int × Int × List Int) := ps.map EOp.dat
theorem datOpS_length (ps : List EOp) : (datOpS ps).length = ps.length := by simp [datOpS]
theorem datOpS_at {ps qs : List EOp} (h : datOpS ps = datOpS qs) (k : Nat) (h1 : k < ps.length) (h2 : k < qs.length) : ps[k].dat = qs[k].dat := by
  have := congrArg (fun l => l[k]?) h
  simpa [datOpS, h1, h2] using this
theorem Try.infoROp : (Try.prog.info? 76).map (fun i => (i.zero, i.size, i.bytes)) = some (some (.agg #[.int .i64 0, .int .i64 0, .slice none 0 0]), 3, 40) := by kernel_rfl
def sizeOpS : List EOp → Nat
  | [] => 0
  | p :: ps => p.bs.length + sizeOpS ps
theorem sizeOpS_append (ps qs : List EOp) : sizeOpS (ps ++ qs) = sizeOpS ps + sizeOpS qs := by
  induction ps with
  | nil => simp [sizeOpS]
  | cons p ps ih => simp only [List.cons_append, sizeOpS, ih]; omega
theorem sizeOpS_step (ps : List EOp) (j : Nat) (h : j < ps.length) : sizeOpS (ps.take (j + 1)) = sizeOpS (ps.take j) + ps[j].bs.length := by
  rw [List.take_succ_eq_append_getElem h, sizeOpS_append]
  simp [sizeOpS]
theorem sizeOpS_mem (ps : List EOp) (p : EOp) (h : p ∈ ps) : p.bs.length ≤ sizeOpS ps := by
  induction ps with
  | nil => cases h
  | cons q qs ih =>
    rcases List.mem_cons.1 h with rfl | h
    · simp [sizeOpS]
    · have := ih h; simp only [sizeOpS]; omega
theorem eqOp_own {ta tb : TypeId} (base : Nat) (kind : Int) (sec : Int) (va vb : Value) (bs : List Int) (w : World) (hn : bs.length ≤ 1125899906842624) (ha : Own base ta .u8 w va bs) (hb : Own base tb .u8 w vb bs) :
    Calls Try.prog 73 #[.agg #[.int .i64 kind, .int .i64 sec, va], .agg #[.int .i64 kind, .int .i64 sec, vb]] w fun e w' => e = .returned (.bool true) ∧ Same w w' := by
  obtain ⟨aa, na, ca, rfl⟩ := slice_of_own ha
  obtain ⟨ab, nb, cb, rfl⟩ := slice_of_own hb
  have HA : Hid (Own base ta .u8 w (.slice aa na ca) bs) := ha
  have HB : Hid (Own base tb .u8 w (.slice ab nb cb) bs) := hb
  have b0 := (Blk.newL w [.int .i64 kind, .int .i64 sec, .slice aa na ca] 76).same ((Kept.refl _ _).alloc (.cells #[.int .i64 kind, .int .i64 sec, .slice ab nb cb] 76))
  have b1 := Blk.newB w [.int .i64 kind, .int .i64 sec, .slice aa na ca] 76 [.int .i64 kind, .int .i64 sec, .slice ab nb cb] 76
  clear ha hb
  go_enter Try.func73, Try.ntmps73
  go_wp2_with fail
  refine (eqByteS_own base _ _ bs _ hn (HA.out.same (((Kept.refl _ _).alloc _).alloc _)) (HB.out.same (((Kept.refl _ _).alloc _).alloc _))).mono ?_
  rintro e w1 ⟨rfl, n1, hw⟩
  have hk : Same ((w.alloc (.cells #[.int .i64 kind, .int .i64 sec, .slice aa na ca] 76)).alloc (.cells #[.int .i64 kind, .int .i64 sec, .slice ab nb cb] 76)) w1 := by rw [hw]; exact (Kept.refl _ _).drewN _
  clear hw
  go_wp2
  go_ret
  exact ⟨rfl, (((Kept.refl _ _).alloc _).alloc _).trans hk⟩
theorem eqOpS_own {ta tb : TypeId} (base : Nat) (va vb : Value) (ps qs : List EOp) (w : World) (hn : ps.length ≤ 1125899906842624) (hs : datOpS ps = datOpS qs) (hsm : ∀ p ∈ ps, p.bs.length ≤ 1125899906842624)
    (ha : OwnR kOp base 76 ta w va ps) (hb : OwnR kOp base 76 tb w vb qs) :
    Calls Try.prog 37 #[va, vb] w fun e w' => e = .returned (.bool true) ∧ Same w w' := by
  have hlen : qs.length = ps.length := by rw [← datOpS_length, ← datOpS_length, hs]
  by_cases hz : ps.length = 0
  · obtain rfl : ps = [] := List.length_eq_zero_iff.1 hz
    obtain rfl : qs = [] := List.length_eq_zero_iff.1 hlen
    obtain ⟨aa, ca, rfl⟩ : ∃ aa ca, va = .slice aa 0 ca := by rcases ha.form with ⟨rfl, _⟩ | ⟨g, cap, rfl, _⟩ <;> exact ⟨_, _, rfl⟩
    obtain ⟨ab, cb, rfl⟩ : ∃ aa ca, vb = .slice aa 0 ca := by rcases hb.form with ⟨rfl, _⟩ | ⟨g, cap, rfl, _⟩ <;> exact ⟨_, _, rfl⟩
    clear ha hb hn hz hs
    go_enter Try.func37, Try.ntmps37
    go_wp2
    refine wp_loop_rounds 1 ?_
    rw [rounds_succ]
    go_wp2
    go_ret
    exact ⟨rfl, Kept.refl _ _⟩
  · obtain ⟨ga, ca, rfl⟩ : ∃ g cap, va = .slice (some ⟨g, 0, none⟩) ps.length cap := by
      rcases ha.form with ⟨_, h⟩ | ⟨g, cap, h, _⟩
      · simp [h] at hz
      · exact ⟨g, cap, h⟩
    obtain ⟨gb, cb, rfl⟩ : ∃ g cap, vb = .slice (some ⟨g, 0, none⟩) ps.length cap := by
      rcases hb.form with ⟨_, h⟩ | ⟨g, cap, h, _⟩
      · simp [h] at hlen; omega
      · exact ⟨g, cap, by rw [h, hlen]⟩
    have HA : Hid (OwnR kOp base 76 ta w (.slice (some ⟨ga, 0, none⟩) ps.length ca) ps) := ha
    have HB : Hid (OwnR kOp base 76 tb w (.slice (some ⟨gb, 0, none⟩) ps.length cb) qs) := hb
    have HQ : Hid (qs.length = ps.length) := hlen
    have HS : Hid (datOpS ps = datOpS qs) := hs
    have HM : Hid (∀ p ∈ ps, p.bs.length ≤ 1125899906842624) := hsm
    clear ha hb hs hlen hsm
    generalize hl : ps.length = len at hn hz HA HB ⊢
    have HL : Hid (ps.length = len) := hl
    clear hl
    go_enter Try.func37, Try.ntmps37
    go_wp2
    go_loopw [5] (fun i wr => ∃ (k : Nat), k ≤ len ∧ i = .int .i64 k ∧ Hid (Same w wr)) (fun i _ => len - (intOf i).toNat)
    case atStart => exact ⟨0, Nat.zero_le _, rfl, Kept.refl _ _⟩
    case round =>
      obtain ⟨k, hk, rfl, HK⟩ := hrel
      by_cases hlt : k < len
      · have hlp : k < ps.length := by rw [HL.out]; exact hlt
        have hlq : k < qs.length := by rw [HQ.out]; exact hlp
        have hoa := HA.out.same HK.out
        have hob := HB.out.same HK.out
        have hdd := datOpS_at HS.out k hlp hlq
        simp only [EOp.dat, Prod.mk.injEq] at hdd
        obtain ⟨d0, d1, d2⟩ := hdd
        have s3 := HM.out _ (List.getElem_mem hlp)
        have ha0 : wr.cell? ⟨ga, k * 3, none⟩ = some (.int .i64 ps[k].kind) := hoa.cell HL.out.symm k 0 hlp (by decide)
        have ha1 : wr.cell? ⟨ga, k * 3 + 1, none⟩ = some (.int .i64 ps[k].sec) := hoa.cell HL.out.symm k 1 hlp (by decide)
        have ha2 : wr.cell? ⟨ga, k * 3 + 2, none⟩ = some (ps[k].v) := hoa.cell HL.out.symm k 2 hlp (by decide)
        have hb0 : wr.cell? ⟨gb, k * 3, none⟩ = some (.int .i64 ps[k].kind) := by rw [d0]; exact hob.cell (by rw [HQ.out, HL.out]) k 0 hlq (by decide)
        have hb1 : wr.cell? ⟨gb, k * 3 + 1, none⟩ = some (.int .i64 ps[k].sec) := by rw [d1]; exact hob.cell (by rw [HQ.out, HL.out]) k 1 hlq (by decide)
        have hb2 : wr.cell? ⟨gb, k * 3 + 2, none⟩ = some (qs[k].v) := hob.cell (by rw [HQ.out, HL.out]) k 2 hlq (by decide)
        have HDA : Hid (Own base ta .u8 wr ps[k].v ps[k].bs) := hoa.data _ (List.getElem_mem hlp)
        have HDB : Hid (Own base tb .u8 wr qs[k].v ps[k].bs) := by have := hob.data _ (List.getElem_mem hlq); rw [d2]; exact this
        clear d0 d1 d2 hoa hob
        go_wp2_with fail
        go_region_with (go_at_call 73; refine (eqOp_own base ps[k].kind ps[k].sec ps[k].v qs[k].v ps[k].bs _ s3 (by exact HDA.out.same (Kept.refl _ _).drew) (by exact HDB.out.same (Kept.refl _ _).drew)).mono ?_; rintro e w1 ⟨rfl, hk1⟩)
        all_goals
          have HK1 : Hid (Same w w1) := HK.out.drew.trans hk1
          clear hk1 ha0 hb0 ha1 hb1 ha2 hb2 HDA HDB
          go_wp2
          go_roundw
          case rel => exact ⟨k + 1, by omega, by go_num, HK1⟩
          case measure => simp [intOf]; omega
      · go_wp2
        go_ret
        exact ⟨rfl, HK.out⟩
theorem szOp_any (kind : Int) (sec : Int) (a : Option Addr) (n c : Nat) (left : Int) (w : World) (h0 : 0 ≤ left) (h1 : left ≤ 1048576) (hn : n ≤ maxLen) :
    Calls Try.prog 70 #[.agg #[.int .i64 kind, .int .i64 sec, .slice a n c], .int .i64 left] w fun e w' => ∃ r : Int, e = .returned (.int .i64 r) ∧ ((r = -1 ∧ left < n) ∨ (r = left - n ∧ 0 ≤ r)) ∧ Same w w' := by
  go_enter Try.func70, Try.ntmps70
  go_wp2_with fail
  refine (szByteS_any a n c left _ h0 h1 hn).mono ?_
  rintro e w1 ⟨r, rfl, hr, rfl⟩
  rcases hr with ⟨rfl, hr⟩ | ⟨hr, hr0⟩
  · go_wp2
    go_ret
    exact ⟨_, rfl, .inl ⟨rfl, hr⟩, (Kept.refl _ _).alloc _⟩
  · have HR : Hid (r = left - n) := hr
    clear hr
    go_wp2
    go_ret
    exact ⟨_, rfl, .inr ⟨HR.out, hr0⟩, (Kept.refl _ _).alloc _⟩
theorem szOpS_any (v : Value) (ps : List EOp) (left : Int) (w : World) (h0 : 0 ≤ left) (h1 : left ≤ 1048576) (hp : RdR kOp w v ps) :
    Calls Try.prog 33 #[v, .int .i64 left] w fun e w' => ∃ r : Int, e = .returned (.int .i64 r) ∧ (r = -1 ∨ (r = left - ps.length - sizeOpS ps ∧ 0 ≤ r)) ∧ Same w w' := by
  have hn := hp.max
  unfold maxLen at hn
  rcases hp.row with ⟨rfl, a, c, rfl⟩ | ⟨b, off, c, rfl, hc⟩
  · clear hp hn
    go_enter Try.func33, Try.ntmps33
    go_wp2
    refine wp_loop_rounds 1 ?_
    rw [rounds_succ]
    go_wp2
    go_ret
    exact ⟨_, rfl, .inr ⟨by simp [sizeOpS], by omega⟩, Kept.refl _ _⟩
  · have HP : Hid (RdR kOp w (.slice (some ⟨b, off, none⟩) ps.length c) ps) := hp
    have HC : Hid (∀ j i, (h : j < ps.length) → i < 3 → w.cell? ⟨b, off + (j * 3 + i), none⟩ = (kOp.cells ps[j])[i]?) := hc
    clear hp hc
    generalize hl : ps.length = len at hn HP ⊢
    have HL : Hid (ps.length = len) := hl
    clear hl
    by_cases h : left < len
    · go_enter Try.func33, Try.ntmps33
      go_wp2
      go_ret
      exact ⟨_, rfl, .inl rfl, Kept.refl _ _⟩
    · go_enter Try.func33, Try.ntmps33
      go_wp2
      go_loopw [1, 5] (fun u i wr => ∃ (k : Nat) (r : Int), k ≤ len ∧ i = .int .i64 k ∧ u = .int .i64 r ∧ 0 ≤ r ∧ r ≤ left ∧ Hid (r = left - len - sizeOpS (ps.take k)) ∧ Hid (Same w wr)) (fun _ i _ => len - (intOf i).toNat)
      case atStart => exact ⟨0, left - len, Nat.zero_le _, rfl, rfl, by omega, by omega, by simp [sizeOpS, Hid], Kept.refl _ _⟩
      case round =>
        obtain ⟨k, r, hk, rfl, rfl, hr0, hr1, HR, HK⟩ := hrel
        by_cases hlt : k < len
        · have hlp : k < ps.length := by rw [HL.out]; exact hlt
          obtain ⟨a1, c1, e1⟩ := (show Rd .u8 w ps[k].v ps[k].bs from HP.out.data _ (List.getElem_mem hlp)).form
          have hm1 := (show Rd .u8 w ps[k].v ps[k].bs from HP.out.data _ (List.getElem_mem hlp)).1
          have q0 : wr.cell? ⟨b, off + k * 3, none⟩ = some (.int .i64 ps[k].kind) := HK.out.cellOf (p := ⟨b, off + k * 3, none⟩) (by have h := HC.out k 0 hlp (by decide); exact h) id
          have q1 : wr.cell? ⟨b, off + k * 3 + 1, none⟩ = some (.int .i64 ps[k].sec) := HK.out.cellOf (p := ⟨b, off + k * 3 + 1, none⟩) (by have h := HC.out k 1 hlp (by decide); rw [← Nat.add_assoc] at h; exact h) id
          have q2 : wr.cell? ⟨b, off + k * 3 + 2, none⟩ = some (ps[k].v) := HK.out.cellOf (p := ⟨b, off + k * 3 + 2, none⟩) (by have h := HC.out k 2 hlp (by decide); rw [← Nat.add_assoc] at h; exact h) id
          rw [e1] at q2
          clear e1
          go_wp2_with fail
          refine (szOp_any _ _ _ _ _ _ _ hr0 (by omega) hm1).mono ?_
          rintro e w1 ⟨r1, rfl, hr2, hk1⟩
          have HK1 : Hid (Same w w1) := HK.out.trans hk1
          clear q0 q1 q2 hk1
          rcases hr2 with ⟨rfl, hr2⟩ | ⟨hr2, hr3⟩
          · go_wp2
            go_ret
            exact ⟨_, rfl, .inl rfl, HK1.out⟩
          · have hr4 : r1 ≤ left := by omega
            have HR1 : Hid (r1 = r - ps[k].bs.length) := hr2
            clear hr2
            go_wp2
            go_roundw
            case rel => exact ⟨k + 1, r1, by omega, by go_num, rfl, hr3, hr4, by have h1 := HR1.out; have h2 := HR.out; have h3 := sizeOpS_step ps k hlp; unfold Hid; omega, HK1⟩
            case measure => simp [intOf]; omega
        · go_wp2
          go_ret
          obtain rfl : k = len := by omega
          have h1 := HR.out
          have h2 := HL.out
          rw [← h2, List.take_length] at h1
          exact ⟨r, rfl, .inr ⟨by omega, hr0⟩, HK.out⟩
def mOp : MarkK kOp := ⟨fun k p => ⟨k, k + 1, p.v, marks (k + 1 + 1) p.bs.length⟩, fun p => 2 + p.bs.length, fun _ _ => rfl⟩
theorem endOpS_size (k : Int) (ps : List EOp) : endR mOp k ps = k + 2 * ps.length + sizeOpS ps := by
  induction ps generalizing k with
  | nil => simp [endR, sizeOpS]
  | cons p ps ih =>
    have h : ((mOp.sz p : Nat) : Int) = 2 + (p.bs.length : Int) := by simp [mOp]
    simp only [endR, ih, sizeOpS, List.length_cons]
    omega
theorem datOpS_size {ps qs : List EOp} (h : datOpS ps = datOpS qs) : sizeOpS ps = sizeOpS qs := by
  induction ps generalizing qs with
  | nil => cases qs with
    | nil => rfl
    | cons q qs => simp [datOpS] at h
  | cons p ps ih => cases qs with
    | nil => simp [datOpS] at h
    | cons q qs =>
      simp only [datOpS, List.map_cons, List.cons.injEq, EOp.dat, Prod.mk.injEq] at h
      simp only [sizeOpS, ih h.2, h.1.2.2]
theorem markOpS_own {tb : TypeId} (base : Nat) (va : Value) (ps : List EOp) (k0 : Int) (w : World) (h0 : 0 ≤ k0) (h1 : endR mOp k0 ps ≤ 1125899906842624) (hn : ps.length ≤ 1125899906842624)
    (ha : OwnR kOp base 76 tb w va ps) :
    Calls Try.prog 38 #[va, .int .i64 k0] w fun e w' => e = .returned (.int .i64 (endR mOp k0 ps)) ∧ OwnR kOp base 76 tb w' va (markR mOp k0 ps) ∧ Kept (footR kOp va ps) w w' := by
  by_cases hz : ps.length = 0
  · obtain rfl : ps = [] := List.length_eq_zero_iff.1 hz
    obtain ⟨aa, ca, rfl⟩ : ∃ aa ca, va = .slice aa 0 ca := by rcases ha.form with ⟨rfl, _⟩ | ⟨g, cap, rfl, _⟩ <;> exact ⟨_, _, rfl⟩
    have HA : Hid (OwnR kOp base 76 tb w (.slice aa 0 ca) []) := ha
    clear ha hn hz h1
    go_enter Try.func38, Try.ntmps38
    go_wp2
    refine wp_loop_rounds 1 ?_
    rw [rounds_succ]
    go_wp2
    go_ret
    exact ⟨by simp [endR], by simpa [markR] using HA.out, Kept.refl _ _⟩
  · obtain ⟨g, cap, rfl, hb, hlt, _, _⟩ : ∃ g cap, va = .slice (some ⟨g, 0, none⟩) ps.length cap ∧ base ≤ g ∧ g < w.heap.size ∧ ps.length ≤ cap ∧ cap ≤ maxLen := by
      rcases ha.form with ⟨_, rfl⟩ | h
      · simp at hz
      · exact h
    have H1 : Hid (endR mOp k0 ps ≤ 1125899906842624) := h1
    have HA0 : Hid (OwnR kOp base 76 tb w (.slice (some ⟨g, 0, none⟩) ps.length cap) ps) := ha
    clear h1 ha
    generalize hl : ps.length = len at *
    have HL : Hid (ps.length = len) := hl
    clear hl
    go_enter Try.func38, Try.ntmps38
    go_wp2
    go_loopw [1, 5] (fun v i wr => ∃ (k : Nat) (c : Int), k ≤ len ∧ i = .int .i64 k ∧ v = .int .i64 c ∧ Hid (c = endR mOp k0 (ps.take k)) ∧ Hid (OwnR kOp base 76 tb wr (.slice (some ⟨g, 0, none⟩) len cap) (partR mOp k0 ps k)) ∧ Hid (Kept (footR kOp (.slice (some ⟨g, 0, none⟩) len cap) ps) w wr)) (fun _ i _ => len - (intOf i).toNat)
    case atStart => exact ⟨0, k0, Nat.zero_le _, rfl, rfl, rfl, by rw [partR_zero]; exact HA0.out, Kept.refl _ _⟩
    case round =>
      obtain ⟨k, c, hk, rfl, rfl, HC, HO, HK⟩ := hrel
      by_cases hlt : k < len
      · have hlp : k < ps.length := by rw [HL.out]; exact hlt
        have hc0' : k0 ≤ c := by rw [HC.out]; exact endR_le _ _ _
        have hst := endR_step mOp k0 ps k hlp
        have hc1' : c + 2 + ps[k].bs.length ≤ 1125899906842624 := by have h2 := endR_take_le mOp k0 ps (k + 1); have h3 := H1.out; have h4 := HC.out; simp only [mOp] at hst; simp only [mOp] at h2 h3 h4; omega
        have HST := (show Hid (endR mOp k0 (ps.take (k + 1)) = endR mOp k0 (ps.take k) + (mOp.sz ps[k] : Nat)) from hst)
        clear hst
        have HP0 : Hid (OwnR kOp base 76 tb wr (.slice (some ⟨g, 0, none⟩) len cap) (markR mOp k0 (ps.take k) ++ ps[k] :: ps.drop (k + 1))) := by
          have h := HO.out
          rw [partR_at _ _ _ _ hlp] at h
          exact h
        have HLN : ∀ e : EOp, Hid (len = (markR mOp k0 (ps.take k) ++ e :: ps.drop (k + 1)).length) := fun e => by have hl := HL.out; simp [Hid, markR_length]; omega
        have HPL : Hid ((markR mOp k0 (ps.take k)).length = k) := by have hl := HL.out; simp [Hid, markR_length]; omega
        have hc0 : wr.cell? ⟨g, k * 3, none⟩ = some (.int .i64 ps[k].kind) := HP0.out.cellMid (HLN _).out 0 (by decide) _ (by rw [HPL.out]; rfl)
        have hc1 : wr.cell? ⟨g, k * 3 + 1, none⟩ = some (.int .i64 ps[k].sec) := HP0.out.cellMid (HLN _).out 1 (by decide) _ (by rw [HPL.out]; rfl)
        have hc2 : wr.cell? ⟨g, k * 3 + 2, none⟩ = some (ps[k].v) := HP0.out.cellMid (HLN _).out 2 (by decide) _ (by rw [HPL.out]; rfl)
        have fr := HO.out.frozen (by rw [partR_length]; exact HL.out.symm)
        have HP1 : Hid (OwnR kOp base 76 tb (wr.setCell ⟨g, k * 3, none⟩ (.int .i64 (c))) (.slice (some ⟨g, 0, none⟩) len cap) (markR mOp k0 (ps.take k) ++ ⟨c, ps[k].sec, ps[k].v, ps[k].bs⟩ :: ps.drop (k + 1))) := HP0.out.set (p' := ⟨c, ps[k].sec, ps[k].v, ps[k].bs⟩) (HLN _).out 0 (.int .i64 (c)) (by decide) rfl rfl rfl (k * 3) (by first | (rw [HPL.out]; done) | (rw [HPL.out]; rfl))
        have HP2 : Hid (OwnR kOp base 76 tb ((wr.setCell ⟨g, k * 3, none⟩ (.int .i64 (c))).setCell ⟨g, k * 3 + 1, none⟩ (.int .i64 (c + 1))) (.slice (some ⟨g, 0, none⟩) len cap) (markR mOp k0 (ps.take k) ++ ⟨c, c + 1, ps[k].v, ps[k].bs⟩ :: ps.drop (k + 1))) := HP1.out.set (p' := ⟨c, c + 1, ps[k].v, ps[k].bs⟩) (HLN _).out 1 (.int .i64 (c + 1)) (by decide) rfl rfl rfl (k * 3 + 1) (by first | (rw [HPL.out]; done) | (rw [HPL.out]; rfl))
        go_wp2_with fail
        refine (markByteS_own base ps[k].v ps[k].bs (c + 1 + 1) _ (by omega) (by omega) (by omega) (HP2.out.data ⟨c, c + 1, ps[k].v, ps[k].bs⟩ (by simp))).mono ?_
        rintro e w1 ⟨rfl, ho, hk1⟩
        have HQ0 : Hid (OwnR kOp base 76 tb w1 (.slice (some ⟨g, 0, none⟩) len cap) (markR mOp k0 (ps.take k) ++ ⟨c, c + 1, ps[k].v, marks (c + 1 + 1) ps[k].bs.length⟩ :: ps.drop (k + 1))) := HP2.out.setData (p' := (⟨c, c + 1, ps[k].v, marks (c + 1 + 1) ps[k].bs.length⟩ : EOp)) hk1 rfl rfl ho
        have fr1 : ∀ j, w1.frozen? ⟨g, j, none⟩ = false := fun j => HQ0.out.frozen (HLN _).out j
        have HO3 : Hid (OwnR kOp base 76 tb w1 (.slice (some ⟨g, 0, none⟩) len cap) (partR mOp k0 ps (k + 1))) := by
          rw [partR_step _ _ _ _ hlp, ← HC.out]
          exact HQ0.out
        have HK3 : Hid (Kept (footR kOp (.slice (some ⟨g, 0, none⟩) len cap) ps) w w1) := (((HK.out.setCell (p := ⟨g, k * 3, none⟩) (.inr (.inl rfl)) _).setCell (p := ⟨g, k * 3 + 1, none⟩) (.inr (.inl rfl)) _).trans (hk1.mono fun b _ hb => .inr ⟨ps[k], List.getElem_mem _, hb⟩))
        clear ho hk1 HO HP0 HP1 HP2 hc0 hc1 hc2
        go_wp2
        go_roundw
        case rel =>
          exact ⟨k + 1, c + 1 + 1 + (ps[k].bs.length : Int), by omega, by go_num, rfl, by unfold Hid; rw [HST.out, ← HC.out]; simp only [mOp]; omega, HO3, HK3⟩
        case measure => simp [intOf]; omega
      · go_wp2
        go_ret
        obtain rfl : k = len := by omega
        have hl := HL.out
        have hc := HC.out
        have ho := HO.out
        rw [← hl, List.take_length] at hc
        rw [← hl, partR_all, hl] at ho
        exact ⟨ret_int hc, ho, HK.out⟩
theorem toOp_any (kind : Int) (sec : Int) (v : Value) (bs : List Int) (w : World) (hn : bs.length ≤ 1099511627776) (hv : Rd .u8 w v bs) :
    Calls Try.prog 72 #[.agg #[.int .i64 kind, .int .i64 sec, v]] w fun e w' => ∃ g, e = .returned (.agg #[.int .i64 kind, .int .i64 sec, .slice (some ⟨g, 0, none⟩) bs.length bs.length]) ∧ w.heap.size ≤ g ∧ Own 0 5 .u8 w' (.slice (some ⟨g, 0, none⟩) bs.length bs.length) bs ∧ Same w w' := by
  obtain ⟨a, c, rfl⟩ := hv.form
  have HV := (show Hid (Rd .u8 w _ bs) from hv)
  clear hv
  have b0 : Blk (((w.alloc (.cells #[.int .i64 kind, .int .i64 sec, .slice a bs.length c] 91)).alloc (.cells #[.int .i64 0, .int .i64 0, .slice none 0 0] 76)).alloc (.cells #[.int .i64 kind, .int .i64 sec, .slice none 0 0] 76)) w.heap.size 91 [.int .i64 kind, .int .i64 sec, .slice a bs.length c] := ((Blk.newL w [.int .i64 kind, .int .i64 sec, .slice a bs.length c] 91).same ((Kept.refl _ _).alloc _)).same ((Kept.refl _ _).alloc _)
  have b1 : Blk (((w.alloc (.cells #[.int .i64 kind, .int .i64 sec, .slice a bs.length c] 91)).alloc (.cells #[.int .i64 0, .int .i64 0, .slice none 0 0] 76)).alloc (.cells #[.int .i64 kind, .int .i64 sec, .slice none 0 0] 76)) (w.heap.size + 1) 76 [.int .i64 0, .int .i64 0, .slice none 0 0] := (Blk.newB w [.int .i64 kind, .int .i64 sec, .slice a bs.length c] 91 [.int .i64 0, .int .i64 0, .slice none 0 0] 76).same ((Kept.refl _ _).alloc _)
  have b2 : Blk (((w.alloc (.cells #[.int .i64 kind, .int .i64 sec, .slice a bs.length c] 91)).alloc (.cells #[.int .i64 0, .int .i64 0, .slice none 0 0] 76)).alloc (.cells #[.int .i64 kind, .int .i64 sec, .slice none 0 0] 76)) (w.heap.size + 1 + 1) 76 [.int .i64 kind, .int .i64 sec, .slice none 0 0] := by have h := Blk.newL ((w.alloc (.cells #[.int .i64 kind, .int .i64 sec, .slice a bs.length c] 91)).alloc (.cells #[.int .i64 0, .int .i64 0, .slice none 0 0] 76)) [.int .i64 kind, .int .i64 sec, .slice none 0 0] 76; rwa [World.size_alloc, World.size_alloc] at h
  go_enter Try.func72, Try.ntmps72
  go_wp2_with fail
  refine (toByteS_any _ bs _ hn (HV.out.same ((((Kept.refl _ _).alloc _).alloc _).alloc _))).mono ?_
  rintro e w1 ⟨g, rfl, hg, ho, hk⟩
  simp only [World.size_alloc] at hg
  have HO := (show Hid (Own 0 5 .u8 w1 _ bs) from ho)
  have HK : Hid (Same w w1) := ((((Kept.refl _ _).alloc _).alloc _).alloc _).trans hk
  have z0 := (b1.same hk).c0
  have z1 := (b1.same hk).c1
  have z2 := (b1.same hk).c2
  have o0 := (b2.same hk).c0
  have o1 := (b2.same hk).c1
  have o2 := (b2.same hk).c2
  have f1 := (b1.same hk).frozen
  have f2 := (b2.same hk).frozen
  have hz1 : w.heap.size + 1 + 1 < w1.heap.size := (b2.same hk).lt
  clear ho hk b0 b1 b2
  go_wp2
  refine bodyPost_ret (v := .agg #[.int .i64 kind, .int .i64 sec, .slice (some ⟨g, 0, none⟩) bs.length bs.length]) (by simp [results, Try.results72, go_sem, z0, z1, z2]) rfl ⟨g, rfl, by omega, ?_, ?_⟩
  · refine HO.out.kept (R := fun b => b = w.heap.size + 1 ∨ b = w.heap.size + 1 + 1) ?_ (fun b hb e => by simp [Value.ownBlock] at hb; omega)
    (iterate 4 refine Kept.setCell (R := fun b => b = w.heap.size + 1 ∨ b = w.heap.size + 1 + 1) ?_ (by first | exact .inr (.inl rfl) | exact .inr (.inr rfl)) _)
    exact Kept.refl _ _
  · (iterate 4 refine Kept.setCell ?_ (by first | exact .inl (Nat.le_succ _) | exact .inl (Nat.le_succ_of_le (Nat.le_succ _))) _)
    exact HK.out
def zOp : EOp := ⟨0, 0, .slice none 0 0, []⟩
theorem toOpS_any (v : Value) (ps : List EOp) (w : World) (hn : ps.length ≤ 1073741824) (hs : ∀ p ∈ ps, p.bs.length ≤ 1099511627776) (hv : RdR kOp w v ps) :
    Calls Try.prog 35 #[v] w fun e w' => ∃ g qs, e = .returned (.slice (some ⟨g, 0, none⟩) ps.length ps.length) ∧ datOpS qs = datOpS ps ∧ (∀ b, footR kOp (.slice (some ⟨g, 0, none⟩) ps.length ps.length) qs b → w.heap.size ≤ b) ∧
      OwnR kOp 0 76 5 w' (.slice (some ⟨g, 0, none⟩) ps.length ps.length) qs ∧ Same w w' := by
  obtain ⟨i0, hi, hz0, hz1, hz2⟩ := info_parts Try.infoROp
  rcases hv.row with ⟨rfl, a, c, rfl⟩ | ⟨b, off, c, rfl, hc⟩
  · clear hv hn hs
    go_enter Try.func35, Try.ntmps35
    go_wp2_with (at_make; refine wpList_make_full _ rfl (.tmp 6) (.tmp 6) 26 rfl 0 76 i0 (.agg #[.int .i64 0, .int .i64 0, .slice none 0 0]) 3 Try.underlying26 hi hz0 hz1 .i64 .i64 _ _ 0 rfl rfl (by simp) (by simp) (by simp) (by simp) (Nat.zero_le _) ?_; intro w1 hown1 hgrow1; have HO : Hid (OwnR kOp 0 76 5 w1 (.slice (some ⟨w.heap.size, 0, none⟩) 0 0) []) := ownR_made (K := kOp) (zp := zOp) (z := .agg #[.int .i64 0, .int .i64 0, .slice none 0 0]) (by decide) rfl rfl rfl (n := 0) (by first | exact hown1 | simpa [kOp] using hown1); have HK : Hid (Same w w1) := Kept.of_grown hgrow1 (fun k e => by cases e); clear hown1 hgrow1)
    refine wp_loop_rounds 1 ?_
    rw [rounds_succ]
    go_wp2
    go_ret
    refine ⟨w.heap.size, [], rfl, rfl, fun b hb => ?_, HO.out, HK.out⟩
    rcases hb with hb | ⟨p, hp, _⟩
    · simp [Value.ownBlock] at hb; omega
    · simp at hp
  · have HP : Hid (RdR kOp w (.slice (some ⟨b, off, none⟩) ps.length c) ps) := hv
    have HC : Hid (∀ j i, (h : j < ps.length) → i < 3 → w.cell? ⟨b, off + (j * 3 + i), none⟩ = (kOp.cells ps[j])[i]?) := hc
    have HS : Hid (∀ p ∈ ps, p.bs.length ≤ 1099511627776) := hs
    clear hc hv hs
    generalize hl : ps.length = len at hn HP ⊢
    have HL : Hid (ps.length = len) := hl
    clear hl
    go_enter Try.func35, Try.ntmps35
    go_wp2_with (at_make; refine wpList_make_full _ rfl (.tmp 6) (.tmp 6) 26 rfl 0 76 i0 (.agg #[.int .i64 0, .int .i64 0, .slice none 0 0]) 3 Try.underlying26 hi hz0 hz1 .i64 .i64 _ _ len rfl rfl (by simp) (by simp) (by rw [hz2]; omega) (by unfold maxLen; omega) (Nat.zero_le _) ?_; intro w1 hown1 hgrow1; have HO : Hid (OwnR kOp 0 76 5 w1 (.slice (some ⟨w.heap.size, 0, none⟩) len len) (List.replicate len zOp)) := ownR_made (K := kOp) (zp := zOp) (z := .agg #[.int .i64 0, .int .i64 0, .slice none 0 0]) (by decide) rfl rfl rfl (by first | exact hown1 | simpa [kOp] using hown1); have HK : Hid (Same w w1) := Kept.of_grown hgrow1 (fun k e => by cases e); clear hown1 hgrow1)
    go_loopw [4] (fun i wr => ∃ (k : Nat) (qs : List EOp), k ≤ len ∧ i = .int .i64 k ∧ qs.length = k ∧ Hid (datOpS qs = datOpS (ps.take k)) ∧ Hid (∀ b, (∃ p ∈ qs, (kOp.v p).ownBlock = some b) → w.heap.size ≤ b) ∧ Hid (OwnR kOp 0 76 5 wr (.slice (some ⟨w.heap.size, 0, none⟩) len len) (qs ++ List.replicate (len - k) zOp)) ∧ Hid (Same w wr)) (fun i _ => len - (intOf i).toNat)
    case atStart => exact ⟨0, [], Nat.zero_le _, rfl, rfl, rfl, fun b ⟨p, hp, _⟩ => by simp at hp, by simpa using HO, HK⟩
    case round =>
      obtain ⟨k, qs, hk, rfl, hql, HQ, HF, HOr, HKr⟩ := hrel
      have HQL : Hid (qs.length = k) := hql
      clear hql
      by_cases hlt : k < len
      · have hlp : k < ps.length := by rw [HL.out]; exact hlt
        have HREP : Hid (List.replicate (len - k) zOp = zOp :: List.replicate (len - (k + 1)) zOp) := by unfold Hid; rw [show len - k = len - (k + 1) + 1 from by omega, List.replicate_succ]
        have hd0 : Rd .u8 w ps[k].v ps[k].bs := HP.out.data _ (List.getElem_mem hlp)
        obtain ⟨a1, c1, e1⟩ := hd0.form
        have hd := hd0.same HKr.out
        have hm1 := HS.out _ (List.getElem_mem hlp)
        have q0 : wr.cell? ⟨b, off + k * 3, none⟩ = some (.int .i64 ps[k].kind) := HKr.out.cellOf (p := ⟨b, off + k * 3, none⟩) (by have h := HC.out k 0 hlp (by decide); exact h) id
        have q1 : wr.cell? ⟨b, off + k * 3 + 1, none⟩ = some (.int .i64 ps[k].sec) := HKr.out.cellOf (p := ⟨b, off + k * 3 + 1, none⟩) (by have h := HC.out k 1 hlp (by decide); rw [← Nat.add_assoc] at h; exact h) id
        have q2 : wr.cell? ⟨b, off + k * 3 + 2, none⟩ = some (ps[k].v) := HKr.out.cellOf (p := ⟨b, off + k * 3 + 2, none⟩) (by have h := HC.out k 2 hlp (by decide); rw [← Nat.add_assoc] at h; exact h) id
        rw [e1] at q2 hd
        have HD := (show Hid (Rd .u8 wr _ ps[k].bs) from hd)
        have HLN : Hid (len = (qs ++ zOp :: List.replicate (len - (k + 1)) zOp).length) := by unfold Hid; simp [HQL.out]; omega
        clear e1 hd hd0
        go_wp2_with fail
        refine (toOp_any _ _ _ ps[k].bs _ hm1 HD.out).mono ?_
        rintro e w2 ⟨g, rfl, hg, ho, hk2⟩
        have HO2 : Hid (OwnR kOp 0 76 5 w2 (.slice (some ⟨w.heap.size, 0, none⟩) len len) (qs ++ zOp :: List.replicate (len - (k + 1)) zOp)) := by have h := HOr.out.same hk2; rw [HREP.out] at h; exact h
        have r0 : w2.cell? ⟨w.heap.size, k * 3, none⟩ = some (.int .i64 0) := HO2.out.cellMid HLN.out 0 (by decide) _ (by rw [HQL.out]; rfl)
        have r1 : w2.cell? ⟨w.heap.size, k * 3 + 1, none⟩ = some (.int .i64 0) := HO2.out.cellMid HLN.out 1 (by decide) _ (by rw [HQL.out]; rfl)
        have r2 : w2.cell? ⟨w.heap.size, k * 3 + 2, none⟩ = some (.slice none 0 0) := HO2.out.cellMid HLN.out 2 (by decide) _ (by rw [HQL.out]; rfl)
        have rf : ∀ j, w2.frozen? ⟨w.heap.size, j, none⟩ = false := fun j => HO2.out.frozen HLN.out j
        have HK2 : Hid (Same w w2) := HKr.out.trans hk2
        have HO3 : Hid (Own 0 5 .u8 w2 (.slice (some ⟨g, 0, none⟩) ps[k].bs.length ps[k].bs.length) ps[k].bs) := ho
        have hg0 : w.heap.size ≤ g := Nat.le_trans HKr.out.size hg
        have HG : Hid (wr.heap.size ≤ g) := hg
        have HFIN : Hid (OwnR kOp 0 76 5 (w2.setCells w.heap.size (k * 3) (kOp.cells ⟨ps[k].kind, ps[k].sec, .slice (some ⟨g, 0, none⟩) ps[k].bs.length ps[k].bs.length, ps[k].bs⟩)) (.slice (some ⟨w.heap.size, 0, none⟩) len len) (qs ++ (⟨ps[k].kind, ps[k].sec, .slice (some ⟨g, 0, none⟩) ps[k].bs.length ps[k].bs.length, ps[k].bs⟩ : EOp) :: List.replicate (len - (k + 1)) zOp)) := HO2.out.setElem (p' := (⟨ps[k].kind, ps[k].sec, .slice (some ⟨g, 0, none⟩) ps[k].bs.length ps[k].bs.length, ps[k].bs⟩ : EOp)) HLN.out (k * 3) (by rw [HQL.out]; rfl) HO3.out (fun b hb hf => by
          have h1 : b = g := (Option.some.inj hb : g = b).symm
          have h2 : footR kOp (.slice (some ⟨w.heap.size, 0, none⟩) len len) (qs ++ List.replicate (len - k) zOp) b := by rw [HREP.out]; exact hf
          have h3 := (HOr.out.lt b h2).2
          have h4 := HG.out
          omega)
        clear ho hk2 hg q0 q1 q2
        go_wp2
        go_roundw
        case rel =>
          refine ⟨k + 1, qs ++ [⟨ps[k].kind, ps[k].sec, .slice (some ⟨g, 0, none⟩) ps[k].bs.length ps[k].bs.length, ps[k].bs⟩], by omega, by go_num, by simp [HQL.out], ?_, ?_, ?_, ?_⟩
          · have h1 := HQ.out
            unfold Hid
            rw [List.take_succ_eq_append_getElem hlp]
            simp only [datOpS, List.map_append] at h1 ⊢
            rw [h1]; rfl
          · rintro b ⟨p, hp, hb⟩
            rcases List.mem_append.1 hp with hp | hp
            · exact HF.out b ⟨p, hp, hb⟩
            · obtain rfl := List.mem_singleton.1 hp
              have h : g = b := Option.some.inj hb
              omega
          · rw [List.append_assoc]
            exact HFIN
          · (iterate 3 refine Kept.setCell ?_ (.inl (Nat.le_refl _)) _)
            exact HK2.out
        case measure => simp [intOf]; omega
      · go_wp2
        go_ret
        obtain rfl : k = len := by omega
        have h := HOr.out
        have h2 := HL.out
        have h3 := HQ.out
        rw [Nat.sub_self, List.replicate_zero, List.append_nil] at h
        rw [← h2, List.take_length] at h3
        refine ⟨w.heap.size, qs, rfl, h3, fun b hb => ?_, h, HKr.out⟩
        rcases hb with hb | hb
        · simp [Value.ownBlock] at hb; omega
        · exact HF.out b hb
end Go.Proofs.Ytfhdkbibcndmjaa
