/-
  Rows of structs with one slice of bytes each, whatever their fields: own memory, cells, a cell that is stored, bytes that change, marks, reading. (Mem's pending writes and MemO's operations, once for all.)
-/
import Derived.Test.YtmifgmgiplejiaaRead
namespace Go.Proofs.Ytmifgmgiplejiaa
open Go Go.RowKit
set_option linter.unusedVariables false
set_option linter.unusedSimpArgs false

/-- How an element lies: its cells, and where its bytes are. -/
structure RowK (E : Type) where
  m : Nat
  cells : E → List Value
  len : ∀ p, (cells p).length = m
  v : E → Value
  bs : E → List Int
variable {E : Type}
def RowK.all (K : RowK E) : List E → List Value
  | [] => []
  | p :: ps => K.cells p ++ K.all ps
theorem RowK.all_length (K : RowK E) (ps : List E) : (K.all ps).length = ps.length * K.m := by
  induction ps with
  | nil => simp [RowK.all]
  | cons p ps ih => rw [RowK.all, List.length_append, K.len, ih, List.length_cons, Nat.add_mul, Nat.one_mul, Nat.add_comm]
theorem RowK.all_append (K : RowK E) (ps qs : List E) : K.all (ps ++ qs) = K.all ps ++ K.all qs := by
  induction ps with
  | nil => rfl
  | cons p ps ih => simp only [List.cons_append, RowK.all, ih, List.append_assoc]
theorem RowK.all_at (K : RowK E) (ps : List E) (j i : Nat) (h : j < ps.length) (hi : i < K.m) : (K.all ps)[j * K.m + i]? = (K.cells ps[j])[i]? := by
  induction ps generalizing j with
  | nil => simp at h
  | cons p ps ih =>
    cases j with
    | zero => rw [Nat.zero_mul, Nat.zero_add, RowK.all, List.getElem?_append_left (by rw [K.len]; exact hi)]; rfl
    | succ j =>
      rw [RowK.all, List.getElem?_append_right (by rw [K.len, Nat.add_mul]; omega), K.len, show (j + 1) * K.m + i - K.m = j * K.m + i from by rw [Nat.add_mul]; omega]
      exact ih j (by simpa using h)
structure OwnR (K : RowK E) (base : Nat) (tw tb : TypeId) (w : World) (v : Value) (ps : List E) : Prop where
  row : w.ownsRow base tw K.m v ps.length (K.all ps)
  data : ∀ p ∈ ps, Own base tb .u8 w (K.v p) (K.bs p)
  out : ∀ u ∈ ps.map K.v, Apart v u
  each : (ps.map K.v).Pairwise Apart
def footR (K : RowK E) (v : Value) (ps : List E) (b : Nat) : Prop := v.ownBlock = some b ∨ ∃ p ∈ ps, (K.v p).ownBlock = some b
section
variable {K : RowK E} {base : Nat} {tw tb : TypeId} {w w' : World} {v : Value} {ps qs : List E}
theorem OwnR.form (h : OwnR K base tw tb w v ps) :
    (v = .slice none 0 0 ∧ ps = []) ∨ ∃ g cap, v = .slice (some ⟨g, 0, none⟩) ps.length cap ∧ base ≤ g ∧ g < w.heap.size ∧ ps.length ≤ cap ∧ cap ≤ maxLen := by
  rcases h.row.2 with ⟨rfl, hn⟩ | ⟨g, cap, cur, rfl, hb, hgg, hc, hm, _⟩
  · exact .inl ⟨rfl, List.length_eq_zero_iff.1 hn⟩
  · exact .inr ⟨g, cap, rfl, hb, (Array.getElem?_eq_some_iff.1 hgg).1, hc, hm⟩
theorem OwnR.lt (h : OwnR K base tw tb w v ps) (b : Nat) (hb : footR K v ps b) : base ≤ b ∧ b < w.heap.size := by
  rcases hb with hb | ⟨p, hp, hb⟩
  · exact World.ownsRow.lt h.row b hb
  · exact (h.data p hp).lt b hb
theorem OwnR.cell {g n cap : Nat} (h : OwnR K base tw tb w (.slice (some ⟨g, 0, none⟩) n cap) ps) (hn : n = ps.length) (j i : Nat) (hj : j < ps.length) (hi : i < K.m) :
    w.cell? ⟨g, j * K.m + i, none⟩ = (K.cells ps[j])[i]? := by
  subst hn
  rw [World.ownsRow.cellAt h.row (j * K.m + i) (by have := Nat.mul_le_mul_right K.m (Nat.succ_le_of_lt hj); rw [Nat.succ_mul] at this; omega), K.all_at ps j i hj hi]
theorem OwnR.frozen {g n cap : Nat} (h : OwnR K base tw tb w (.slice (some ⟨g, 0, none⟩) n cap) ps) (hn : n = ps.length) (j : Nat) : w.frozen? ⟨g, j, none⟩ = false := by
  subst hn
  exact World.ownsRow.frozenAt h.row j
theorem OwnR.kept {R : Nat → Prop} (h : OwnR K base tw tb w v ps) (hk : Kept R w w') (hr : ∀ b, footR K v ps b → ¬ R b) : OwnR K base tw tb w' v ps :=
  ⟨hk.owns h.row (fun b hb => hr b (.inl hb)), fun p hp => (h.data p hp).kept hk (fun b hb => hr b (.inr ⟨p, hp, hb⟩)), h.out, h.each⟩
theorem OwnR.same (h : OwnR K base tw tb w v ps) (hk : Same w w') : OwnR K base tw tb w' v ps := h.kept hk (fun _ _ => id)
theorem OwnR.nil (K : RowK E) (base : Nat) (tw tb : TypeId) (w : World) : OwnR K base tw tb w (.slice none 0 0) [] :=
  ⟨World.ownsRow_nil _ _ _ _, fun _ h => by simp at h, fun _ h => by simp at h, List.Pairwise.nil⟩
theorem footR_v (h : ps.map K.v = qs.map K.v) (b : Nat) : footR K v ps b ↔ footR K v qs b := by
  have key : ∀ rs : List E, (∃ p ∈ rs, (K.v p).ownBlock = some b) ↔ ∃ u ∈ rs.map K.v, u.ownBlock = some b := fun rs => by
    simp only [List.mem_map]
    exact ⟨fun ⟨p, hp, hb⟩ => ⟨_, ⟨p, hp, rfl⟩, hb⟩, fun ⟨_, ⟨p, hp, rfl⟩, hb⟩ => ⟨p, hp, hb⟩⟩
  unfold footR
  rw [key, key, h]
/-- A cell of one element that is not its slice is stored. -/
theorem OwnR.set {g n cap : Nat} {pre post : List E} {p p' : E} (h : OwnR K base tw tb w (.slice (some ⟨g, 0, none⟩) n cap) (pre ++ p :: post)) (hn : n = (pre ++ p :: post).length) (i : Nat) (u : Value) (hi : i < K.m)
    (hc : K.cells p' = (K.cells p).set i u) (hv : K.v p' = K.v p) (hb : K.bs p' = K.bs p) (j : Nat) (hj : j = pre.length * K.m + i) :
    OwnR K base tw tb (w.setCell ⟨g, j, none⟩ u) (.slice (some ⟨g, 0, none⟩) n cap) (pre ++ p' :: post) := by
  subst hn hj
  have hk : Kept (fun b => b = g) w (w.setCell ⟨g, pre.length * K.m + i, none⟩ u) := Kept.setCell (Kept.refl (fun b => b = g) w) (p := ⟨g, pre.length * K.m + i, none⟩) (.inr rfl) _
  have hmap : (pre ++ p' :: post).map K.v = (pre ++ p :: post).map K.v := by simp [hv]
  refine ⟨?_, fun q hq => ?_, by rw [hmap]; exact h.out, by rw [hmap]; exact h.each⟩
  · have hs := (World.ownsRow.stored h.row (pre.length * K.m + i) u).1
    have e : K.all (pre ++ p' :: post) = (K.all (pre ++ p :: post)).set (pre.length * K.m + i) u := by
      rw [K.all_append, K.all_append, List.set_append_right (h := by rw [K.all_length]; omega), K.all_length, Nat.add_sub_cancel_left, RowK.all, RowK.all, List.set_append_left (h := by rw [K.len]; exact hi), hc]
    rw [e]
    simpa using hs
  · have hq' : ∃ q' ∈ pre ++ p :: post, K.v q' = K.v q ∧ K.bs q' = K.bs q := by
      rcases List.mem_append.1 hq with hq | hq
      · exact ⟨q, by simp [hq], rfl, rfl⟩
      · rcases List.mem_cons.1 hq with rfl | hq
        · exact ⟨p, by simp, hv.symm, hb.symm⟩
        · exact ⟨q, by simp [hq], rfl, rfl⟩
    obtain ⟨q', hm, e1, e2⟩ := hq'
    have hd := h.data q' hm
    rw [e1, e2] at hd
    refine hd.kept hk (fun b hb e => ?_)
    subst e
    exact h.out (K.v q) (by rw [← e1]; exact List.mem_map_of_mem hm) b rfl hb
/-- One element's bytes have changed. -/
theorem OwnR.setData {pre post : List E} {p p' : E} (h : OwnR K base tw tb w v (pre ++ p :: post)) (hk : Kept (fun b => (K.v p).ownBlock = some b) w w') (hc : K.cells p' = K.cells p) (hv : K.v p' = K.v p) (ho : Own base tb .u8 w' (K.v p) (K.bs p')) :
    OwnR K base tw tb w' v (pre ++ p' :: post) := by
  have hmap : (pre ++ p' :: post).map K.v = (pre ++ p :: post).map K.v := by simp [hv]
  have hcells : K.all (pre ++ p' :: post) = K.all (pre ++ p :: post) := by rw [K.all_append, K.all_append, RowK.all, RowK.all, hc]
  have hlen : (pre ++ p' :: post).length = (pre ++ p :: post).length := by simp
  have hea := h.each
  rw [List.map_append, List.map_cons] at hea
  obtain ⟨_, h2, h3⟩ := List.pairwise_append.1 hea
  have h4 := List.pairwise_cons.1 h2
  refine ⟨?_, fun q hq => ?_, by rw [hmap]; exact h.out, by rw [hmap]; exact h.each⟩
  · rw [hcells, hlen]
    exact hk.owns h.row (fun b hb e => h.out (K.v p) (by simp) b hb e)
  · rcases List.mem_append.1 hq with hq | hq
    · exact (h.data q (by simp [hq])).kept hk (fun b hb e => h3 (K.v q) (List.mem_map_of_mem hq) (K.v p) (by simp) b hb e)
    · rcases List.mem_cons.1 hq with rfl | hq
      · rw [hv]; exact ho
      · exact (h.data q (by simp [hq])).kept hk (fun b hb e => h4.1 (K.v q) (List.mem_map_of_mem hq) b e hb)
end
/-- What marks make of an element, and how many they take. -/
structure MarkK (K : RowK E) where
  on : Int → E → E
  sz : E → Nat
  v : ∀ k p, K.v (on k p) = K.v p
def markR {K : RowK E} (M : MarkK K) : Int → List E → List E
  | _, [] => []
  | k, p :: ps => M.on k p :: markR M (k + M.sz p) ps
def endR {K : RowK E} (M : MarkK K) : Int → List E → Int
  | k, [] => k
  | k, p :: ps => endR M (k + M.sz p) ps
section
variable {K : RowK E} (M : MarkK K)
theorem markR_length (k : Int) (ps : List E) : (markR M k ps).length = ps.length := by
  induction ps generalizing k with
  | nil => rfl
  | cons p ps ih => simp [markR, ih]
theorem endR_le (k : Int) (ps : List E) : k ≤ endR M k ps := by
  induction ps generalizing k with
  | nil => exact Int.le_refl _
  | cons p ps ih => have := ih (k + M.sz p); simp only [endR]; omega
theorem endR_snoc (k : Int) (ps : List E) (p : E) : endR M k (ps ++ [p]) = endR M k ps + M.sz p := by
  induction ps generalizing k with
  | nil => rfl
  | cons q ps ih => simp only [List.cons_append, endR, ih]
theorem endR_append (k : Int) (ps qs : List E) : endR M k (ps ++ qs) = endR M (endR M k ps) qs := by
  induction ps generalizing k with
  | nil => rfl
  | cons q ps ih => simp only [List.cons_append, endR, ih]
theorem markR_snoc (k : Int) (ps : List E) (p : E) : markR M k (ps ++ [p]) = markR M k ps ++ [M.on (endR M k ps) p] := by
  induction ps generalizing k with
  | nil => rfl
  | cons q ps ih => simp only [List.cons_append, markR, endR, ih]
theorem markR_v (k : Int) (ps : List E) : (markR M k ps).map K.v = ps.map K.v := by
  induction ps generalizing k with
  | nil => rfl
  | cons q ps ih => simp only [markR, List.map_cons, ih, M.v]
theorem markR_at (k : Int) (ps : List E) (j : Nat) (h : j < ps.length) (h' : j < (markR M k ps).length) : (markR M k ps)[j] = M.on (endR M k (ps.take j)) ps[j] := by
  induction ps generalizing k j with
  | nil => simp at h
  | cons q ps ih =>
    cases j with
    | zero => rfl
    | succ j => simp only [markR, List.getElem_cons_succ, List.take_succ_cons, endR]; exact ih _ _ (by simpa using h) _
def partR (k : Int) (ps : List E) (j : Nat) : List E := markR M k (ps.take j) ++ ps.drop j
theorem partR_length (k : Int) (ps : List E) (j : Nat) : (partR M k ps j).length = ps.length := by simp [partR, markR_length]; omega
theorem partR_v (k : Int) (ps : List E) (j : Nat) : (partR M k ps j).map K.v = ps.map K.v := by
  simp only [partR, List.map_append, markR_v]
  rw [← List.map_append, List.take_append_drop]
theorem partR_zero (k : Int) (ps : List E) : partR M k ps 0 = ps := by simp [partR, markR]
theorem partR_all (k : Int) (ps : List E) : partR M k ps ps.length = markR M k ps := by simp [partR]
theorem partR_at (k : Int) (ps : List E) (j : Nat) (h : j < ps.length) : partR M k ps j = markR M k (ps.take j) ++ ps[j] :: ps.drop (j + 1) := by
  unfold partR
  rw [List.drop_eq_getElem_cons h]
theorem partR_step (k : Int) (ps : List E) (j : Nat) (h : j < ps.length) : partR M k ps (j + 1) = markR M k (ps.take j) ++ M.on (endR M k (ps.take j)) ps[j] :: ps.drop (j + 1) := by
  unfold partR
  rw [List.take_succ_eq_append_getElem h, markR_snoc, List.append_assoc]
  rfl
theorem endR_step (k : Int) (ps : List E) (j : Nat) (h : j < ps.length) : endR M k (ps.take (j + 1)) = endR M k (ps.take j) + M.sz ps[j] := by
  rw [List.take_succ_eq_append_getElem h, endR_snoc]
theorem endR_take_le (k : Int) (ps : List E) (j : Nat) : endR M k (ps.take j) ≤ endR M k ps := by
  have h := endR_append M k (ps.take j) (ps.drop j)
  rw [List.take_append_drop] at h
  rw [h]
  exact endR_le M _ _
theorem partR_vAt (k : Int) (ps : List E) (j i : Nat) (h : i < ps.length) (h' : i < (partR M k ps j).length) : K.v (partR M k ps j)[i] = K.v ps[i] := by
  have e : ((partR M k ps j).map K.v)[i]'(by simpa using h') = (ps.map K.v)[i]'(by simpa using h) := by simp only [partR_v]
  simpa using e
theorem partR_self (k : Int) (ps : List E) (j : Nat) (h : j < ps.length) (h' : j < (partR M k ps j).length) : (partR M k ps j)[j] = ps[j] := by
  have e : (partR M k ps j)[j]? = ps[j]? := by
    unfold partR
    rw [List.getElem?_append_right (by simp [markR_length]; omega)]
    simp [markR_length, Nat.min_eq_left (Nat.le_of_lt h)]
  rw [List.getElem?_eq_getElem h', List.getElem?_eq_getElem h] at e
  exact Option.some.inj e
end
/-- Such a row, read alone. -/
structure RdR (K : RowK E) (w : World) (v : Value) (ps : List E) : Prop where
  max : ps.length ≤ maxLen
  row : (ps = [] ∧ ∃ a c, v = .slice a 0 c) ∨ ∃ b off c, v = .slice (some ⟨b, off, none⟩) ps.length c ∧ ∀ j i, (h : j < ps.length) → i < K.m → w.cell? ⟨b, off + (j * K.m + i), none⟩ = (K.cells ps[j])[i]?
  data : ∀ p ∈ ps, Rd .u8 w (K.v p) (K.bs p)
section
variable {K : RowK E} {w w' : World} {v : Value} {ps : List E}
theorem RdR.kept {R : Nat → Prop} (h : RdR K w v ps) (hk : Kept R w w') (hr : ∀ b, footR K v ps b → ¬ R b) : RdR K w' v ps := by
  refine ⟨h.max, ?_, fun p hp => (h.data p hp).kept hk (fun b hb => hr b (.inr ⟨p, hp, hb⟩))⟩
  rcases h.row with h | ⟨b, off, c, rfl, hc⟩
  · exact .inl h
  · refine .inr ⟨b, off, c, rfl, fun j i hj hi => ?_⟩
    have hl := K.len ps[j]
    rw [List.getElem?_eq_getElem (by omega)]
    exact hk.cellOf (by rw [hc j i hj hi, List.getElem?_eq_getElem (by omega)]) (hr b (.inl rfl))
theorem RdR.same (h : RdR K w v ps) (hk : Same w w') : RdR K w' v ps := h.kept hk (fun _ _ => id)
theorem RdR.form (h : RdR K w v ps) : ∃ a c, v = .slice a ps.length c := by
  rcases h.row with ⟨rfl, a, c, rfl⟩ | ⟨b, off, c, rfl, _⟩ <;> exact ⟨_, _, rfl⟩
theorem OwnR.rd {base : Nat} {tw tb : TypeId} (h : OwnR K base tw tb w v ps) : RdR K w v ps := by
  refine ⟨?_, ?_, fun p hp => (h.data p hp).rd⟩
  · rcases h.form with ⟨rfl, rfl⟩ | ⟨g, cap, rfl, _, _, hc, hm⟩
    · simp
    · exact Nat.le_trans hc hm
  · rcases h.form with ⟨rfl, rfl⟩ | ⟨g, cap, rfl, _, _, hc, hm⟩
    · exact .inl ⟨rfl, _, _, rfl⟩
    · exact .inr ⟨g, 0, cap, rfl, fun j i hj hi => by rw [Nat.zero_add]; exact h.cell rfl j i hj hi⟩
end
end Go.Proofs.Ytmifgmgiplejiaa
