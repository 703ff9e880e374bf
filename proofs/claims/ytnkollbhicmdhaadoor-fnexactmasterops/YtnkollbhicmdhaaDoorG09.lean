import Derived.Test.YtnkollbhicmdhaaDoorG00
import Derived.Test.YtnkollbhicmdhaaDoorG04
namespace Go.Proofs.YtnkollbhicmdhaaDoor
open Go Go.RowKit
set_option linter.unusedVariables false
set_option linter.unusedSimpArgs false
structure OW where
  kind : Int
  sec : Int
  v : Value
  bs : List Int
def owCells : List OW → List Value
  | [] => []
  | p :: ps => .int .i64 p.kind :: .int .i64 p.sec :: p.v :: owCells ps
theorem owCells_length (ps : List OW) : (owCells ps).length = ps.length * 3 := by
  induction ps with
  | nil => rfl
  | cons p ps ih => simp only [owCells, List.length_cons, ih]; omega
theorem owCells_append (ps qs : List OW) : owCells (ps ++ qs) = owCells ps ++ owCells qs := by
  induction ps with
  | nil => rfl
  | cons p ps ih => simp [owCells, ih]
theorem owCells_kind (ps : List OW) (j : Nat) (h : j < ps.length) : (owCells ps)[j * 3]? = some (.int .i64 ps[j].kind) := by
  induction ps generalizing j with
  | nil => simp at h
  | cons p ps ih =>
    cases j with
    | zero => simp [owCells]
    | succ j => have := ih j (by simpa using h); rw [show (j + 1) * 3 = j * 3 + 1 + 1 + 1 from by omega]; simpa [owCells] using this
theorem owCells_sec (ps : List OW) (j : Nat) (h : j < ps.length) : (owCells ps)[j * 3 + 1]? = some (.int .i64 ps[j].sec) := by
  induction ps generalizing j with
  | nil => simp at h
  | cons p ps ih =>
    cases j with
    | zero => simp [owCells]
    | succ j => have := ih j (by simpa using h); rw [show (j + 1) * 3 + 1 = j * 3 + 1 + 1 + 1 + 1 from by omega]; simpa [owCells] using this
theorem owCells_v (ps : List OW) (j : Nat) (h : j < ps.length) : (owCells ps)[j * 3 + 2]? = some ps[j].v := by
  induction ps generalizing j with
  | nil => simp at h
  | cons p ps ih =>
    cases j with
    | zero => simp [owCells]
    | succ j => have := ih j (by simpa using h); rw [show (j + 1) * 3 + 2 = j * 3 + 2 + 1 + 1 + 1 from by omega]; simpa [owCells] using this
structure OwnO (base : Nat) (tw tb : TypeId) (w : World) (v : Value) (ps : List OW) : Prop where
  row : w.ownsRow base tw 3 v ps.length (owCells ps)
  data : ∀ p ∈ ps, Own base tb .u8 w p.v p.bs
  out : ∀ u ∈ ps.map OW.v, Apart v u
  each : (ps.map OW.v).Pairwise Apart
def footO (v : Value) (ps : List OW) (b : Nat) : Prop := v.ownBlock = some b ∨ ∃ p ∈ ps, p.v.ownBlock = some b
theorem OwnO.form {base : Nat} {tw tb : TypeId} {w : World} {v : Value} {ps : List OW} (h : OwnO base tw tb w v ps) :
    (v = .slice none 0 0 ∧ ps = []) ∨ ∃ g cap, v = .slice (some ⟨g, 0, none⟩) ps.length cap ∧ base ≤ g ∧ g < w.heap.size ∧ ps.length ≤ cap ∧ cap ≤ maxLen := by
  rcases h.row.2 with ⟨rfl, hn⟩ | ⟨g, cap, cur, rfl, hb, hgg, hc, hm, _⟩
  · exact .inl ⟨rfl, List.length_eq_zero_iff.1 hn⟩
  · exact .inr ⟨g, cap, rfl, hb, (Array.getElem?_eq_some_iff.1 hgg).1, hc, hm⟩
theorem OwnO.lt {base : Nat} {tw tb : TypeId} {w : World} {v : Value} {ps : List OW} (h : OwnO base tw tb w v ps) (b : Nat) (hb : footO v ps b) : base ≤ b ∧ b < w.heap.size := by
  rcases hb with hb | ⟨p, hp, hb⟩
  · exact World.ownsRow.lt h.row b hb
  · exact (h.data p hp).lt b hb
theorem OwnO.kind {base : Nat} {tw tb : TypeId} {w : World} {g n cap : Nat} {ps : List OW} (h : OwnO base tw tb w (.slice (some ⟨g, 0, none⟩) n cap) ps) (hn : n = ps.length) (j : Nat) (hj : j < ps.length) :
    w.cell? ⟨g, j * 3, none⟩ = some (.int .i64 ps[j].kind) := by
  subst hn
  rw [World.ownsRow.cellAt h.row (j * 3) (by omega), owCells_kind ps j hj]
theorem OwnO.sec {base : Nat} {tw tb : TypeId} {w : World} {g n cap : Nat} {ps : List OW} (h : OwnO base tw tb w (.slice (some ⟨g, 0, none⟩) n cap) ps) (hn : n = ps.length) (j : Nat) (hj : j < ps.length) :
    w.cell? ⟨g, j * 3 + 1, none⟩ = some (.int .i64 ps[j].sec) := by
  subst hn
  rw [World.ownsRow.cellAt h.row (j * 3 + 1) (by omega), owCells_sec ps j hj]
theorem OwnO.val {base : Nat} {tw tb : TypeId} {w : World} {g n cap : Nat} {ps : List OW} (h : OwnO base tw tb w (.slice (some ⟨g, 0, none⟩) n cap) ps) (hn : n = ps.length) (j : Nat) (hj : j < ps.length) :
    w.cell? ⟨g, j * 3 + 2, none⟩ = some ps[j].v := by
  subst hn
  rw [World.ownsRow.cellAt h.row (j * 3 + 2) (by omega), owCells_v ps j hj]
theorem OwnO.frozen {base : Nat} {tw tb : TypeId} {w : World} {g n cap : Nat} {ps : List OW} (h : OwnO base tw tb w (.slice (some ⟨g, 0, none⟩) n cap) ps) (hn : n = ps.length) (j : Nat) :
    w.frozen? ⟨g, j, none⟩ = false := by
  subst hn
  exact World.ownsRow.frozenAt h.row j
theorem OwnO.kept {R : Nat → Prop} {base : Nat} {tw tb : TypeId} {w w' : World} {v : Value} {ps : List OW} (h : OwnO base tw tb w v ps) (hk : Kept R w w') (hr : ∀ b, footO v ps b → ¬ R b) : OwnO base tw tb w' v ps :=
  ⟨hk.owns h.row (fun b hb => hr b (.inl hb)), fun p hp => (h.data p hp).kept hk (fun b hb => hr b (.inr ⟨p, hp, hb⟩)), h.out, h.each⟩
theorem OwnO.same {base : Nat} {tw tb : TypeId} {w w' : World} {v : Value} {ps : List OW} (h : OwnO base tw tb w v ps) (hk : Same w w') : OwnO base tw tb w' v ps :=
  h.kept hk (fun _ _ => id)
theorem OwnO.nil (base : Nat) (tw tb : TypeId) (w : World) : OwnO base tw tb w (.slice none 0 0) [] :=
  ⟨World.ownsRow_nil _ _ _ _, fun _ h => by simp at h, fun _ h => by simp at h, List.Pairwise.nil⟩
def markO : Int → List OW → List OW
  | _, [] => []
  | k, p :: ps => ⟨k, k + 1, p.v, marks (k + 1 + 1) p.bs.length⟩ :: markO (k + 1 + 1 + p.bs.length) ps
def endO : Int → List OW → Int
  | k, [] => k
  | k, p :: ps => endO (k + 1 + 1 + p.bs.length) ps
theorem markO_length (k : Int) (ps : List OW) : (markO k ps).length = ps.length := by
  induction ps generalizing k with
  | nil => rfl
  | cons p ps ih => simp [markO, ih]
theorem endO_le (k : Int) (ps : List OW) : k ≤ endO k ps := by
  induction ps generalizing k with
  | nil => exact Int.le_refl _
  | cons p ps ih => have := ih (k + 1 + 1 + p.bs.length); simp only [endO]; omega
theorem endO_snoc (k : Int) (ps : List OW) (p : OW) : endO k (ps ++ [p]) = endO k ps + 1 + 1 + p.bs.length := by
  induction ps generalizing k with
  | nil => rfl
  | cons q ps ih => simp only [List.cons_append, endO, ih]
theorem endO_append (k : Int) (ps qs : List OW) : endO k (ps ++ qs) = endO (endO k ps) qs := by
  induction ps generalizing k with
  | nil => rfl
  | cons q ps ih => simp only [List.cons_append, endO, ih]
theorem markO_snoc (k : Int) (ps : List OW) (p : OW) : markO k (ps ++ [p]) = markO k ps ++ [⟨endO k ps, endO k ps + 1, p.v, marks (endO k ps + 1 + 1) p.bs.length⟩] := by
  induction ps generalizing k with
  | nil => rfl
  | cons q ps ih => simp only [List.cons_append, markO, endO, ih]
theorem markO_v (k : Int) (ps : List OW) : (markO k ps).map OW.v = ps.map OW.v := by
  induction ps generalizing k with
  | nil => rfl
  | cons q ps ih => simp only [markO, List.map_cons, ih]
theorem markO_at (k : Int) (ps : List OW) (j : Nat) (h : j < ps.length) (h' : j < (markO k ps).length) : (markO k ps)[j] = ⟨endO k (ps.take j), endO k (ps.take j) + 1, ps[j].v, marks (endO k (ps.take j) + 1 + 1) ps[j].bs.length⟩ := by
  induction ps generalizing k j with
  | nil => simp at h
  | cons q ps ih =>
    cases j with
    | zero => rfl
    | succ j => simp only [markO, List.getElem_cons_succ, List.take_succ_cons, endO]; exact ih _ _ (by simpa using h) _
def partO (k : Int) (ps : List OW) (j : Nat) : List OW := markO k (ps.take j) ++ ps.drop j
theorem partO_length (k : Int) (ps : List OW) (j : Nat) : (partO k ps j).length = ps.length := by simp [partO, markO_length]; omega
theorem partO_v (k : Int) (ps : List OW) (j : Nat) : (partO k ps j).map OW.v = ps.map OW.v := by
  simp only [partO, List.map_append, markO_v]
  rw [← List.map_append, List.take_append_drop]
theorem partO_zero (k : Int) (ps : List OW) : partO k ps 0 = ps := by simp [partO, markO]
theorem partO_all (k : Int) (ps : List OW) : partO k ps ps.length = markO k ps := by simp [partO]
theorem partO_at (k : Int) (ps : List OW) (j : Nat) (h : j < ps.length) : partO k ps j = markO k (ps.take j) ++ ps[j] :: ps.drop (j + 1) := by
  unfold partO
  rw [List.drop_eq_getElem_cons h]
theorem partO_step (k : Int) (ps : List OW) (j : Nat) (h : j < ps.length) :
    partO k ps (j + 1) = markO k (ps.take j) ++ ⟨endO k (ps.take j), endO k (ps.take j) + 1, ps[j].v, marks (endO k (ps.take j) + 1 + 1) ps[j].bs.length⟩ :: ps.drop (j + 1) := by
  unfold partO
  rw [List.take_succ_eq_append_getElem h, markO_snoc, List.append_assoc]
  rfl
theorem endO_step (k : Int) (ps : List OW) (j : Nat) (h : j < ps.length) : endO k (ps.take (j + 1)) = endO k (ps.take j) + 1 + 1 + ps[j].bs.length := by
  rw [List.take_succ_eq_append_getElem h, endO_snoc]
theorem endO_take_le (k : Int) (ps : List OW) (j : Nat) : endO k (ps.take j) ≤ endO k ps := by
  have h := endO_append k (ps.take j) (ps.drop j)
  rw [List.take_append_drop] at h
  rw [h]
  exact endO_le _ _
theorem OwnO.setKind {base : Nat} {tw tb : TypeId} {w : World} {g n cap : Nat} {pre post : List OW} {p : OW} (h : OwnO base tw tb w (.slice (some ⟨g, 0, none⟩) n cap) (pre ++ p :: post)) (hn : n = (pre ++ p :: post).length) (K : Int) (j : Nat) (hj : j = pre.length * 3) :
    OwnO base tw tb (w.setCell ⟨g, j, none⟩ (.int .i64 K)) (.slice (some ⟨g, 0, none⟩) n cap) (pre ++ ⟨K, p.sec, p.v, p.bs⟩ :: post) := by
  subst hn hj
  have hk : Kept (fun b => b = g) w (w.setCell ⟨g, pre.length * 3, none⟩ (.int .i64 K)) := Kept.setCell (Kept.refl (fun b => b = g) w) (p := ⟨g, pre.length * 3, none⟩) (.inr rfl) _
  have hmap : (pre ++ (⟨K, p.sec, p.v, p.bs⟩ : OW) :: post).map OW.v = (pre ++ p :: post).map OW.v := by simp
  refine ⟨?_, fun q hq => ?_, by rw [hmap]; exact h.out, by rw [hmap]; exact h.each⟩
  · have hs := (World.ownsRow.stored h.row (pre.length * 3) (.int .i64 K)).1
    have e : owCells (pre ++ (⟨K, p.sec, p.v, p.bs⟩ : OW) :: post) = (owCells (pre ++ p :: post)).set (pre.length * 3) (.int .i64 K) := by
      rw [owCells_append, owCells_append, List.set_append_right (h := by rw [owCells_length]; omega), owCells_length, Nat.sub_self]
      rfl
    rw [e]
    simpa using hs
  · have hq' : ∃ q' ∈ pre ++ p :: post, q'.v = q.v ∧ q'.bs = q.bs := by
      rcases List.mem_append.1 hq with hq | hq
      · exact ⟨q, by simp [hq], rfl, rfl⟩
      · rcases List.mem_cons.1 hq with rfl | hq
        · exact ⟨p, by simp, rfl, rfl⟩
        · exact ⟨q, by simp [hq], rfl, rfl⟩
    obtain ⟨q', hm, e1, e2⟩ := hq'
    have hd := h.data q' hm
    rw [e1, e2] at hd
    refine hd.kept hk (fun b hb e => ?_)
    subst e
    exact h.out q.v (by rw [← e1]; exact List.mem_map_of_mem hm) b rfl hb
theorem OwnO.setSec {base : Nat} {tw tb : TypeId} {w : World} {g n cap : Nat} {pre post : List OW} {p : OW} (h : OwnO base tw tb w (.slice (some ⟨g, 0, none⟩) n cap) (pre ++ p :: post)) (hn : n = (pre ++ p :: post).length) (K : Int) (j : Nat) (hj : j = pre.length * 3 + 1) :
    OwnO base tw tb (w.setCell ⟨g, j, none⟩ (.int .i64 K)) (.slice (some ⟨g, 0, none⟩) n cap) (pre ++ ⟨p.kind, K, p.v, p.bs⟩ :: post) := by
  subst hn hj
  have hk : Kept (fun b => b = g) w (w.setCell ⟨g, pre.length * 3 + 1, none⟩ (.int .i64 K)) := Kept.setCell (Kept.refl (fun b => b = g) w) (p := ⟨g, pre.length * 3 + 1, none⟩) (.inr rfl) _
  have hmap : (pre ++ (⟨p.kind, K, p.v, p.bs⟩ : OW) :: post).map OW.v = (pre ++ p :: post).map OW.v := by simp
  refine ⟨?_, fun q hq => ?_, by rw [hmap]; exact h.out, by rw [hmap]; exact h.each⟩
  · have hs := (World.ownsRow.stored h.row (pre.length * 3 + 1) (.int .i64 K)).1
    have e : owCells (pre ++ (⟨p.kind, K, p.v, p.bs⟩ : OW) :: post) = (owCells (pre ++ p :: post)).set (pre.length * 3 + 1) (.int .i64 K) := by
      rw [owCells_append, owCells_append, List.set_append_right (h := by rw [owCells_length]; omega), owCells_length, Nat.add_sub_cancel_left]
      rfl
    rw [e]
    simpa using hs
  · have hq' : ∃ q' ∈ pre ++ p :: post, q'.v = q.v ∧ q'.bs = q.bs := by
      rcases List.mem_append.1 hq with hq | hq
      · exact ⟨q, by simp [hq], rfl, rfl⟩
      · rcases List.mem_cons.1 hq with rfl | hq
        · exact ⟨p, by simp, rfl, rfl⟩
        · exact ⟨q, by simp [hq], rfl, rfl⟩
    obtain ⟨q', hm, e1, e2⟩ := hq'
    have hd := h.data q' hm
    rw [e1, e2] at hd
    refine hd.kept hk (fun b hb e => ?_)
    subst e
    exact h.out q.v (by rw [← e1]; exact List.mem_map_of_mem hm) b rfl hb
theorem OwnO.setData {base : Nat} {tw tb : TypeId} {w w' : World} {v : Value} {pre post : List OW} {p : OW} {bs : List Int} (h : OwnO base tw tb w v (pre ++ p :: post))
    (hk : Kept (fun b => p.v.ownBlock = some b) w w') (ho : Own base tb .u8 w' p.v bs) : OwnO base tw tb w' v (pre ++ ⟨p.kind, p.sec, p.v, bs⟩ :: post) := by
  have hmap : (pre ++ (⟨p.kind, p.sec, p.v, bs⟩ : OW) :: post).map OW.v = (pre ++ p :: post).map OW.v := by simp
  have hcells : owCells (pre ++ (⟨p.kind, p.sec, p.v, bs⟩ : OW) :: post) = owCells (pre ++ p :: post) := by rw [owCells_append, owCells_append]; rfl
  have hlen : (pre ++ (⟨p.kind, p.sec, p.v, bs⟩ : OW) :: post).length = (pre ++ p :: post).length := by simp
  have hea := h.each
  rw [List.map_append, List.map_cons] at hea
  obtain ⟨_, h2, h3⟩ := List.pairwise_append.1 hea
  have h4 := List.pairwise_cons.1 h2
  refine ⟨?_, fun q hq => ?_, by rw [hmap]; exact h.out, by rw [hmap]; exact h.each⟩
  · rw [hcells, hlen]
    exact hk.owns h.row (fun b hb e => h.out p.v (by simp) b hb e)
  · rcases List.mem_append.1 hq with hq | hq
    · exact (h.data q (by simp [hq])).kept hk (fun b hb e => h3 q.v (List.mem_map_of_mem hq) p.v (by simp) b hb e)
    · rcases List.mem_cons.1 hq with rfl | hq
      · exact ho
      · exact (h.data q (by simp [hq])).kept hk (fun b hb e => h4.1 q.v (List.mem_map_of_mem hq) b e hb)
theorem partO_vAt (k : Int) (ps : List OW) (j i : Nat) (h : i < ps.length) (h' : i < (partO k ps j).length) : (partO k ps j)[i].v = ps[i].v := by
  have e : ((partO k ps j).map OW.v)[i]'(by simpa using h') = (ps.map OW.v)[i]'(by simpa using h) := by simp only [partO_v]
  simpa using e
def dataO (ps : List OW) : List (Int × Int × List Int) := ps.map fun p => (p.kind, p.sec, p.bs)
theorem dataO_length (ps : List OW) : (dataO ps).length = ps.length := by simp [dataO]
theorem dataO_at {ps qs : List OW} (h : dataO ps = dataO qs) (k : Nat) (h1 : k < ps.length) (h2 : k < qs.length) : ps[k].kind = qs[k].kind ∧ ps[k].sec = qs[k].sec ∧ ps[k].bs = qs[k].bs := by
  have := congrArg (fun l => l[k]?) h
  simpa [dataO, h1, h2] using this
def sizeO : List OW → Nat
  | [] => 0
  | p :: ps => p.bs.length + sizeO ps
theorem endO_size (k : Int) (ps : List OW) : endO k ps = k + 2 * ps.length + sizeO ps := by
  induction ps generalizing k with
  | nil => simp [endO, sizeO]
  | cons p ps ih => simp only [endO, ih, sizeO, List.length_cons]; omega
theorem sizeO_mem (ps : List OW) (p : OW) (h : p ∈ ps) : p.bs.length ≤ sizeO ps := by
  induction ps with
  | nil => cases h
  | cons q qs ih =>
    rcases List.mem_cons.1 h with rfl | h
    · simp [sizeO]
    · have := ih h; simp only [sizeO]; omega
end Go.Proofs.YtnkollbhicmdhaaDoor

namespace Go.Proofs.YtnkollbhicmdhaaDoor
set_option maxRecDepth 100000
set_option maxHeartbeats 4000000
open Go.RowKit
set_option linter.unusedVariables false
set_option linter.unusedSimpArgs false
def opsM (sl s e c l : Int) : List (Int × Int × List Int) := if mF s e c l = 0 ∧ 0 ≤ sl ∧ sl ≤ 1 then [(1, 1 - sl, mB s e c l), (2, 0, [])] else []
theorem opsM_yes {sl s e c l : Int} (h : mF s e c l = 0 ∧ 0 ≤ sl ∧ sl ≤ 1) : opsM sl s e c l = [(1, 1 - sl, mB s e c l), (2, 0, [])] := if_pos h
theorem opsM_no {sl s e c l : Int} (h : ¬ (mF s e c l = 0 ∧ 0 ≤ sl ∧ sl ≤ 1)) : opsM sl s e c l = [] := if_neg h
def OpsOut (tb : TypeId) (w w' : World) (ds : List (Int × Int × List Int)) (v : Value) : Prop :=
  ∃ a n cc ps, v = .slice a n cc ∧ dataO ps = ds ∧ OwnO 0 78 tb w' (.slice a n cc) ps ∧ (∀ b, footO (.slice a n cc) ps b → w.heap.size ≤ b) ∧ Same w w'
theorem ops_two {tb : TypeId} {w : World} {g n1 : Nat} {k1 s1 k2 s2 : Int} {a1 : Option Addr} {c1 : Nat} {bs : List Int} (hb : Blk w g 78 [.int .i64 k1, .int .i64 s1, .slice a1 n1 c1, .int .i64 k2, .int .i64 s2, .slice none 0 0]) (ho : Own 0 tb .u8 w (.slice a1 n1 c1) bs) (hg : ∀ b, (Value.slice a1 n1 c1).ownBlock = some b → b ≠ g) :
    OwnO 0 78 tb w (.slice (some ⟨g, 0, none⟩) 2 2) [⟨k1, s1, .slice a1 n1 c1, bs⟩, ⟨k2, s2, .slice none 0 0, []⟩] := by
  refine ⟨⟨rfl, .inr ⟨g, 2, _, rfl, Nat.zero_le _, hb, Nat.le_refl _, by unfold maxLen; decide, rfl, rfl⟩⟩, fun p hp => ?_, fun u hu => ?_, ?_⟩
  · rcases List.mem_cons.1 hp with rfl | hp
    · exact ho
    · obtain rfl := List.mem_singleton.1 hp
      exact Own.nil _ _ _ _
  · simp only [List.map_cons, List.map_nil, List.mem_cons, List.not_mem_nil, or_false] at hu
    rcases hu with rfl | rfl
    · intro b hb' hu'
      have : g = b := by simpa [Value.ownBlock] using hb'
      exact hg b hu' this.symm
    · intro b _ hu'
      simp [Value.ownBlock] at hu'
  · simp only [List.map_cons, List.map_nil, List.pairwise_cons, List.not_mem_nil, false_imp_iff, implies_true, List.Pairwise.nil, and_true, List.mem_singleton]
    intro u hu
    subst hu
    intro b _ hu'
    simp [Value.ownBlock] at hu'
theorem ops_none (tb : TypeId) (w : World) : OwnO 0 78 tb (w.alloc (.cells #[] 78)) (.slice (some ⟨w.heap.size, 0, none⟩) 0 0) [] :=
  ⟨⟨rfl, .inr ⟨w.heap.size, 0, #[], rfl, Nat.zero_le _, Blk.new w #[] 78, Nat.le_refl _, Nat.zero_le _, rfl, rfl⟩⟩, fun _ h => by simp at h, fun _ h => by simp at h, List.Pairwise.nil⟩
theorem specMO_any (sl s e c l : Int) (w : World) :
    Calls Tryd.prog 30 #[.int .i64 sl, .agg #[.int .i64 s, .int .i64 e, .int .i64 c, .int .i64 l]] w fun ex w' => ∃ v, ex = .returned v ∧ OpsOut 5 w w' (opsM sl s e c l) v := by
  have HK0 := hid (sameA w [.int .i64 s, .int .i64 e, .int .i64 c, .int .i64 l] 28)
  have k1 := specMF_any s e c l (w.alloc (.cells #[.int .i64 s, .int .i64 e, .int .i64 c, .int .i64 l] 28))
  have b0 := Blk.new w #[.int .i64 s, .int .i64 e, .int .i64 c, .int .i64 l] 28
  have k2 := fun wx => l4In_any sl 0 1 wx
  have k3 := fun wx => specEM_any s e c l wx
  by_cases hg : mF s e c l = 0
  · by_cases hs : 0 ≤ sl ∧ sl ≤ 1
    · rw [opsM_yes ⟨hg, hs⟩]
      rw [show inB sl 0 1 = true from by simp [inB, hs.1, hs.2]] at k2
      rw [encM_yes hg, mB_length] at k3
      rw [hg] at k1
      have hw : IntKind.i64.wrap (1 - sl) = 1 - sl := by rw [IntKind.wrap_i64]; omega
      clear hg hs
      go_enter Tryd.func30, Tryd.ntmps30
      go_wp2_with (first
        | (go_at_call 14; (with_reducible refine k1.mono ?_); rintro ex w1 ⟨rfl, hk⟩; have HK1 := (show Hid (Same w w1) from HK0.out.trans hk); have b1 := b0.same hk; clear hk)
        | (go_at_call 49; (with_reducible refine (k2 _).mono ?_); rintro ex w2 ⟨rfl, hk⟩; have HK2 := (show Hid (Same w w2) from HK1.out.trans hk); have b2 := b1.same hk; obtain ⟨d0, d1, d2, d3⟩ := b2.all4; clear hk)
        | (go_at_call 24; (with_reducible refine (k3 _).mono ?_); rintro ex w3 ⟨a3, c3, rfl, hf, ho, hk⟩; have HK3 := (show Hid (Same w w3) from HK2.out.trans hk); have HO3 := (show Hid (Own 0 5 .u8 w3 (.slice a3 512 c3) (mB s e c l)) from ho); have HF3 := (show Hid (∀ b, (Value.slice a3 512 c3).ownBlock = some b → w.heap.size ≤ b) from fun b hb => Nat.le_trans HK2.out.size (hf b hb)); clear hk ho hf))
      go_ret
      have hb := Blk.new w3 #[.int .i64 1, .int .i64 (1 - sl), .slice a3 512 c3, .int .i64 2, .int .i64 0, .slice none 0 0] 78
      have hlt := HO3.out.lt
      refine ⟨_, rfl, _, _, _, _, rfl, ?_, ops_two hb (HO3.out.same ((Kept.refl _ _).alloc _)) (fun b hb' e => by have := (hlt b hb').2; omega), fun b hb' => ?_, HK3.out.alloc _⟩
      · rfl
      · rcases hb' with hb' | ⟨p, hp, hb'⟩
        · have : w3.heap.size = b := by simpa [Value.ownBlock] using hb'
          have := HK3.out.size
          omega
        · rcases List.mem_cons.1 hp with rfl | hp
          · exact HF3.out b hb'
          · obtain rfl := List.mem_singleton.1 hp
            simp [Value.ownBlock] at hb'
    · rw [opsM_no (fun h => hs h.2)]
      rw [show inB sl 0 1 = false from by simp [inB]; omega] at k2
      rw [hg] at k1
      clear hg hs
      go_enter Tryd.func30, Tryd.ntmps30
      go_wp2_with (first
        | (go_at_call 14; (with_reducible refine k1.mono ?_); rintro ex w1 ⟨rfl, hk⟩; have HK1 := (show Hid (Same w w1) from HK0.out.trans hk); have b1 := b0.same hk; clear hk)
        | (go_at_call 49; (with_reducible refine (k2 _).mono ?_); rintro ex w2 ⟨rfl, hk⟩; have HK2 := (show Hid (Same w w2) from HK1.out.trans hk); clear hk))
      go_ret
      refine ⟨_, rfl, _, _, _, [], rfl, rfl, ops_none _ w2, fun b hb' => ?_, HK2.out.alloc _⟩
      rcases hb' with hb' | ⟨p, hp, _⟩
      · have : w2.heap.size = b := by simpa [Value.ownBlock] using hb'
        have := HK2.out.size
        omega
      · simp at hp
  · rw [opsM_no (fun h => hg h.1)]
    have hg' : ¬ mF s e c l = 0 := hg
    go_enter Tryd.func30, Tryd.ntmps30
    go_wp2_with (first
      | (go_at_call 14; (with_reducible refine k1.mono ?_); rintro ex w1 ⟨rfl, hk⟩; have HK1 := (show Hid (Same w w1) from HK0.out.trans hk); clear hk))
    go_ret
    refine ⟨_, rfl, _, _, _, [], rfl, rfl, ops_none _ w1, fun b hb' => ?_, HK1.out.alloc _⟩
    rcases hb' with hb' | ⟨p, hp, _⟩
    · have : w1.heap.size = b := by simpa [Value.ownBlock] using hb'
      have := HK1.out.size
      omega
    · simp at hp
theorem implMO_any (sl s e c l : Int) (a0 a1 a2 : Addr) (w : World) (hE : Errs w a0 a1 a2) :
    Calls Tryd.prog 15 #[.int .i64 sl, .agg #[.int .i64 s, .int .i64 e, .int .i64 c, .int .i64 l]] w fun ex w' => ∃ v, ex = .returned v ∧ OpsOut 94 w w' (opsM sl s e c l) v := by
  have HK0 := hid (sameA w [.int .i64 s, .int .i64 e, .int .i64 c, .int .i64 l] 28)
  have k3 := implEM_any s e c l a0 a1 a2 _ (hE.same HK0.out)
  clear hE
  by_cases hg : mF s e c l = 0
  · rw [encM_yes hg, mB_length] at k3
    by_cases hs : 0 ≤ sl ∧ sl ≤ 1
    · rw [opsM_yes ⟨hg, hs⟩]
      have hw : IntKind.i64.wrap (1 - sl) = 1 - sl := by rw [IntKind.wrap_i64]; omega
      have h1 : ¬ sl < 0 := by omega
      have h2 : ¬ 2 ≤ sl := by omega
      clear hg hs
      go_enter Tryd.func15, Tryd.ntmps15
      go_wp2_with (go_at_call 26; (with_reducible refine k3.mono ?_); rintro ex w3 ⟨a3, c3, rfl, hf, ho, hk⟩; have HK3 := (show Hid (Same w w3) from HK0.out.trans hk); have HO3 := (show Hid (Own 0 94 .u8 w3 (.slice a3 512 c3) (mB s e c l)) from ho); have HF3 := (show Hid (∀ b, (Value.slice a3 512 c3).ownBlock = some b → w.heap.size ≤ b) from fun b hb => Nat.le_trans HK0.out.size (hf b hb)); clear hk ho hf)
      go_ret
      have hb := Blk.new w3 #[.int .i64 1, .int .i64 (1 - sl), .slice a3 512 c3, .int .i64 2, .int .i64 0, .slice none 0 0] 78
      have hlt := HO3.out.lt
      refine ⟨_, rfl, _, _, _, _, rfl, ?_, ops_two hb (HO3.out.same ((Kept.refl _ _).alloc _)) (fun b hb' e => by have := (hlt b hb').2; omega), fun b hb' => ?_, HK3.out.alloc _⟩
      · rfl
      · rcases hb' with hb' | ⟨p, hp, hb'⟩
        · have : w3.heap.size = b := by simpa [Value.ownBlock] using hb'
          have := HK3.out.size
          omega
        · rcases List.mem_cons.1 hp with rfl | hp
          · exact HF3.out b hb'
          · obtain rfl := List.mem_singleton.1 hp
            simp [Value.ownBlock] at hb'
    · rw [opsM_no (fun h => hs h.2)]
      by_cases h1 : sl < 0
      · clear hg hs
        go_enter Tryd.func15, Tryd.ntmps15
        go_wp2_with (go_at_call 26; (with_reducible refine k3.mono ?_); rintro ex w3 ⟨a3, c3, rfl, hf, ho, hk⟩; have HK3 := (show Hid (Same w w3) from HK0.out.trans hk); clear hk ho hf)
        go_ret
        refine ⟨_, rfl, none, 0, 0, [], rfl, rfl, OwnO.nil _ _ _ _, fun b hb' => ?_, HK3.out⟩
        rcases hb' with hb' | ⟨p, hp, _⟩
        · simp [Value.ownBlock] at hb'
        · simp at hp
      · have h2 : 2 ≤ sl := by omega
        clear hg hs
        go_enter Tryd.func15, Tryd.ntmps15
        go_wp2_with (go_at_call 26; (with_reducible refine k3.mono ?_); rintro ex w3 ⟨a3, c3, rfl, hf, ho, hk⟩; have HK3 := (show Hid (Same w w3) from HK0.out.trans hk); clear hk ho hf)
        go_ret
        refine ⟨_, rfl, none, 0, 0, [], rfl, rfl, OwnO.nil _ _ _ _, fun b hb' => ?_, HK3.out⟩
        rcases hb' with hb' | ⟨p, hp, _⟩
        · simp [Value.ownBlock] at hb'
        · simp at hp
  · rw [opsM_no (fun h => hg h.1)]
    rw [encM_no hg] at k3
    go_enter Tryd.func15, Tryd.ntmps15
    go_wp2_with (go_at_call 26; (with_reducible refine k3.mono ?_); rintro ex w3 ⟨a3, c3, rfl, hf, ho, hk⟩; have HK3 := (show Hid (Same w w3) from HK0.out.trans hk); clear hk ho hf)
    go_ret
    refine ⟨_, rfl, none, 0, 0, [], rfl, rfl, OwnO.nil _ _ _ _, fun b hb' => ?_, HK3.out⟩
    rcases hb' with hb' | ⟨p, hp, _⟩
    · simp [Value.ownBlock] at hb'
    · simp at hp
end Go.Proofs.YtnkollbhicmdhaaDoor
