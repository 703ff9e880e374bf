import Derived.Test.YtaiiffgbjabjgaaDoorG00
import Derived.Test.YtaiiffgbjabjgaaDoorG04
import Derived.Test.YtaiiffgbjabjgaaDoorOpenMaster
import Derived.Test.YtaiiffgbjabjgaaDoorG01
import Derived.Test.YtaiiffgbjabjgaaDoorCards
import Derived.Test.YtaiiffgbjabjgaaDoorTie
import Derived.Deep.RegionWith
import Derived.Deep.DeepMust
import Derived.ChangeSame
import Derived.ChangeVars
import Derived.JoinedOf
import Derived.RowKit
import Derived.RowKitTokens
import Derived.Stop.Joined
import Derived.SevenTiedAt
namespace Go.Proofs.YtaiiffgbjabjgaaDoor
open Go Go.RowKit
set_option linter.unusedVariables false
set_option linter.unusedSimpArgs false
structure OW where
  kind : Int
  sec : Int
  v : Value
  bs : List Int
def owCells : List OW → List Value
  | [] => []
  | p :: ps => .int .i64 p.kind :: .int .i64 p.sec :: p.v :: owCells ps
theorem owCells_length (ps : List OW) : (owCells ps).length = ps.length * 3 := by
  induction ps with
  | nil => rfl
  | cons p ps ih => simp only [owCells, List.length_cons, ih]; omega
theorem owCells_append (ps qs : List OW) : owCells (ps ++ qs) = owCells ps ++ owCells qs := by
  induction ps with
  | nil => rfl
  | cons p ps ih => simp [owCells, ih]
theorem owCells_kind (ps : List OW) (j : Nat) (h : j < ps.length) : (owCells ps)[j * 3]? = some (.int .i64 ps[j].kind) := by
  induction ps generalizing j with
  | nil => simp at h
  | cons p ps ih =>
    cases j with
    | zero => simp [owCells]
    | succ j => have := ih j (by simpa using h); rw [show (j + 1) * 3 = j * 3 + 1 + 1 + 1 from by omega]; simpa [owCells] using this
theorem owCells_sec (ps : List OW) (j : Nat) (h : j < ps.length) : (owCells ps)[j * 3 + 1]? = some (.int .i64 ps[j].sec) := by
  induction ps generalizing j with
  | nil => simp at h
  | cons p ps ih =>
    cases j with
    | zero => simp [owCells]
    | succ j => have := ih j (by simpa using h); rw [show (j + 1) * 3 + 1 = j * 3 + 1 + 1 + 1 + 1 from by omega]; simpa [owCells] using this
theorem owCells_v (ps : List OW) (j : Nat) (h : j < ps.length) : (owCells ps)[j * 3 + 2]? = some ps[j].v := by
  induction ps generalizing j with
  | nil => simp at h
  | cons p ps ih =>
    cases j with
    | zero => simp [owCells]
    | succ j => have := ih j (by simpa using h); rw [show (j + 1) * 3 + 2 = j * 3 + 2 + 1 + 1 + 1 from by omega]; simpa [owCells] using this
structure OwnO (base : Nat) (tw tb : TypeId) (w : World) (v : Value) (ps : List OW) : Prop where
  row : w.ownsRow base tw 3 v ps.length (owCells ps)
  data : ∀ p ∈ ps, Own base tb .u8 w p.v p.bs
  out : ∀ u ∈ ps.map OW.v, Apart v u
  each : (ps.map OW.v).Pairwise Apart
def footO (v : Value) (ps : List OW) (b : Nat) : Prop := v.ownBlock = some b ∨ ∃ p ∈ ps, p.v.ownBlock = some b
theorem OwnO.form {base : Nat} {tw tb : TypeId} {w : World} {v : Value} {ps : List OW} (h : OwnO base tw tb w v ps) :
    (v = .slice none 0 0 ∧ ps = []) ∨ ∃ g cap, v = .slice (some ⟨g, 0, none⟩) ps.length cap ∧ base ≤ g ∧ g < w.heap.size ∧ ps.length ≤ cap ∧ cap ≤ maxLen := by
  rcases h.row.2 with ⟨rfl, hn⟩ | ⟨g, cap, cur, rfl, hb, hgg, hc, hm, _⟩
  · exact .inl ⟨rfl, List.length_eq_zero_iff.1 hn⟩
  · exact .inr ⟨g, cap, rfl, hb, (Array.getElem?_eq_some_iff.1 hgg).1, hc, hm⟩
theorem OwnO.lt {base : Nat} {tw tb : TypeId} {w : World} {v : Value} {ps : List OW} (h : OwnO base tw tb w v ps) (b : Nat) (hb : footO v ps b) : base ≤ b ∧ b < w.heap.size := by
  rcases hb with hb | ⟨p, hp, hb⟩
  · exact World.ownsRow.lt h.row b hb
  · exact (h.data p hp).lt b hb
theorem OwnO.kind {base : Nat} {tw tb : TypeId} {w : World} {g n cap : Nat} {ps : List OW} (h : OwnO base tw tb w (.slice (some ⟨g, 0, none⟩) n cap) ps) (hn : n = ps.length) (j : Nat) (hj : j < ps.length) :
    w.cell? ⟨g, j * 3, none⟩ = some (.int .i64 ps[j].kind) := by
  subst hn
  rw [World.ownsRow.cellAt h.row (j * 3) (by omega), owCells_kind ps j hj]
theorem OwnO.sec {base : Nat} {tw tb : TypeId} {w : World} {g n cap : Nat} {ps : List OW} (h : OwnO base tw tb w (.slice (some ⟨g, 0, none⟩) n cap) ps) (hn : n = ps.length) (j : Nat) (hj : j < ps.length) :
    w.cell? ⟨g, j * 3 + 1, none⟩ = some (.int .i64 ps[j].sec) := by
  subst hn
  rw [World.ownsRow.cellAt h.row (j * 3 + 1) (by omega), owCells_sec ps j hj]
theorem OwnO.val {base : Nat} {tw tb : TypeId} {w : World} {g n cap : Nat} {ps : List OW} (h : OwnO base tw tb w (.slice (some ⟨g, 0, none⟩) n cap) ps) (hn : n = ps.length) (j : Nat) (hj : j < ps.length) :
    w.cell? ⟨g, j * 3 + 2, none⟩ = some ps[j].v := by
  subst hn
  rw [World.ownsRow.cellAt h.row (j * 3 + 2) (by omega), owCells_v ps j hj]
theorem OwnO.frozen {base : Nat} {tw tb : TypeId} {w : World} {g n cap : Nat} {ps : List OW} (h : OwnO base tw tb w (.slice (some ⟨g, 0, none⟩) n cap) ps) (hn : n = ps.length) (j : Nat) :
    w.frozen? ⟨g, j, none⟩ = false := by
  subst hn
  exact World.ownsRow.frozenAt h.row j
theorem OwnO.kept {R : Nat → Prop} {base : Nat} {tw tb : TypeId} {w w' : World} {v : Value} {ps : List OW} (h : OwnO base tw tb w v ps) (hk : Kept R w w') (hr : ∀ b, footO v ps b → ¬ R b) : OwnO base tw tb w' v ps :=
  ⟨hk.owns h.row (fun b hb => hr b (.inl hb)), fun p hp => (h.data p hp).kept hk (fun b hb => hr b (.inr ⟨p, hp, hb⟩)), h.out, h.each⟩
theorem OwnO.same {base : Nat} {tw tb : TypeId} {w w' : World} {v : Value} {ps : List OW} (h : OwnO base tw tb w v ps) (hk : Same w w') : OwnO base tw tb w' v ps :=
  h.kept hk (fun _ _ => id)
theorem OwnO.nil (base : Nat) (tw tb : TypeId) (w : World) : OwnO base tw tb w (.slice none 0 0) [] :=
  ⟨World.ownsRow_nil _ _ _ _, fun _ h => by simp at h, fun _ h => by simp at h, List.Pairwise.nil⟩
def markO : Int → List OW → List OW
  | _, [] => []
  | k, p :: ps => ⟨k, k + 1, p.v, marks (k + 1 + 1) p.bs.length⟩ :: markO (k + 1 + 1 + p.bs.length) ps
def endO : Int → List OW → Int
  | k, [] => k
  | k, p :: ps => endO (k + 1 + 1 + p.bs.length) ps
theorem markO_length (k : Int) (ps : List OW) : (markO k ps).length = ps.length := by
  induction ps generalizing k with
  | nil => rfl
  | cons p ps ih => simp [markO, ih]
theorem endO_le (k : Int) (ps : List OW) : k ≤ endO k ps := by
  induction ps generalizing k with
  | nil => exact Int.le_refl _
  | cons p ps ih => have := ih (k + 1 + 1 + p.bs.length); simp only [endO]; omega
theorem endO_snoc (k : Int) (ps : List OW) (p : OW) : endO k (ps ++ [p]) = endO k ps + 1 + 1 + p.bs.length := by
  induction ps generalizing k with
  | nil => rfl
  | cons q ps ih => simp only [List.cons_append, endO, ih]
theorem endO_append (k : Int) (ps qs : List OW) : endO k (ps ++ qs) = endO (endO k ps) qs := by
  induction ps generalizing k with
  | nil => rfl
  | cons q ps ih => simp only [List.cons_append, endO, ih]
theorem markO_snoc (k : Int) (ps : List OW) (p : OW) : markO k (ps ++ [p]) = markO k ps ++ [⟨endO k ps, endO k ps + 1, p.v, marks (endO k ps + 1 + 1) p.bs.length⟩] := by
  induction ps generalizing k with
  | nil => rfl
  | cons q ps ih => simp only [List.cons_append, markO, endO, ih]
theorem markO_v (k : Int) (ps : List OW) : (markO k ps).map OW.v = ps.map OW.v := by
  induction ps generalizing k with
  | nil => rfl
  | cons q ps ih => simp only [markO, List.map_cons, ih]
theorem markO_at (k : Int) (ps : List OW) (j : Nat) (h : j < ps.length) (h' : j < (markO k ps).length) : (markO k ps)[j] = ⟨endO k (ps.take j), endO k (ps.take j) + 1, ps[j].v, marks (endO k (ps.take j) + 1 + 1) ps[j].bs.length⟩ := by
  induction ps generalizing k j with
  | nil => simp at h
  | cons q ps ih =>
    cases j with
    | zero => rfl
    | succ j => simp only [markO, List.getElem_cons_succ, List.take_succ_cons, endO]; exact ih _ _ (by simpa using h) _
def partO (k : Int) (ps : List OW) (j : Nat) : List OW := markO k (ps.take j) ++ ps.drop j
theorem partO_length (k : Int) (ps : List OW) (j : Nat) : (partO k ps j).length = ps.length := by simp [partO, markO_length]; omega
theorem partO_v (k : Int) (ps : List OW) (j : Nat) : (partO k ps j).map OW.v = ps.map OW.v := by
  simp only [partO, List.map_append, markO_v]
  rw [← List.map_append, List.take_append_drop]
theorem partO_zero (k : Int) (ps : List OW) : partO k ps 0 = ps := by simp [partO, markO]
theorem partO_all (k : Int) (ps : List OW) : partO k ps ps.length = markO k ps := by simp [partO]
theorem partO_at (k : Int) (ps : List OW) (j : Nat) (h : j < ps.length) : partO k ps j = markO k (ps.take j) ++ ps[j] :: ps.drop (j + 1) := by
  unfold partO
  rw [List.drop_eq_getElem_cons h]
theorem partO_step (k : Int) (ps : List OW) (j : Nat) (h : j < ps.length) :
    partO k ps (j + 1) = markO k (ps.take j) ++ ⟨endO k (ps.take j), endO k (ps.take j) + 1, ps[j].v, marks (endO k (ps.take j) + 1 + 1) ps[j].bs.length⟩ :: ps.drop (j + 1) := by
  unfold partO
  rw [List.take_succ_eq_append_getElem h, markO_snoc, List.append_assoc]
  rfl
theorem endO_step (k : Int) (ps : List OW) (j : Nat) (h : j < ps.length) : endO k (ps.take (j + 1)) = endO k (ps.take j) + 1 + 1 + ps[j].bs.length := by
  rw [List.take_succ_eq_append_getElem h, endO_snoc]
theorem endO_take_le (k : Int) (ps : List OW) (j : Nat) : endO k (ps.take j) ≤ endO k ps := by
  have h := endO_append k (ps.take j) (ps.drop j)
  rw [List.take_append_drop] at h
  rw [h]
  exact endO_le _ _
theorem OwnO.setKind {base : Nat} {tw tb : TypeId} {w : World} {g n cap : Nat} {pre post : List OW} {p : OW} (h : OwnO base tw tb w (.slice (some ⟨g, 0, none⟩) n cap) (pre ++ p :: post)) (hn : n = (pre ++ p :: post).length) (K : Int) (j : Nat) (hj : j = pre.length * 3) :
    OwnO base tw tb (w.setCell ⟨g, j, none⟩ (.int .i64 K)) (.slice (some ⟨g, 0, none⟩) n cap) (pre ++ ⟨K, p.sec, p.v, p.bs⟩ :: post) := by
  subst hn hj
  have hk : Kept (fun b => b = g) w (w.setCell ⟨g, pre.length * 3, none⟩ (.int .i64 K)) := Kept.setCell (Kept.refl (fun b => b = g) w) (p := ⟨g, pre.length * 3, none⟩) (.inr rfl) _
  have hmap : (pre ++ (⟨K, p.sec, p.v, p.bs⟩ : OW) :: post).map OW.v = (pre ++ p :: post).map OW.v := by simp
  refine ⟨?_, fun q hq => ?_, by rw [hmap]; exact h.out, by rw [hmap]; exact h.each⟩
  · have hs := (World.ownsRow.stored h.row (pre.length * 3) (.int .i64 K)).1
    have e : owCells (pre ++ (⟨K, p.sec, p.v, p.bs⟩ : OW) :: post) = (owCells (pre ++ p :: post)).set (pre.length * 3) (.int .i64 K) := by
      rw [owCells_append, owCells_append, List.set_append_right (h := by rw [owCells_length]; omega), owCells_length, Nat.sub_self]
      rfl
    rw [e]
    simpa using hs
  · have hq' : ∃ q' ∈ pre ++ p :: post, q'.v = q.v ∧ q'.bs = q.bs := by
      rcases List.mem_append.1 hq with hq | hq
      · exact ⟨q, by simp [hq], rfl, rfl⟩
      · rcases List.mem_cons.1 hq with rfl | hq
        · exact ⟨p, by simp, rfl, rfl⟩
        · exact ⟨q, by simp [hq], rfl, rfl⟩
    obtain ⟨q', hm, e1, e2⟩ := hq'
    have hd := h.data q' hm
    rw [e1, e2] at hd
    refine hd.kept hk (fun b hb e => ?_)
    subst e
    exact h.out q.v (by rw [← e1]; exact List.mem_map_of_mem hm) b rfl hb
theorem OwnO.setSec {base : Nat} {tw tb : TypeId} {w : World} {g n cap : Nat} {pre post : List OW} {p : OW} (h : OwnO base tw tb w (.slice (some ⟨g, 0, none⟩) n cap) (pre ++ p :: post)) (hn : n = (pre ++ p :: post).length) (K : Int) (j : Nat) (hj : j = pre.length * 3 + 1) :
    OwnO base tw tb (w.setCell ⟨g, j, none⟩ (.int .i64 K)) (.slice (some ⟨g, 0, none⟩) n cap) (pre ++ ⟨p.kind, K, p.v, p.bs⟩ :: post) := by
  subst hn hj
  have hk : Kept (fun b => b = g) w (w.setCell ⟨g, pre.length * 3 + 1, none⟩ (.int .i64 K)) := Kept.setCell (Kept.refl (fun b => b = g) w) (p := ⟨g, pre.length * 3 + 1, none⟩) (.inr rfl) _
  have hmap : (pre ++ (⟨p.kind, K, p.v, p.bs⟩ : OW) :: post).map OW.v = (pre ++ p :: post).map OW.v := by simp
  refine ⟨?_, fun q hq => ?_, by rw [hmap]; exact h.out, by rw [hmap]; exact h.each⟩
  · have hs := (World.ownsRow.stored h.row (pre.length * 3 + 1) (.int .i64 K)).1
    have e : owCells (pre ++ (⟨p.kind, K, p.v, p.bs⟩ : OW) :: post) = (owCells (pre ++ p :: post)).set (pre.length * 3 + 1) (.int .i64 K) := by
      rw [owCells_append, owCells_append, List.set_append_right (h := by rw [owCells_length]; omega), owCells_length, Nat.add_sub_cancel_left]
      rfl
    rw [e]
    simpa using hs
  · have hq' : ∃ q' ∈ pre ++ p :: post, q'.v = q.v ∧ q'.bs = q.bs := by
      rcases List.mem_append.1 hq with hq | hq
      · exact ⟨q, by simp [hq], rfl, rfl⟩
      · rcases List.mem_cons.1 hq with rfl | hq
        · exact ⟨p, by simp, rfl, rfl⟩
        · exact ⟨q, by simp [hq], rfl, rfl⟩
    obtain ⟨q', hm, e1, e2⟩ := hq'
    have hd := h.data q' hm
    rw [e1, e2] at hd
    refine hd.kept hk (fun b hb e => ?_)
    subst e
    exact h.out q.v (by rw [← e1]; exact List.mem_map_of_mem hm) b rfl hb
theorem OwnO.setData {base : Nat} {tw tb : TypeId} {w w' : World} {v : Value} {pre post : List OW} {p : OW} {bs : List Int} (h : OwnO base tw tb w v (pre ++ p :: post))
    (hk : Kept (fun b => p.v.ownBlock = some b) w w') (ho : Own base tb .u8 w' p.v bs) : OwnO base tw tb w' v (pre ++ ⟨p.kind, p.sec, p.v, bs⟩ :: post) := by
  have hmap : (pre ++ (⟨p.kind, p.sec, p.v, bs⟩ : OW) :: post).map OW.v = (pre ++ p :: post).map OW.v := by simp
  have hcells : owCells (pre ++ (⟨p.kind, p.sec, p.v, bs⟩ : OW) :: post) = owCells (pre ++ p :: post) := by rw [owCells_append, owCells_append]; rfl
  have hlen : (pre ++ (⟨p.kind, p.sec, p.v, bs⟩ : OW) :: post).length = (pre ++ p :: post).length := by simp
  have hea := h.each
  rw [List.map_append, List.map_cons] at hea
  obtain ⟨_, h2, h3⟩ := List.pairwise_append.1 hea
  have h4 := List.pairwise_cons.1 h2
  refine ⟨?_, fun q hq => ?_, by rw [hmap]; exact h.out, by rw [hmap]; exact h.each⟩
  · rw [hcells, hlen]
    exact hk.owns h.row (fun b hb e => h.out p.v (by simp) b hb e)
  · rcases List.mem_append.1 hq with hq | hq
    · exact (h.data q (by simp [hq])).kept hk (fun b hb e => h3 q.v (List.mem_map_of_mem hq) p.v (by simp) b hb e)
    · rcases List.mem_cons.1 hq with rfl | hq
      · exact ho
      · exact (h.data q (by simp [hq])).kept hk (fun b hb e => h4.1 q.v (List.mem_map_of_mem hq) b e hb)
theorem partO_vAt (k : Int) (ps : List OW) (j i : Nat) (h : i < ps.length) (h' : i < (partO k ps j).length) : (partO k ps j)[i].v = ps[i].v := by
  have e : ((partO k ps j).map OW.v)[i]'(by simpa using h') = (ps.map OW.v)[i]'(by simpa using h) := by simp only [partO_v]
  simpa using e
def dataO (ps : List OW) : List (Int × Int × List Int) := ps.map fun p => (p.kind, p.sec, p.bs)
theorem dataO_length (ps : List OW) : (dataO ps).length = ps.length := by simp [dataO]
theorem dataO_at {ps qs : List OW} (h : dataO ps = dataO qs) (k : Nat) (h1 : k < ps.length) (h2 : k < qs.length) : ps[k].kind = qs[k].kind ∧ ps[k].sec = qs[k].sec ∧ ps[k].bs = qs[k].bs := by
  have := congrArg (fun l => l[k]?) h
  simpa [dataO, h1, h2] using this
def sizeO : List OW → Nat
  | [] => 0
  | p :: ps => p.bs.length + sizeO ps
theorem endO_size (k : Int) (ps : List OW) : endO k ps = k + 2 * ps.length + sizeO ps := by
  induction ps generalizing k with
  | nil => simp [endO, sizeO]
  | cons p ps ih => simp only [endO, ih, sizeO, List.length_cons]; omega
theorem sizeO_mem (ps : List OW) (p : OW) (h : p ∈ ps) : p.bs.length ≤ sizeO ps := by
  induction ps with
  | nil => cases h
  | cons q qs ih =>
    rcases List.mem_cons.1 h with rfl | h
    · simp [sizeO]
    · have := ih h; simp only [sizeO]; omega
end Go.Proofs.YtaiiffgbjabjgaaDoor

namespace Go.Proofs.YtaiiffgbjabjgaaDoor
set_option maxRecDepth 100000
set_option maxHeartbeats 4000000
open Go.RowKit
set_option linter.unusedVariables false
set_option linter.unusedSimpArgs false
def opsM (sl s e c l : Int) : List (Int × Int × List Int) := if mF s e c l = 0 ∧ 0 ≤ sl ∧ sl ≤ 1 then [(1, 1 - sl, mB s e c l), (2, 0, [])] else []
theorem opsM_yes {sl s e c l : Int} (h : mF s e c l = 0 ∧ 0 ≤ sl ∧ sl ≤ 1) : opsM sl s e c l = [(1, 1 - sl, mB s e c l), (2, 0, [])] := if_pos h
theorem opsM_no {sl s e c l : Int} (h : ¬ (mF s e c l = 0 ∧ 0 ≤ sl ∧ sl ≤ 1)) : opsM sl s e c l = [] := if_neg h
def OpsOut (tb : TypeId) (w w' : World) (ds : List (Int × Int × List Int)) (v : Value) : Prop :=
  ∃ a n cc ps, v = .slice a n cc ∧ dataO ps = ds ∧ OwnO 0 76 tb w' (.slice a n cc) ps ∧ (∀ b, footO (.slice a n cc) ps b → w.heap.size ≤ b) ∧ Same w w'
theorem ops_two {tb : TypeId} {w : World} {g n1 : Nat} {k1 s1 k2 s2 : Int} {a1 : Option Addr} {c1 : Nat} {bs : List Int} (hb : Blk w g 76 [.int .i64 k1, .int .i64 s1, .slice a1 n1 c1, .int .i64 k2, .int .i64 s2, .slice none 0 0]) (ho : Own 0 tb .u8 w (.slice a1 n1 c1) bs) (hg : ∀ b, (Value.slice a1 n1 c1).ownBlock = some b → b ≠ g) :
    OwnO 0 76 tb w (.slice (some ⟨g, 0, none⟩) 2 2) [⟨k1, s1, .slice a1 n1 c1, bs⟩, ⟨k2, s2, .slice none 0 0, []⟩] := by
  refine ⟨⟨rfl, .inr ⟨g, 2, _, rfl, Nat.zero_le _, hb, Nat.le_refl _, by unfold maxLen; decide, rfl, rfl⟩⟩, fun p hp => ?_, fun u hu => ?_, ?_⟩
  · rcases List.mem_cons.1 hp with rfl | hp
    · exact ho
    · obtain rfl := List.mem_singleton.1 hp
      exact Own.nil _ _ _ _
  · simp only [List.map_cons, List.map_nil, List.mem_cons, List.not_mem_nil, or_false] at hu
    rcases hu with rfl | rfl
    · intro b hb' hu'
      have : g = b := by simpa [Value.ownBlock] using hb'
      exact hg b hu' this.symm
    · intro b _ hu'
      simp [Value.ownBlock] at hu'
  · simp only [List.map_cons, List.map_nil, List.pairwise_cons, List.not_mem_nil, false_imp_iff, implies_true, List.Pairwise.nil, and_true, List.mem_singleton]
    intro u hu
    subst hu
    intro b _ hu'
    simp [Value.ownBlock] at hu'
theorem ops_none (tb : TypeId) (w : World) : OwnO 0 76 tb (w.alloc (.cells #[] 76)) (.slice (some ⟨w.heap.size, 0, none⟩) 0 0) [] :=
  ⟨⟨rfl, .inr ⟨w.heap.size, 0, #[], rfl, Nat.zero_le _, Blk.new w #[] 76, Nat.le_refl _, Nat.zero_le _, rfl, rfl⟩⟩, fun _ h => by simp at h, fun _ h => by simp at h, List.Pairwise.nil⟩
theorem specMO_any (sl s e c l : Int) (w : World) :
    Calls Tryd.prog 25 #[.int .i64 sl, .agg #[.int .i64 s, .int .i64 e, .int .i64 c, .int .i64 l]] w fun ex w' => ∃ v, ex = .returned v ∧ OpsOut 5 w w' (opsM sl s e c l) v := by
  have HK0 := hid (sameA w [.int .i64 s, .int .i64 e, .int .i64 c, .int .i64 l] 25)
  have k1 := specMF_any s e c l (w.alloc (.cells #[.int .i64 s, .int .i64 e, .int .i64 c, .int .i64 l] 25))
  have b0 := Blk.new w #[.int .i64 s, .int .i64 e, .int .i64 c, .int .i64 l] 25
  have k2 := fun wx => l4In_any sl 0 1 wx
  have k3 := fun wx => specEM_any s e c l wx
  by_cases hg : mF s e c l = 0
  · by_cases hs : 0 ≤ sl ∧ sl ≤ 1
    · rw [opsM_yes ⟨hg, hs⟩]
      rw [show inB sl 0 1 = true from by simp [inB, hs.1, hs.2]] at k2
      rw [encM_yes hg, mB_length] at k3
      rw [hg] at k1
      have hw : IntKind.i64.wrap (1 - sl) = 1 - sl := by rw [IntKind.wrap_i64]; omega
      clear hg hs
      go_enter Tryd.func25, Tryd.ntmps25
      go_wp2_with (first
        | (go_at_call 8; (with_reducible refine k1.mono ?_); rintro ex w1 ⟨rfl, hk⟩; have HK1 := (show Hid (Same w w1) from HK0.out.trans hk); have b1 := b0.same hk; clear hk)
        | (go_at_call 30; (with_reducible refine (k2 _).mono ?_); rintro ex w2 ⟨rfl, hk⟩; have HK2 := (show Hid (Same w w2) from HK1.out.trans hk); have b2 := b1.same hk; obtain ⟨d0, d1, d2, d3⟩ := b2.all4; clear hk)
        | (go_at_call 11; (with_reducible refine (k3 _).mono ?_); rintro ex w3 ⟨a3, c3, rfl, hf, ho, hk⟩; have HK3 := (show Hid (Same w w3) from HK2.out.trans hk); have HO3 := (show Hid (Own 0 5 .u8 w3 (.slice a3 512 c3) (mB s e c l)) from ho); have HF3 := (show Hid (∀ b, (Value.slice a3 512 c3).ownBlock = some b → w.heap.size ≤ b) from fun b hb => Nat.le_trans HK2.out.size (hf b hb)); clear hk ho hf))
      go_ret
      have hb := Blk.new w3 #[.int .i64 1, .int .i64 (1 - sl), .slice a3 512 c3, .int .i64 2, .int .i64 0, .slice none 0 0] 76
      have hlt := HO3.out.lt
      refine ⟨_, rfl, _, _, _, _, rfl, ?_, ops_two hb (HO3.out.same ((Kept.refl _ _).alloc _)) (fun b hb' e => by have := (hlt b hb').2; omega), fun b hb' => ?_, HK3.out.alloc _⟩
      · rfl
      · rcases hb' with hb' | ⟨p, hp, hb'⟩
        · have : w3.heap.size = b := by simpa [Value.ownBlock] using hb'
          have := HK3.out.size
          omega
        · rcases List.mem_cons.1 hp with rfl | hp
          · exact HF3.out b hb'
          · obtain rfl := List.mem_singleton.1 hp
            simp [Value.ownBlock] at hb'
    · rw [opsM_no (fun h => hs h.2)]
      rw [show inB sl 0 1 = false from by simp [inB]; omega] at k2
      rw [hg] at k1
      clear hg hs
      go_enter Tryd.func25, Tryd.ntmps25
      go_wp2_with (first
        | (go_at_call 8; (with_reducible refine k1.mono ?_); rintro ex w1 ⟨rfl, hk⟩; have HK1 := (show Hid (Same w w1) from HK0.out.trans hk); have b1 := b0.same hk; clear hk)
        | (go_at_call 30; (with_reducible refine (k2 _).mono ?_); rintro ex w2 ⟨rfl, hk⟩; have HK2 := (show Hid (Same w w2) from HK1.out.trans hk); clear hk))
      go_ret
      refine ⟨_, rfl, _, _, _, [], rfl, rfl, ops_none _ w2, fun b hb' => ?_, HK2.out.alloc _⟩
      rcases hb' with hb' | ⟨p, hp, _⟩
      · have : w2.heap.size = b := by simpa [Value.ownBlock] using hb'
        have := HK2.out.size
        omega
      · simp at hp
  · rw [opsM_no (fun h => hg h.1)]
    have hg' : ¬ mF s e c l = 0 := hg
    go_enter Tryd.func25, Tryd.ntmps25
    go_wp2_with (first
      | (go_at_call 8; (with_reducible refine k1.mono ?_); rintro ex w1 ⟨rfl, hk⟩; have HK1 := (show Hid (Same w w1) from HK0.out.trans hk); clear hk))
    go_ret
    refine ⟨_, rfl, _, _, _, [], rfl, rfl, ops_none _ w1, fun b hb' => ?_, HK1.out.alloc _⟩
    rcases hb' with hb' | ⟨p, hp, _⟩
    · have : w1.heap.size = b := by simpa [Value.ownBlock] using hb'
      have := HK1.out.size
      omega
    · simp at hp
theorem implMO_any (sl s e c l : Int) (a0 a1 a2 : Addr) (w : World) (hE : Errs w a0 a1 a2) :
    Calls Tryd.prog 26 #[.int .i64 sl, .agg #[.int .i64 s, .int .i64 e, .int .i64 c, .int .i64 l]] w fun ex w' => ∃ v, ex = .returned v ∧ OpsOut 62 w w' (opsM sl s e c l) v := by
  have HK0 := hid (sameA w [.int .i64 s, .int .i64 e, .int .i64 c, .int .i64 l] 25)
  have k3 := implEM_any s e c l a0 a1 a2 _ (hE.same HK0.out)
  clear hE
  by_cases hg : mF s e c l = 0
  · rw [encM_yes hg, mB_length] at k3
    by_cases hs : 0 ≤ sl ∧ sl ≤ 1
    · rw [opsM_yes ⟨hg, hs⟩]
      have hw : IntKind.i64.wrap (1 - sl) = 1 - sl := by rw [IntKind.wrap_i64]; omega
      have h1 : ¬ sl < 0 := by omega
      have h2 : ¬ 2 ≤ sl := by omega
      clear hg hs
      go_enter Tryd.func26, Tryd.ntmps26
      go_wp2_with (go_at_call 12; (with_reducible refine k3.mono ?_); rintro ex w3 ⟨a3, c3, rfl, hf, ho, hk⟩; have HK3 := (show Hid (Same w w3) from HK0.out.trans hk); have HO3 := (show Hid (Own 0 62 .u8 w3 (.slice a3 512 c3) (mB s e c l)) from ho); have HF3 := (show Hid (∀ b, (Value.slice a3 512 c3).ownBlock = some b → w.heap.size ≤ b) from fun b hb => Nat.le_trans HK0.out.size (hf b hb)); clear hk ho hf)
      go_ret
      have hb := Blk.new w3 #[.int .i64 1, .int .i64 (1 - sl), .slice a3 512 c3, .int .i64 2, .int .i64 0, .slice none 0 0] 76
      have hlt := HO3.out.lt
      refine ⟨_, rfl, _, _, _, _, rfl, ?_, ops_two hb (HO3.out.same ((Kept.refl _ _).alloc _)) (fun b hb' e => by have := (hlt b hb').2; omega), fun b hb' => ?_, HK3.out.alloc _⟩
      · rfl
      · rcases hb' with hb' | ⟨p, hp, hb'⟩
        · have : w3.heap.size = b := by simpa [Value.ownBlock] using hb'
          have := HK3.out.size
          omega
        · rcases List.mem_cons.1 hp with rfl | hp
          · exact HF3.out b hb'
          · obtain rfl := List.mem_singleton.1 hp
            simp [Value.ownBlock] at hb'
    · rw [opsM_no (fun h => hs h.2)]
      by_cases h1 : sl < 0
      · clear hg hs
        go_enter Tryd.func26, Tryd.ntmps26
        go_wp2_with (go_at_call 12; (with_reducible refine k3.mono ?_); rintro ex w3 ⟨a3, c3, rfl, hf, ho, hk⟩; have HK3 := (show Hid (Same w w3) from HK0.out.trans hk); clear hk ho hf)
        go_ret
        refine ⟨_, rfl, none, 0, 0, [], rfl, rfl, OwnO.nil _ _ _ _, fun b hb' => ?_, HK3.out⟩
        rcases hb' with hb' | ⟨p, hp, _⟩
        · simp [Value.ownBlock] at hb'
        · simp at hp
      · have h2 : 2 ≤ sl := by omega
        clear hg hs
        go_enter Tryd.func26, Tryd.ntmps26
        go_wp2_with (go_at_call 12; (with_reducible refine k3.mono ?_); rintro ex w3 ⟨a3, c3, rfl, hf, ho, hk⟩; have HK3 := (show Hid (Same w w3) from HK0.out.trans hk); clear hk ho hf)
        go_ret
        refine ⟨_, rfl, none, 0, 0, [], rfl, rfl, OwnO.nil _ _ _ _, fun b hb' => ?_, HK3.out⟩
        rcases hb' with hb' | ⟨p, hp, _⟩
        · simp [Value.ownBlock] at hb'
        · simp at hp
  · rw [opsM_no (fun h => hg h.1)]
    rw [encM_no hg] at k3
    go_enter Tryd.func26, Tryd.ntmps26
    go_wp2_with (go_at_call 12; (with_reducible refine k3.mono ?_); rintro ex w3 ⟨a3, c3, rfl, hf, ho, hk⟩; have HK3 := (show Hid (Same w w3) from HK0.out.trans hk); clear hk ho hf)
    go_ret
    refine ⟨_, rfl, none, 0, 0, [], rfl, rfl, OwnO.nil _ _ _ _, fun b hb' => ?_, HK3.out⟩
    rcases hb' with hb' | ⟨p, hp, _⟩
    · simp [Value.ownBlock] at hb'
    · simp at hp
end Go.Proofs.YtaiiffgbjabjgaaDoor

namespace Go.Proofs.YtaiiffgbjabjgaaDoor
set_option maxRecDepth 100000
set_option maxHeartbeats 2000000
open Go.RowKit
set_option linter.unusedVariables false
theorem markOpS_own {tb : TypeId} (base : Nat) (va : Value) (ps : List OW) (k0 : Int) (w : World) (h0 : 0 ≤ k0) (h1 : endO k0 ps ≤ 1125899906842624) (hn : ps.length ≤ 1125899906842624)
    (ha : OwnO base 76 tb w va ps) :
    Calls Tryd.prog 28 #[va, .int .i64 k0] w fun e w' => e = .returned (.int .i64 (endO k0 ps)) ∧ OwnO base 76 tb w' va (markO k0 ps) ∧ Kept (footO va ps) w w' := by
  by_cases hz : ps.length = 0
  · obtain rfl : ps = [] := List.length_eq_zero_iff.1 hz
    obtain ⟨aa, ca, rfl⟩ : ∃ aa ca, va = .slice aa 0 ca := by rcases ha.form with ⟨rfl, _⟩ | ⟨g, cap, rfl, _⟩ <;> exact ⟨_, _, rfl⟩
    have HA : Hid (OwnO base 76 tb w (.slice aa 0 ca) []) := ha
    clear ha hn hz
    go_enter Tryd.func28, Tryd.ntmps28
    go_wp2
    refine wp_loop_rounds 1 ?_
    rw [rounds_succ]
    go_wp2
    go_ret
    exact ⟨by simp [endO], by simpa [markO] using HA.out, Kept.refl _ _⟩
  · obtain ⟨g, cap, rfl, hb, hlt, _, _⟩ : ∃ g cap, va = .slice (some ⟨g, 0, none⟩) ps.length cap ∧ base ≤ g ∧ g < w.heap.size ∧ ps.length ≤ cap ∧ cap ≤ maxLen := by
      rcases ha.form with ⟨_, rfl⟩ | h
      · simp at hz
      · exact h
    generalize hl : ps.length = len at *
    have HL : Hid (ps.length = len) := hl
    have H1 : Hid (endO k0 ps ≤ 1125899906842624) := h1
    have HA : Hid (OwnO base 76 tb w (.slice (some ⟨g, 0, none⟩) len cap) ps) := ha
    clear hl h1 ha
    go_enter Tryd.func28, Tryd.ntmps28
    go_wp2
    go_loopw [1, 5] (fun v i wr => ∃ (k : Nat) (c : Int), k ≤ len ∧ i = .int .i64 k ∧ v = .int .i64 c ∧ Hid (c = endO k0 (ps.take k)) ∧ Hid (OwnO base 76 tb wr (.slice (some ⟨g, 0, none⟩) len cap) (partO k0 ps k)) ∧ Hid (Kept (footO (.slice (some ⟨g, 0, none⟩) len cap) ps) w wr)) (fun _ i _ => len - (intOf i).toNat)
    case atStart => exact ⟨0, k0, Nat.zero_le _, rfl, rfl, rfl, by rw [partO_zero]; exact HA.out, Kept.refl _ _⟩
    case round =>
      obtain ⟨k, c, hk, rfl, rfl, HC, HO, HK⟩ := hrel
      by_cases hlt : k < len
      · have hlp : k < ps.length := by rw [HL.out]; exact hlt
        have hf := HO.out.frozen (by rw [partO_length]; exact HL.out.symm)
        have hc := HO.out.kind (by rw [partO_length]; exact HL.out.symm) k (by rw [partO_length]; exact hlp)
        have hcs := HO.out.sec (by rw [partO_length]; exact HL.out.symm) k (by rw [partO_length]; exact hlp)
        have hv : wr.cell? ⟨g, k * 3 + 2, none⟩ = some ps[k].v := by rw [HO.out.val (by rw [partO_length]; exact HL.out.symm) k (by rw [partO_length]; exact hlp), partO_vAt _ _ _ _ hlp]
        have hc0 : k0 ≤ c := by rw [HC.out]; exact endO_le _ _
        have hc1 : c + 1 + 1 + ps[k].bs.length ≤ 1125899906842624 := by rw [HC.out, ← endO_step k0 ps k hlp]; exact Int.le_trans (endO_take_le _ _ _) H1.out
        have HO2 : Hid (OwnO base 76 tb ((wr.setCell ⟨g, k * 3, none⟩ (.int .i64 c)).setCell ⟨g, k * 3 + 1, none⟩ (.int .i64 (c + 1))) (.slice (some ⟨g, 0, none⟩) len cap) (markO k0 (ps.take k) ++ ⟨c, c + 1, ps[k].v, ps[k].bs⟩ :: ps.drop (k + 1))) := by
          have h := HO.out
          rw [partO_at _ _ _ hlp] at h
          have hl := HL.out
          have h2 := h.setKind (by simp [markO_length]; omega) c (k * 3) (by simp [markO_length]; omega)
          exact h2.setSec (by simp [markO_length]; omega) (c + 1) (k * 3 + 1) (by simp [markO_length]; omega)
        go_wp2_with fail
        refine (markByteS_own base ps[k].v ps[k].bs (c + 1 + 1) _ (by omega) (by omega) (by omega) (HO2.out.data ⟨c, c + 1, ps[k].v, ps[k].bs⟩ (by simp))).mono ?_
        rintro e w1 ⟨rfl, ho, hk1⟩
        have HO3 : Hid (OwnO base 76 tb w1 (.slice (some ⟨g, 0, none⟩) len cap) (partO k0 ps (k + 1))) := by
          rw [partO_step _ _ _ hlp, ← HC.out]
          exact HO2.out.setData hk1 ho
        have HK3 : Hid (Kept (footO (.slice (some ⟨g, 0, none⟩) len cap) ps) w w1) :=
          ((HK.out.setCell (p := ⟨g, k * 3, none⟩) (.inr (.inl rfl)) _).setCell (p := ⟨g, k * 3 + 1, none⟩) (.inr (.inl rfl)) _).trans (hk1.mono fun b _ hb => .inr ⟨ps[k], List.getElem_mem _, hb⟩)
        clear ho hk1 hv hc hcs hf HO HO2
        go_wp2
        go_roundw
        case rel =>
          exact ⟨k + 1, c + 1 + 1 + ps[k].bs.length, by omega, by go_num, rfl, by rw [endO_step _ _ _ hlp, ← HC.out]; rfl, HO3, HK3⟩
        case measure => simp [intOf]; omega
      · go_wp2
        go_ret
        obtain rfl : k = len := by omega
        have hl := HL.out
        have hc := HC.out
        have ho := HO.out
        rw [← hl, List.take_length] at hc
        rw [← hl, partO_all, hl] at ho
        exact ⟨ret_int hc, ho, HK.out⟩
theorem heldOpS_own {tb : TypeId} (base : Nat) (va : Value) (ps : List OW) (k0 : Int) (w : World) (h0 : 0 ≤ k0) (h1 : endO k0 ps ≤ 1125899906842624) (hn : ps.length ≤ 1125899906842624)
    (ha : OwnO base 76 tb w va (markO k0 ps)) :
    Calls Tryd.prog 29 #[va, .int .i64 k0] w fun e w' => e = .returned (.int .i64 (endO k0 ps)) ∧ w' = w := by
  by_cases hz : ps.length = 0
  · obtain rfl : ps = [] := List.length_eq_zero_iff.1 hz
    obtain ⟨aa, ca, rfl⟩ : ∃ aa ca, va = .slice aa 0 ca := by rcases ha.form with ⟨rfl, _⟩ | ⟨g, cap, rfl, _⟩ <;> exact ⟨_, _, rfl⟩
    clear ha hn hz
    go_enter Tryd.func29, Tryd.ntmps29
    go_wp2
    refine wp_loop_rounds 1 ?_
    rw [rounds_succ]
    go_wp2
    go_ret
    exact ⟨by simp [endO], rfl⟩
  · obtain ⟨g, cap, rfl⟩ : ∃ g cap, va = .slice (some ⟨g, 0, none⟩) ps.length cap := by
      rcases ha.form with ⟨_, h⟩ | ⟨g, cap, h, _⟩
      · have := congrArg List.length h; simp [markO_length] at this; simp [this] at hz
      · exact ⟨g, cap, by rw [h, markO_length]⟩
    have H1 : Hid (endO k0 ps ≤ 1125899906842624) := h1
    have HA : Hid (OwnO base 76 tb w (.slice (some ⟨g, 0, none⟩) ps.length cap) (markO k0 ps)) := ha
    clear h1 ha
    generalize hl : ps.length = len at hn hz HA ⊢
    have HL : Hid (ps.length = len) := hl
    clear hl
    go_enter Tryd.func29, Tryd.ntmps29
    go_wp2
    go_loop [1, 5] (fun v i => ∃ (k : Nat) (c : Int), k ≤ len ∧ i = .int .i64 k ∧ v = .int .i64 c ∧ Hid (c = endO k0 (ps.take k))) (fun _ i => len - (intOf i).toNat)
    case atStart => exact ⟨0, k0, Nat.zero_le _, rfl, rfl, rfl⟩
    case round =>
      obtain ⟨k, c, hk, rfl, rfl, HC⟩ := hrel
      by_cases hlt : k < len
      · have hlp : k < ps.length := by rw [HL.out]; exact hlt
        have hlm : k < (markO k0 ps).length := by rw [markO_length]; exact hlp
        have hc : w.cell? ⟨g, k * 3, none⟩ = some (.int .i64 c) := by rw [HA.out.kind (by rw [markO_length]; exact HL.out.symm) k hlm, markO_at _ _ _ hlp, ← HC.out]
        have hs : w.cell? ⟨g, k * 3 + 1, none⟩ = some (.int .i64 (c + 1)) := by rw [HA.out.sec (by rw [markO_length]; exact HL.out.symm) k hlm, markO_at _ _ _ hlp, ← HC.out]
        have hv : w.cell? ⟨g, k * 3 + 2, none⟩ = some ps[k].v := by rw [HA.out.val (by rw [markO_length]; exact HL.out.symm) k hlm, markO_at _ _ _ hlp]
        have hd := HA.out.data _ (List.getElem_mem hlm)
        rw [markO_at _ _ _ hlp, ← HC.out] at hd
        have HD : Hid (Own base tb .u8 w ps[k].v (marks (c + 1 + 1) ps[k].bs.length)) := hd
        have hc0 : k0 ≤ c := by rw [HC.out]; exact endO_le _ _
        have hc1 : c + 1 + 1 + ps[k].bs.length ≤ 1125899906842624 := by rw [HC.out, ← endO_step k0 ps k hlp]; exact Int.le_trans (endO_take_le _ _ _) H1.out
        clear hd
        go_wp2_with fail
        refine (heldByteS_own base ps[k].v ps[k].bs.length (c + 1 + 1) _ (by omega) (by omega) (by omega) HD.out).mono ?_
        rintro e w1 ⟨rfl, rfl⟩
        go_wp2
        go_round
        case rel => exact ⟨k + 1, c + 1 + 1 + ps[k].bs.length, by omega, by go_num, rfl, by rw [endO_step _ _ _ hlp, ← HC.out]; rfl⟩
        case measure => simp [intOf]; omega
      · go_wp2
        go_ret
        obtain rfl : k = len := by omega
        have hl := HL.out
        have hc := HC.out
        rw [← hl, List.take_length] at hc
        exact ⟨ret_int hc, rfl⟩
theorem eqOp_own {ta tb : TypeId} (base : Nat) (kind sec : Int) (va vb : Value) (bs : List Int) (w : World) (hn : bs.length ≤ 1125899906842624)
    (ha : Own base ta .u8 w va bs) (hb : Own base tb .u8 w vb bs) :
    Calls Tryd.prog 46 #[.agg #[.int .i64 kind, .int .i64 sec, va], .agg #[.int .i64 kind, .int .i64 sec, vb]] w fun e w' => e = .returned (.bool true) ∧ Same w w' := by
  obtain ⟨aa, na, ca, rfl⟩ : ∃ aa na ca, va = .slice aa na ca := by rcases ha.form with ⟨rfl, _⟩ | ⟨g, cap, rfl, _⟩ <;> exact ⟨_, _, _, rfl⟩
  obtain ⟨ab, nb, cb, rfl⟩ : ∃ aa na ca, vb = .slice aa na ca := by rcases hb.form with ⟨rfl, _⟩ | ⟨g, cap, rfl, _⟩ <;> exact ⟨_, _, _, rfl⟩
  have HA : Hid (Own base ta .u8 w (.slice aa na ca) bs) := ha
  have HB : Hid (Own base tb .u8 w (.slice ab nb cb) bs) := hb
  clear ha hb
  go_enter Tryd.func46, Tryd.ntmps46
  go_wp2_with fail
  refine (eqByteS_own base _ _ bs _ hn (HA.out.same (((Kept.refl _ _).alloc _).alloc _)) (HB.out.same (((Kept.refl _ _).alloc _).alloc _))).mono ?_
  rintro e w1 ⟨rfl, n1, rfl⟩
  go_wp2
  go_ret
  exact ⟨rfl, (((Kept.refl _ _).alloc _).alloc _).drewN _⟩
theorem eqOpS_own {ta tb : TypeId} (base : Nat) (va vb : Value) (ps qs : List OW) (w : World) (hn : ps.length ≤ 1125899906842624) (hs : dataO ps = dataO qs) (hsm : ∀ p ∈ ps, p.bs.length ≤ 1125899906842624)
    (ha : OwnO base 76 ta w va ps) (hb : OwnO base 76 tb w vb qs) :
    Calls Tryd.prog 27 #[va, vb] w fun e w' => e = .returned (.bool true) ∧ Same w w' := by
  have hlen : qs.length = ps.length := by rw [← dataO_length, ← dataO_length, hs]
  by_cases hz : ps.length = 0
  · obtain rfl : ps = [] := List.length_eq_zero_iff.1 hz
    obtain rfl : qs = [] := List.length_eq_zero_iff.1 hlen
    obtain ⟨aa, ca, rfl⟩ : ∃ aa ca, va = .slice aa 0 ca := by rcases ha.form with ⟨rfl, _⟩ | ⟨g, cap, rfl, _⟩ <;> exact ⟨_, _, rfl⟩
    obtain ⟨ab, cb, rfl⟩ : ∃ aa ca, vb = .slice aa 0 ca := by rcases hb.form with ⟨rfl, _⟩ | ⟨g, cap, rfl, _⟩ <;> exact ⟨_, _, rfl⟩
    clear ha hb hn hz hs
    go_enter Tryd.func27, Tryd.ntmps27
    go_wp2
    refine wp_loop_rounds 1 ?_
    rw [rounds_succ]
    go_wp2
    go_ret
    exact ⟨rfl, Kept.refl _ _⟩
  · obtain ⟨ga, ca, rfl⟩ : ∃ g cap, va = .slice (some ⟨g, 0, none⟩) ps.length cap := by
      rcases ha.form with ⟨_, h⟩ | ⟨g, cap, h, _⟩
      · simp [h] at hz
      · exact ⟨g, cap, h⟩
    obtain ⟨gb, cb, rfl⟩ : ∃ g cap, vb = .slice (some ⟨g, 0, none⟩) ps.length cap := by
      rcases hb.form with ⟨_, h⟩ | ⟨g, cap, h, _⟩
      · simp [h] at hlen; omega
      · exact ⟨g, cap, by rw [h, hlen]⟩
    have HA : Hid (OwnO base 76 ta w (.slice (some ⟨ga, 0, none⟩) ps.length ca) ps) := ha
    have HB : Hid (OwnO base 76 tb w (.slice (some ⟨gb, 0, none⟩) ps.length cb) qs) := hb
    have HQ : Hid (qs.length = ps.length) := hlen
    have HS : Hid (dataO ps = dataO qs) := hs
    have HM : Hid (∀ p ∈ ps, p.bs.length ≤ 1125899906842624) := hsm
    clear ha hb hs hlen hsm
    generalize hl : ps.length = len at hn hz HA HB ⊢
    have HL : Hid (ps.length = len) := hl
    clear hl
    go_enter Tryd.func27, Tryd.ntmps27
    go_wp2
    go_loopw [5] (fun i wr => ∃ (k : Nat), k ≤ len ∧ i = .int .i64 k ∧ Hid (Same w wr)) (fun i _ => len - (intOf i).toNat)
    case atStart => exact ⟨0, Nat.zero_le _, rfl, Kept.refl _ _⟩
    case round =>
      obtain ⟨k, hk, rfl, HK⟩ := hrel
      by_cases hlt : k < len
      · have hlp : k < ps.length := by rw [HL.out]; exact hlt
        have hlq : k < qs.length := by rw [HQ.out]; exact hlp
        have hoa := HA.out.same HK.out
        have hob := HB.out.same HK.out
        obtain ⟨s0, s1, s2⟩ := dataO_at HS.out k hlp hlq
        have s3 := HM.out _ (List.getElem_mem hlp)
        have ha0 : wr.cell? ⟨ga, k * 3, none⟩ = some (.int .i64 ps[k].kind) := hoa.kind HL.out.symm k hlp
        have ha1 : wr.cell? ⟨ga, k * 3 + 1, none⟩ = some (.int .i64 ps[k].sec) := hoa.sec HL.out.symm k hlp
        have ha2 : wr.cell? ⟨ga, k * 3 + 2, none⟩ = some ps[k].v := hoa.val HL.out.symm k hlp
        have hb0 : wr.cell? ⟨gb, k * 3, none⟩ = some (.int .i64 ps[k].kind) := by rw [hob.kind (by rw [HQ.out, HL.out]) k hlq, s0]
        have hb1 : wr.cell? ⟨gb, k * 3 + 1, none⟩ = some (.int .i64 ps[k].sec) := by rw [hob.sec (by rw [HQ.out, HL.out]) k hlq, s1]
        have hb2 : wr.cell? ⟨gb, k * 3 + 2, none⟩ = some qs[k].v := hob.val (by rw [HQ.out, HL.out]) k hlq
        have HDA : Hid (Own base ta .u8 wr ps[k].v ps[k].bs) := hoa.data _ (List.getElem_mem hlp)
        have HDB : Hid (Own base tb .u8 wr qs[k].v ps[k].bs) := by have := hob.data _ (List.getElem_mem hlq); rw [← s2] at this; exact this
        clear s0 s1 s2 hoa hob
        go_wp2_with fail
        go_region_with (go_at_call 46; refine (eqOp_own base ps[k].kind ps[k].sec ps[k].v qs[k].v ps[k].bs _ s3 (by exact HDA.out.same (Kept.refl _ _).drew) (by exact HDB.out.same (Kept.refl _ _).drew)).mono ?_; rintro e w1 ⟨rfl, hk1⟩)
        all_goals
          have HK1 : Hid (Same w w1) := HK.out.drew.trans hk1
          clear hk1 ha0 ha1 ha2 hb0 hb1 hb2 HDA HDB
          go_wp2
          go_roundw
          case rel => exact ⟨k + 1, by omega, by go_num, HK1⟩
          case measure => simp [intOf]; omega
      · go_wp2
        go_ret
        exact ⟨rfl, HK.out⟩
end Go.Proofs.YtaiiffgbjabjgaaDoor

namespace Go.Proofs.YtaiiffgbjabjgaaDoor
set_option maxRecDepth 100000
set_option maxHeartbeats 4000000
open Go.RowKit
set_option linter.unusedVariables false
set_option linter.unusedSimpArgs false
theorem opsM_small {sl s e c l : Int} {ps : List OW} (h : dataO ps = opsM sl s e c l) : ps.length ≤ 2 ∧ sizeO ps ≤ 512 := by
  have hl := congrArg List.length h
  rw [dataO_length] at hl
  unfold opsM at h hl
  split at h
  · rename_i hc
    rw [if_pos hc] at hl
    obtain ⟨p, q, rfl⟩ : ∃ p q, ps = [p, q] := by
      match ps, hl with
      | [p, q], _ => exact ⟨p, q, rfl⟩
    simp only [dataO, List.map_cons, List.map_nil, List.cons.injEq, Prod.mk.injEq, and_true] at h
    refine ⟨by simp, ?_⟩
    simp only [sizeO, h.1.2.2, h.2.2.2, mB_length, List.length_nil]
    decide
  · rename_i hc
    rw [if_neg hc] at hl
    obtain rfl := List.length_eq_zero_iff.1 hl
    exact ⟨by simp, by simp [sizeO]⟩
theorem masterOps_law (sl s e c l : Int) (a0 a1 a2 : Addr) (w : World) (hE : Errs w a0 a1 a2) : Calls Tryd.prog 7 #[.int .i64 sl, .agg #[.int .i64 s, .int .i64 e, .int .i64 c, .int .i64 l]] w fun ex w' => ex = .returned (.bool true) ∧ Same w w' := by
  have HE := (show Hid (Errs w a0 a1 a2) from hE)
  clear hE
  have HK0 := hid (sameA w [.int .i64 s, .int .i64 e, .int .i64 c, .int .i64 l] 23)
  have b0 := Blk.new w #[.int .i64 s, .int .i64 e, .int .i64 c, .int .i64 l] 23
  go_enter Tryd.func7, Tryd.ntmps7
  go_wp2_with fail
  refine (toMaster_any s e c l _).mono ?_
  rintro ex w1 ⟨rfl, hk⟩
  have HK1 := (show Hid (Same w w1) from HK0.out.trans hk)
  have b1 := b0.same hk
  clear hk HK0 b0
  go_wp2_with fail
  refine (specMO_any sl s e c l _).mono ?_
  rintro ex w2 ⟨v, rfl, aW, nW, cW, psW, rfl, hd, ho, hf, hk⟩
  obtain ⟨hlW, hsW⟩ := opsM_small hd
  have hDW : Hid (dataO psW = opsM sl s e c l) := hd
  have HK2 := (show Hid (Same w w2) from HK1.out.trans hk)
  have b2 := b1.same hk
  have HW := (show Hid (OwnO 0 76 5 w2 (.slice aW nW cW) psW) from ho)
  have HFW := (show Hid (∀ b, footO (.slice aW nW cW) psW b → b < w2.heap.size) from fun b hb => (ho.lt b hb).2)
  clear hk HK1 b1 hf ho hd
  obtain ⟨d0, d1, d2, d3⟩ := b2.all4
  go_wp2_with fail
  refine (toMaster_any s e c l _).mono ?_
  rintro ex w3 ⟨rfl, hk⟩
  have HK3 := (show Hid (Same w w3) from HK2.out.trans hk)
  have b3 := b2.same hk
  have HW3 := (show Hid (OwnO 0 76 5 w3 (.slice aW nW cW) psW) from HW.out.same hk)
  have hz3 := hk.size
  clear hk HK2 b2 HW d0 d1 d2 d3
  go_wp2_with fail
  refine (implMO_any sl s e c l a0 a1 a2 _ (HE.out.same HK3.out)).mono ?_
  rintro ex w4 ⟨v, rfl, aG, nG, cG, psG, rfl, hd, ho, hf, hk⟩
  obtain ⟨hlG, hsG⟩ := opsM_small hd
  have hDG : Hid (dataO psG = opsM sl s e c l) := hd
  have HK4 := (show Hid (Same w w4) from HK3.out.trans hk)
  have b4 := b3.same hk
  have hlt := b3.lt
  have HW4 := (show Hid (OwnO 0 76 5 w4 (.slice aW nW cW) psW) from HW3.out.same hk)
  have HG4 := (show Hid (OwnO 0 76 62 w4 (.slice aG nG cG) psG) from ho)
  have HFG := (show Hid (∀ b, footO (.slice aG nG cG) psG b → w2.heap.size ≤ b ∧ w.heap.size < b) from fun b hb => by have := hf b hb; omega)
  clear hk HK3 b3 HW3 hf ho hd
  have HEQ : Hid (dataO psG = dataO psW) := hDG.out.trans hDW.out.symm
  have HSM : Hid (∀ p ∈ psG, p.bs.length ≤ 1125899906842624) := fun p hp => by have := sizeO_mem psG p hp; omega
  go_wp2_with fail
  refine (eqOpS_own 0 _ _ psG psW _ (by omega) HEQ.out HSM.out HG4.out HW4.out).mono ?_
  rintro ex w5 ⟨rfl, hk⟩
  have HK5 := (show Hid (Same w w5) from HK4.out.trans hk)
  have b5 := b4.same hk
  have HW5 := (show Hid (OwnO 0 76 5 w5 (.slice aW nW cW) psW) from HW4.out.same hk)
  have HG5 := hid (HG4.out.same hk)
  clear hk HK4 b4 HW4 HG4
  obtain ⟨En, hE⟩ : ∃ En, endO 1 psG = En := ⟨_, rfl⟩
  have hE0 : 0 ≤ En := by rw [← hE, endO_size]; omega
  have hE1 : En ≤ 1000000 := by rw [← hE, endO_size]; omega
  have HEN : Hid (endO 1 psG = En) := hE
  clear hE
  go_wp2_with fail
  have hm := markOpS_own 0 (.slice aG nG cG) psG 1 w5 (by omega) (by rw [HEN.out]; omega) (by omega) HG5.out
  rw [HEN.out] at hm
  refine hm.mono ?_
  clear hm
  rintro ex w6 ⟨rfl, ho, hk⟩
  have HK6 := (show Hid (Same w w6) from HK5.out.next hk (fun b hb e => by have := HFG.out _ e; omega))
  have b6 := b5.kept hk (fun e => by have := HFG.out _ e; omega)
  have HW6 := (show Hid (OwnO 0 76 5 w6 (.slice aW nW cW) psW) from HW5.out.kept hk (fun b hb e => by have h1 := HFG.out _ e; have h2 := HFW.out _ hb; omega))
  have HG6 := (show Hid (OwnO 0 76 62 w6 (.slice aG nG cG) (markO 1 psG)) from ho)
  clear hk HK5 b5 HW5 HG5 ho
  have hEn : ¬ En < 0 := by omega
  go_wp2_with fail
  have hm := heldOpS_own 0 (.slice aG nG cG) psG 1 w6 (by omega) (by rw [HEN.out]; omega) (by omega) HG6.out
  rw [HEN.out] at hm
  refine hm.mono ?_
  clear hm
  rintro ex w7 ⟨rfl, rfl⟩
  obtain ⟨d0, d1, d2, d3⟩ := b6.all4
  go_wp2_with fail
  refine (toMaster_any s e c l _).mono ?_
  rintro ex w8 ⟨rfl, hk⟩
  have HK8 := (show Hid (Same w w8) from HK6.out.trans hk)
  have HW8 := (show Hid (OwnO 0 76 5 w8 (.slice aW nW cW) psW) from HW6.out.same hk)
  have HG8 := hid (HG6.out.same hk)
  clear hk HK6 b6 HW6 HG6 d0 d1 d2 d3
  go_wp2_with fail
  refine (implMO_any sl s e c l a0 a1 a2 _ (HE.out.same HK8.out)).mono ?_
  rintro ex w9 ⟨v, rfl, aH, nH, cH, psH, rfl, hd, ho, hf, hk⟩
  obtain ⟨hlH, hsH⟩ := opsM_small hd
  have HEQ2 : Hid (dataO psH = dataO psW) := hd.trans hDW.out.symm
  have HSM2 : Hid (∀ p ∈ psH, p.bs.length ≤ 1125899906842624) := fun p hp => by have := sizeO_mem psH p hp; omega
  have HK9 := (show Hid (Same w w9) from HK8.out.trans hk)
  have HW9 := (show Hid (OwnO 0 76 5 w9 (.slice aW nW cW) psW) from HW8.out.same hk)
  have HG9 := hid (HG8.out.same hk)
  have HH9 := (show Hid (OwnO 0 76 62 w9 (.slice aH nH cH) psH) from ho)
  clear hk HK8 HW8 HG8 hf ho hd
  go_wp2_with fail
  refine (eqOpS_own 0 _ _ psH psW _ (by omega) HEQ2.out HSM2.out HH9.out HW9.out).mono ?_
  rintro ex w10 ⟨rfl, hk⟩
  have HK10 := (show Hid (Same w w10) from HK9.out.trans hk)
  have HG10 := hid (HG9.out.same hk)
  clear hk HK9 HW9 HG9 HH9
  go_wp2_with fail
  have hm := heldOpS_own 0 (.slice aG nG cG) psG 1 w10 (by omega) (by rw [HEN.out]; omega) (by omega) HG10.out
  rw [HEN.out] at hm
  refine hm.mono ?_
  clear hm
  rintro ex w11 ⟨rfl, rfl⟩
  go_wp2
  go_ret
  exact ⟨rfl, HK10.out⟩
end Go.Proofs.YtaiiffgbjabjgaaDoor

namespace Go.Proofs.YtaiiffgbjabjgaaDoor.fnExactMasterOps
open Go.ChangeShapes Go.WideShapes Go.ChangeAt Go.RowKit
set_option linter.unusedVariables false
theorem own : ownKnob Tryd.prog.godebug = none := by kernel_rfl
theorem laidOut : laidOutB Tryd.prog = true := by kernel_rfl
set_option maxRecDepth 100000 in
theorem lifted (os : Os) (started : os.Started) (H : Type) (enc : TypeId × Value → H) :
    ReturnsInHanded {} Tryd.checked os 7 .any (fun w args => (Rows.fnExactMasterOpsSpec.pre enc Tryd.prog Tryd.f7 [] false w args ∧ laidMetH Tryd.prog [L0, L1, L2] w) ∧ sizedMet enc Tryd.prog Tryd.f7 (OpenSpec.ofChange Rows.fnExactMasterOpsSpec) false w args)
      (Rows.fnExactMasterOpsSpec.post enc Tryd.prog Tryd.f7 false true false false) := by
  refine returnsInHanded_of_change_and (C := Tryd.checked) (X := fun w _ => laidMetH Tryd.prog [L0, L1, L2] w) (fun _ _ _ hh h => h.of_heap hh) own started (by kernel_rfl) Tryd.func7
    (ChangeSpec.witness_at (enc := enc) (C := Tryd.checked) (os := os) (X := fun w _ => laidMetH Tryd.prog [L0, L1, L2] w) false (laidWorld os) #[.int .i64 0, .agg #[.int .i64 0, .int .i64 0, .int .i64 0, .int .i64 0]] 8 rfl (by kernel_rfl) (by kernel_rfl) (by kernel_rfl) (by kernel_rfl) (by kernel_rfl) (laid_met3 os _)) ?_
  intro W base args ds gs before hval0 hW _ _ hL _
  have hval : ∀ (j : Nat) t v, Tryd.f7.params[j]? = some t → args[j]? = some v → Value.okWide Tryd.prog W .any base t v := hval0
  have hW' := hW
  obtain ⟨p, q, hA0, hV0, rfl, hfz, hnd⟩ := hW
  have hA : DataW.TrodAll enc Tryd.prog W 0 (fun _ => true) true Tryd.f7.params.toList args.toList ds p := hA0
  have hL' : laidMet Tryd.prog [L0, L1, L2] W := hL
  obtain ⟨a0, a1, a2, hv0, hv1, hv2, hE⟩ := laid3 hL'
  have hV : DataW.TrodVars enc Tryd.prog W (fun _ => true) [L0.1, L1.1, L2.1] gs q := hV0
  obtain ⟨rfl, rfl⟩ := hV.unique (vars3 enc hv0 hv1 hv2 _)
  rw [Tryd.params7] at hA hval
  obtain ⟨v0, vs0, d0, ds0, p0, q0, hargs, rfl, rfl, h0, r0⟩ := trodAll_cons hA
  obtain ⟨v1, vs1, d1, ds1, p1, q1, rfl, rfl, rfl, h1, r1⟩ := trodAll_cons r0
  obtain ⟨rfl, rfl, rfl⟩ := trodAll_nil r1
  obtain rfl : args = #[v0, v1] := by cases args; simp_all
  obtain ⟨b0, rfl, rfl, rfl, w0⟩ := open_int Tryd.underlying2 (hval 0 2 v0 rfl rfl) h0
  have k1 := h1
  have lt1 : ∀ x ∈ p1, x.block < W.heap.size := by obtain ⟨m, hm⟩ := k1; exact DataW.trod_lt m _ _ _ hm
  obtain ⟨s, e, c, l, rfl⟩ := open_master (hval 1 23 v1 rfl rfl) h1
  clear hA0 hval0
  refine (masterOps_law b0 s e c l a0 a1 a2 W (hE.errs) ).mono fun ex W' ⟨he, hk⟩ => ?_
  have bel : Below W.heap.size W W' := hk.below (Nat.le_refl _) (fun _ _ => id)
  subst he
  exact ⟨_, rfl, _, _, _, [], _, _, hW', trodAll_mk1 (shut_bool Tryd.underlying4 _), (trodAll_cons_mk (shut_int Tryd.underlying2 w0) (trodAll_cons_mk (Below.trod laidOut (by kernel_rfl) (of_decide_eq_true (by kernel_rfl)) k1 bel lt1) trodAll_mk0)), vars3 enc (var_same hk hv0) (var_same hk hv1) (var_same hk hv2) _, bel.frame _, fun h => by cases h⟩
theorem over : Rows.fnExactMasterOpsRow.holds Tryd.pinned (OpenSpec.ofChange Rows.fnExactMasterOpsSpec) :=
  OpenClaim.holds_of_wide 7 Tryd.f7 rfl rfl rfl rfl rfl rfl rfl ⟨rfl, rfl, rfl, rfl, rfl⟩ rfl rfl rfl rfl rfl (by kernel_rfl) Tryd.func7 (by kernel_rfl)
    (of_decide_eq_true (by kernel_rfl)) (by unfold Func.isWrapper; first | (rw [if_pos (by decide +kernel)]; kernel_rfl) | (rw [if_neg (by decide +kernel)]; exact ⟨rfl, rfl⟩))
    (fun os started H enc _ => lifted os started H enc)
end Go.Proofs.YtaiiffgbjabjgaaDoor.fnExactMasterOps
namespace Go.Proofs.YtaiiffgbjabjgaaDoor
open Go
theorem masterOps_proved : Rows.FnExactMasterOpsCardSaid :=
  Claim7.holds_tied_plain_at .later [] [.sentinel, .sentinel, .sentinel] true Rows.fnExactMasterOpsCard.stood.harness true
    fnExactMasterOps.over (fun _ h => by cases h) (by kernel_rfl) (fun _ h => by cases h) fnExactMasterOps_row_tie rfl ⟨rfl, rfl⟩ (by kernel_rfl) rfl
    (fun f fn hf hfn => by
      obtain rfl : f = 7 := Option.some.inj ((show Tryd.prog.funcNamed "loop.example/s02544/laws.FnExactMasterOps" = some 7 by kernel_rfl).symm.trans hf) |>.symm
      obtain rfl : fn = Tryd.f7 := (Option.some.inj (Tryd.func7.symm.trans hfn)).symm
      exact ⟨by kernel_rfl, fun j t ht => by
        rw [Tryd.params7] at ht
        have h3 : t = 2 ∨ t = 23 := by
          rcases j with _ | j
          · exact .inl (by simpa using ht.symm)
          · rcases j with _ | j
            · exact .inr (by simpa using ht.symm)
            · simp at ht
        rcases h3 with rfl | rfl
        · exact (show Tryd.prog.wantsStandIn 2 = false by kernel_rfl)
        · exact (show Tryd.prog.wantsStandIn 23 = false by kernel_rfl)⟩)
    (by kernel_rfl)
#print axioms masterOps_proved
end Go.Proofs.YtaiiffgbjabjgaaDoor
