import Derived.Test.YteacihpankkhkaaProg
import Derived.WalkKit
import Derived.WalkSpells
import Derived.Deep.Draws
import Derived.WalkLawsBesides
import Derived.Deep.QuietTactic
import Derived.BigQuiet
import Derived.Deep.LoopGhost
import Derived.Deep.RegionWith
import Derived.Deep.DeepMust
namespace Go.Proofs.Yteacihpankkhkaa
set_option maxHeartbeats 400000
open Go.RowKit
theorem hid {p : Prop} (h : p) : Hid p := h
structure Kept (R : Nat → Prop) (w w' : World) : Prop where
 os : w'.os = w.os
 tape : w'.tape = w.tape
 output : w'.output = w.output
 size : w.heap.size ≤ w'.heap.size
 block : ∀ k, k < w.heap.size → ¬ R k → w'.heap[k]? = w.heap[k]?
abbrev Same : World → World → Prop := Kept (fun _ => False)
theorem Kept.refl (R : Nat → Prop) (w : World) : Kept R w w := ⟨rfl, rfl, rfl, Nat.le_refl _, fun _ _ _ => rfl⟩
theorem Kept.trans {R : Nat → Prop} {a b c : World} (h : Kept R a b) (k : Kept R b c) : Kept R a c :=
 ⟨k.os.trans h.os, k.tape.trans h.tape, k.output.trans h.output, Nat.le_trans h.size k.size, fun i hi hr => (k.block i (Nat.lt_of_lt_of_le hi h.size) hr).trans (h.block i hi hr)⟩
theorem Kept.mono {R R' : Nat → Prop} {a b : World} (h : Kept R a b) (hr : ∀ k, k < a.heap.size → R k → R' k) : Kept R' a b :=
 ⟨h.os, h.tape, h.output, h.size, fun i hi hn => h.block i hi (fun hR => hn (hr i hi hR))⟩
theorem Kept.next {R R' : Nat → Prop} {a b c : World} (h : Kept R a b) (k : Kept R' b c) (hr : ∀ i, i < a.heap.size → R' i → R i) : Kept R a c :=
 ⟨k.os.trans h.os, k.tape.trans h.tape, k.output.trans h.output, Nat.le_trans h.size k.size, fun i hi hn => (k.block i (Nat.lt_of_lt_of_le hi h.size) (fun e => hn (hr i hi e))).trans (h.block i hi hn)⟩
theorem Kept.drewN {R : Nat → Prop} {a b : World} (h : Kept R a b) (n : Nat) : Kept R a (b.drewN n) := ⟨h.os, h.tape, h.output, h.size, h.block⟩
theorem Kept.drew {R : Nat → Prop} {a b : World} (h : Kept R a b) : Kept R a b.drew := ⟨h.os, h.tape, h.output, h.size, h.block⟩
theorem Kept.alloc {R : Nat → Prop} {a b : World} (h : Kept R a b) (o : Obj) : Kept R a (b.alloc o) :=
 h.trans ⟨rfl, rfl, rfl, by simp, fun k hk _ => Below.heap_alloc _ _ _ hk⟩
theorem Kept.setCell {R : Nat → Prop} {a b : World} (h : Kept R a b) {p : Addr} (hp : a.heap.size ≤ p.block ∨ R p.block) (u : Value) : Kept R a (b.setCell p u) := by
 refine ⟨h.os, h.tape, h.output, by simpa [World.setCell] using h.size, fun k hk hr => ?_⟩
 rw [Below.heap_setCell _ _ _ _ (fun e => by subst e; exact hp.elim (fun h1 => by omega) hr)]
 exact h.block k hk hr
theorem Kept.grown {R : Nat → Prop} {a b c : World} {row : Option Nat} (h : Kept R a b) (hg : b.grownBy c row) (hr : ∀ k, row = some k → a.heap.size ≤ k ∨ R k) : Kept R a c :=
 ⟨hg.os.trans h.os, hg.tape.trans h.tape, hg.output.trans h.output, Nat.le_trans h.size hg.size, fun k hk hn =>
  (hg.block k (Nat.lt_of_lt_of_le hk h.size) (fun e => (hr k e.symm).elim (fun h1 => by omega) hn)).trans (h.block k hk hn)⟩
theorem Kept.of_grown {R : Nat → Prop} {b c : World} {row : Option Nat} (hg : b.grownBy c row) (hr : ∀ k, row = some k → R k) : Kept R b c :=
 (Kept.refl R b).grown hg (fun k e => .inr (hr k e))
theorem Kept.below {R : Nat → Prop} {a b : World} (h : Kept R a b) {B : Nat} (hB : B ≤ a.heap.size) (hr : ∀ k, k < B → ¬ R k) : Below B a b :=
 ⟨h.os, h.tape, h.output, h.size, fun k hk => h.block k (Nat.lt_of_lt_of_le hk hB) (hr k hk)⟩
theorem Kept.heap {R : Nat → Prop} {a b : World} (h : Kept R a b) {k : Nat} {o : Obj} (hk : a.heap[k]? = some o) (hr : ¬ R k) : b.heap[k]? = some o := by
 rw [h.block k (Array.getElem?_eq_some_iff.1 hk).1 hr]; exact hk
theorem Kept.cell {R : Nat → Prop} {a b : World} (h : Kept R a b) {p : Addr} (hp : p.block < a.heap.size) (hr : ¬ R p.block) : b.cell? p = a.cell? p :=
 World.cell?_of_block (w := a) (h.block p.block hp hr)
theorem Kept.frozen {R : Nat → Prop} {a b : World} (h : Kept R a b) {p : Addr} (hp : p.block < a.heap.size) (hr : ¬ R p.block) : b.frozen? p = a.frozen? p :=
 World.frozen?_of_block (w := a) (h.block p.block hp hr)
theorem Kept.cellOf {R : Nat → Prop} {a b : World} (h : Kept R a b) {p : Addr} {v : Value} (hc : a.cell? p = some v) (hr : ¬ R p.block) : b.cell? p = some v :=
 (h.cell (World.block_lt_of_cell? a p hc) hr).trans hc
theorem Kept.owns {R : Nat → Prop} {w w' : World} (k : Kept R w w') {base : Nat} {e : TypeId} {size : Nat} {v : Value} {n : Nat} {xs : List Value} (h : w.ownsRow base e size v n xs)
  (hr : ∀ b, v.ownBlock = some b → ¬ R b) : w'.ownsRow base e size v n xs := by
 refine ⟨h.1, ?_⟩
 rcases h.2 with hn | ⟨g, cap, cur, rfl, hb, hgg, rest⟩
 ·exact .inl hn
 ·exact .inr ⟨g, cap, cur, rfl, hb, k.heap hgg (hr g rfl), rest⟩
def vals (k : IntKind) (bs : List Int) : List Value := bs.map (Value.int k)
theorem vals_length (k : IntKind) (bs : List Int) : (vals k bs).length = bs.length := by simp [vals]
theorem vals_at (k : IntKind) (bs : List Int) (j : Nat) (h : j < bs.length) : (vals k bs)[j]? = some (.int k (bs.getD j 0)) := by
 simp [vals, h, List.getD]
def Own (base : Nat) (e : TypeId) (k : IntKind) (w : World) (v : Value) (bs : List Int) : Prop := w.ownsRow base e 1 v bs.length (vals k bs)
theorem Own.form {base : Nat} {e : TypeId} {k : IntKind} {w : World} {v : Value} {bs : List Int} (h : Own base e k w v bs) :
  (v = .slice none 0 0 ∧ bs = []) ∨ ∃ g cap, v = .slice (some ⟨g, 0, none⟩) bs.length cap ∧ base ≤ g ∧ g < w.heap.size ∧ bs.length ≤ cap ∧ cap ≤ maxLen := by
 rcases h.2 with ⟨rfl, hn⟩ | ⟨g, cap, cur, rfl, hb, hgg, hc, hm, _⟩
 ·exact .inl ⟨rfl, List.length_eq_zero_iff.1 hn⟩
 ·exact .inr ⟨g, cap, rfl, hb, (Array.getElem?_eq_some_iff.1 hgg).1, hc, hm⟩
theorem Own.cell {base : Nat} {e : TypeId} {k : IntKind} {w : World} {g n cap : Nat} {bs : List Int} (h : Own base e k w (.slice (some ⟨g, 0, none⟩) n cap) bs) (hn : n = bs.length) (j : Nat) (hj : j < n) :
  w.cell? ⟨g, j, none⟩ = some (.int k (bs.getD j 0)) := by
 subst hn
 have := World.ownsRow.cellAt h j (by omega)
 rw [this, vals_at k bs j hj]
theorem Own.frozen {base : Nat} {e : TypeId} {k : IntKind} {w : World} {g n cap : Nat} {bs : List Int} (h : Own base e k w (.slice (some ⟨g, 0, none⟩) n cap) bs) (hn : n = bs.length) (j : Nat) :
  w.frozen? ⟨g, j, none⟩ = false := by
 subst hn
 exact World.ownsRow.frozenAt h j
theorem Own.kept {R : Nat → Prop} {base : Nat} {e : TypeId} {k : IntKind} {w w' : World} {v : Value} {bs : List Int} (h : Own base e k w v bs) (hk : Kept R w w') (hr : ∀ b, v.ownBlock = some b → ¬ R b) : Own base e k w' v bs :=
 hk.owns h hr
theorem Own.same {base : Nat} {e : TypeId} {k : IntKind} {w w' : World} {v : Value} {bs : List Int} (h : Own base e k w v bs) (hk : Same w w') : Own base e k w' v bs :=
 hk.owns h (fun _ _ => id)
theorem Own.stored {base : Nat} {e : TypeId} {k : IntKind} {w : World} {g n cap : Nat} {bs : List Int} (h : Own base e k w (.slice (some ⟨g, 0, none⟩) n cap) bs) (hn : n = bs.length) (j : Nat) (x : Int) :
  Own base e k (w.setCell ⟨g, j, none⟩ (.int k x)) (.slice (some ⟨g, 0, none⟩) n cap) (bs.set j x) := by
 subst hn
 have := (World.ownsRow.stored h j (.int k x)).1
 unfold Own
 rw [List.length_set]
 have e : vals k (bs.set j x) = (vals k bs).set j (.int k x) := by simp [vals]
 rw [e]
 exact this
theorem Own.lt {base : Nat} {e : TypeId} {k : IntKind} {w : World} {v : Value} {bs : List Int} (h : Own base e k w v bs) : ∀ b, v.ownBlock = some b → base ≤ b ∧ b < w.heap.size :=
 World.ownsRow.lt h
theorem Own.nil (base : Nat) (e : TypeId) (k : IntKind) (w : World) : Own base e k w (.slice none 0 0) [] := World.ownsRow_nil _ _ _ _
theorem Own.mono {base base' : Nat} {e : TypeId} {k : IntKind} {w : World} {v : Value} {bs : List Int} (h : Own base e k w v bs) (hb : ∀ b, v.ownBlock = some b → base' ≤ b) : Own base' e k w v bs := by
 refine ⟨h.1, ?_⟩
 rcases h.2 with hn | ⟨g, cap, cur, rfl, _, hgg, rest⟩
 ·exact .inl hn
 ·exact .inr ⟨g, cap, cur, rfl, hb g rfl, hgg, rest⟩
theorem slice_of_own {base : Nat} {e : TypeId} {k : IntKind} {w : World} {v : Value} {bs : List Int} (h : Own base e k w v bs) : ∃ aa na ca, v = .slice aa na ca := by
 rcases h.form with ⟨rfl, _⟩ | ⟨g, cap, rfl, _⟩ <;> exact ⟨_, _, _, rfl⟩
theorem news_of {w : World} {b off : Nat} {bs : List Int} (hc : ∀ i, i < bs.length → w.cell? ⟨b, off + i, none⟩ = some (.int .u8 (bs.getD i 0))) (j : Nat) (u : Value) (h : (vals .u8 bs)[j]? = some u) : w.cell? ((⟨b, off, none⟩ : Addr).add j) = some u := by
 have hj : j < bs.length := by have := (List.getElem?_eq_some_iff.1 h).1; rwa [vals_length] at this
 rw [vals_at _ _ _ hj] at h
 have e : (⟨b, off, none⟩ : Addr).add j = ⟨b, off + j, none⟩ := by
  unfold Addr.add
  split
  ·next h => subst h; rfl
  ·rfl
 rw [e, hc j hj]
 exact h
theorem vals_one {k : IntKind} {bs : List Int} (u : Value) (h : u ∈ vals k bs) : u.oneCell' = true := by
 obtain ⟨x, _, rfl⟩ := List.mem_map.1 h
 rfl
def marks (k : Int) (n : Nat) : List Int := (List.range n).map fun (i : Nat) => (k + (i : Int)) % 256
theorem marks_length (k : Int) (n : Nat) : (marks k n).length = n := by simp [marks]
theorem marks_at (k : Int) (n j : Nat) (h : j < n) : (marks k n).getD j 0 = (k + j) % 256 := by simp [marks, h, List.getD]
def part (k : Int) (bs : List Int) (j : Nat) : List Int := marks k j ++ bs.drop j
theorem part_length (k : Int) (bs : List Int) (j : Nat) (h : j ≤ bs.length) : (part k bs j).length = bs.length := by simp [part, marks_length]; omega
theorem part_zero (k : Int) (bs : List Int) : part k bs 0 = bs := by simp [part, marks]
theorem part_all (k : Int) (bs : List Int) : part k bs bs.length = marks k bs.length := by simp [part]
theorem part_step (k : Int) (bs : List Int) (j : Nat) (h : j < bs.length) : (part k bs j).set j ((k + j) % 256) = part k bs (j + 1) := by
 unfold part
 rw [List.set_append_right (h := by simp [marks_length]), marks_length, Nat.sub_self]
 have e : bs.drop j = bs[j] :: bs.drop (j + 1) := by rw [List.drop_eq_getElem_cons h]
 rw [e, List.set_cons_zero]
 simp [marks, List.range_succ]
/-! ### Pending writes: rows of two cells, a sector's number and a slice of bytes -/
structure PW where
 sec : Int
 v : Value
 bs : List Int
def pwCells : List PW → List Value
 | [] => []
 | p :: ps => .int .i64 p.sec :: p.v :: pwCells ps
theorem pwCells_length (ps : List PW) : (pwCells ps).length = ps.length * 2 := by
 induction ps with
 | nil => rfl
 | cons p ps ih => simp only [pwCells, List.length_cons, ih]; omega
theorem pwCells_append (ps qs : List PW) : pwCells (ps ++ qs) = pwCells ps ++ pwCells qs := by
 induction ps with
 | nil => rfl
 | cons p ps ih => simp [pwCells, ih]
theorem pwCells_sec (ps : List PW) (j : Nat) (h : j < ps.length) : (pwCells ps)[j * 2]? = some (.int .i64 ps[j].sec) := by
 induction ps generalizing j with
 | nil => simp at h
 | cons p ps ih =>
  cases j with
  | zero => simp [pwCells]
  | succ j => have := ih j (by simpa using h); rw [show (j + 1) * 2 = j * 2 + 1 + 1 from by omega]; simpa [pwCells] using this
theorem pwCells_v (ps : List PW) (j : Nat) (h : j < ps.length) : (pwCells ps)[j * 2 + 1]? = some ps[j].v := by
 induction ps generalizing j with
 | nil => simp at h
 | cons p ps ih =>
  cases j with
  | zero => simp [pwCells]
  | succ j => have := ih j (by simpa using h); rw [show (j + 1) * 2 + 1 = j * 2 + 1 + 1 + 1 from by omega]; simpa [pwCells] using this
def Apart (v u : Value) : Prop := ∀ b, v.ownBlock = some b → u.ownBlock ≠ some b
theorem Apart.symm {v u : Value} (h : Apart v u) : Apart u v := fun b hb hv => h b hv hb
structure OwnP (base : Nat) (tw tb : TypeId) (w : World) (v : Value) (ps : List PW) : Prop where
 row : w.ownsRow base tw 2 v ps.length (pwCells ps)
 data : ∀ p ∈ ps, Own base tb .u8 w p.v p.bs
 out : ∀ u ∈ ps.map PW.v, Apart v u
 each : (ps.map PW.v).Pairwise Apart
def footP (v : Value) (ps : List PW) (b : Nat) : Prop := v.ownBlock = some b ∨ ∃ p ∈ ps, p.v.ownBlock = some b
theorem OwnP.form {base : Nat} {tw tb : TypeId} {w : World} {v : Value} {ps : List PW} (h : OwnP base tw tb w v ps) :
  (v = .slice none 0 0 ∧ ps = []) ∨ ∃ g cap, v = .slice (some ⟨g, 0, none⟩) ps.length cap ∧ base ≤ g ∧ g < w.heap.size ∧ ps.length ≤ cap ∧ cap ≤ maxLen := by
 rcases h.row.2 with ⟨rfl, hn⟩ | ⟨g, cap, cur, rfl, hb, hgg, hc, hm, _⟩
 ·exact .inl ⟨rfl, List.length_eq_zero_iff.1 hn⟩
 ·exact .inr ⟨g, cap, rfl, hb, (Array.getElem?_eq_some_iff.1 hgg).1, hc, hm⟩
theorem OwnP.lt {base : Nat} {tw tb : TypeId} {w : World} {v : Value} {ps : List PW} (h : OwnP base tw tb w v ps) (b : Nat) (hb : footP v ps b) : base ≤ b ∧ b < w.heap.size := by
 rcases hb with hb | ⟨p, hp, hb⟩
 ·exact World.ownsRow.lt h.row b hb
 ·exact (h.data p hp).lt b hb
theorem OwnP.sec {base : Nat} {tw tb : TypeId} {w : World} {g n cap : Nat} {ps : List PW} (h : OwnP base tw tb w (.slice (some ⟨g, 0, none⟩) n cap) ps) (hn : n = ps.length) (j : Nat) (hj : j < ps.length) :
  w.cell? ⟨g, j * 2, none⟩ = some (.int .i64 ps[j].sec) := by
 subst hn
 rw [World.ownsRow.cellAt h.row (j * 2) (by omega), pwCells_sec ps j hj]
theorem OwnP.val {base : Nat} {tw tb : TypeId} {w : World} {g n cap : Nat} {ps : List PW} (h : OwnP base tw tb w (.slice (some ⟨g, 0, none⟩) n cap) ps) (hn : n = ps.length) (j : Nat) (hj : j < ps.length) :
  w.cell? ⟨g, j * 2 + 1, none⟩ = some ps[j].v := by
 subst hn
 rw [World.ownsRow.cellAt h.row (j * 2 + 1) (by omega), pwCells_v ps j hj]
theorem OwnP.frozen {base : Nat} {tw tb : TypeId} {w : World} {g n cap : Nat} {ps : List PW} (h : OwnP base tw tb w (.slice (some ⟨g, 0, none⟩) n cap) ps) (hn : n = ps.length) (j : Nat) :
  w.frozen? ⟨g, j, none⟩ = false := by
 subst hn
 exact World.ownsRow.frozenAt h.row j
theorem OwnP.kept {R : Nat → Prop} {base : Nat} {tw tb : TypeId} {w w' : World} {v : Value} {ps : List PW} (h : OwnP base tw tb w v ps) (hk : Kept R w w') (hr : ∀ b, footP v ps b → ¬ R b) : OwnP base tw tb w' v ps :=
 ⟨hk.owns h.row (fun b hb => hr b (.inl hb)), fun p hp => (h.data p hp).kept hk (fun b hb => hr b (.inr ⟨p, hp, hb⟩)), h.out, h.each⟩
theorem OwnP.same {base : Nat} {tw tb : TypeId} {w w' : World} {v : Value} {ps : List PW} (h : OwnP base tw tb w v ps) (hk : Same w w') : OwnP base tw tb w' v ps :=
 h.kept hk (fun _ _ => id)
theorem OwnP.nil (base : Nat) (tw tb : TypeId) (w : World) : OwnP base tw tb w (.slice none 0 0) [] :=
 ⟨World.ownsRow_nil _ _ _ _, fun _ h => by simp at h, fun _ h => by simp at h, List.Pairwise.nil⟩
def markP : Int → List PW → List PW
 | _, [] => []
 | k, p :: ps => ⟨k, p.v, marks (k + 1) p.bs.length⟩ :: markP (k + 1 + p.bs.length) ps
def endP : Int → List PW → Int
 | k, [] => k
 | k, p :: ps => endP (k + 1 + p.bs.length) ps
theorem markP_length (k : Int) (ps : List PW) : (markP k ps).length = ps.length := by
 induction ps generalizing k with
 | nil => rfl
 | cons p ps ih => simp [markP, ih]
theorem endP_le (k : Int) (ps : List PW) : k ≤ endP k ps := by
 induction ps generalizing k with
 | nil => exact Int.le_refl _
 | cons p ps ih => have := ih (k + 1 + p.bs.length); simp only [endP]; omega
theorem endP_snoc (k : Int) (ps : List PW) (p : PW) : endP k (ps ++ [p]) = endP k ps + 1 + p.bs.length := by
 induction ps generalizing k with
 | nil => rfl
 | cons q ps ih => simp only [List.cons_append, endP, ih]
theorem endP_append (k : Int) (ps qs : List PW) : endP k (ps ++ qs) = endP (endP k ps) qs := by
 induction ps generalizing k with
 | nil => rfl
 | cons q ps ih => simp only [List.cons_append, endP, ih]
theorem markP_snoc (k : Int) (ps : List PW) (p : PW) : markP k (ps ++ [p]) = markP k ps ++ [⟨endP k ps, p.v, marks (endP k ps + 1) p.bs.length⟩] := by
 induction ps generalizing k with
 | nil => rfl
 | cons q ps ih => simp only [List.cons_append, markP, endP, ih]
theorem markP_v (k : Int) (ps : List PW) : (markP k ps).map PW.v = ps.map PW.v := by
 induction ps generalizing k with
 | nil => rfl
 | cons q ps ih => simp only [markP, List.map_cons, ih]
theorem markP_at (k : Int) (ps : List PW) (j : Nat) (h : j < ps.length) (h' : j < (markP k ps).length) : (markP k ps)[j] = ⟨endP k (ps.take j), ps[j].v, marks (endP k (ps.take j) + 1) ps[j].bs.length⟩ := by
 induction ps generalizing k j with
 | nil => simp at h
 | cons q ps ih =>
  cases j with
  | zero => rfl
  | succ j => simp only [markP, List.getElem_cons_succ, List.take_succ_cons, endP]; exact ih _ _ (by simpa using h) _
theorem footP_v {v : Value} {ps qs : List PW} (h : ps.map PW.v = qs.map PW.v) (b : Nat) : footP v ps b ↔ footP v qs b := by
 have key : ∀ rs : List PW, (∃ p ∈ rs, p.v.ownBlock = some b) ↔ ∃ u ∈ rs.map PW.v, u.ownBlock = some b := fun rs => by
  simp only [List.mem_map]
  exact ⟨fun ⟨p, hp, hb⟩ => ⟨_, ⟨p, hp, rfl⟩, hb⟩, fun ⟨_, ⟨p, hp, rfl⟩, hb⟩ => ⟨p, hp, hb⟩⟩
 unfold footP
 rw [key, key, h]
def partP (k : Int) (ps : List PW) (j : Nat) : List PW := markP k (ps.take j) ++ ps.drop j
theorem partP_length (k : Int) (ps : List PW) (j : Nat) : (partP k ps j).length = ps.length := by simp [partP, markP_length]; omega
theorem partP_v (k : Int) (ps : List PW) (j : Nat) : (partP k ps j).map PW.v = ps.map PW.v := by
 simp only [partP, List.map_append, markP_v]
 rw [← List.map_append, List.take_append_drop]
theorem partP_zero (k : Int) (ps : List PW) : partP k ps 0 = ps := by simp [partP, markP]
theorem partP_all (k : Int) (ps : List PW) : partP k ps ps.length = markP k ps := by simp [partP]
theorem partP_at (k : Int) (ps : List PW) (j : Nat) (h : j < ps.length) : partP k ps j = markP k (ps.take j) ++ ps[j] :: ps.drop (j + 1) := by
 unfold partP
 rw [List.drop_eq_getElem_cons h]
theorem partP_step (k : Int) (ps : List PW) (j : Nat) (h : j < ps.length) :
  partP k ps (j + 1) = markP k (ps.take j) ++ ⟨endP k (ps.take j), ps[j].v, marks (endP k (ps.take j) + 1) ps[j].bs.length⟩ :: ps.drop (j + 1) := by
 unfold partP
 rw [List.take_succ_eq_append_getElem h, markP_snoc, List.append_assoc]
 rfl
theorem endP_step (k : Int) (ps : List PW) (j : Nat) (h : j < ps.length) : endP k (ps.take (j + 1)) = endP k (ps.take j) + 1 + ps[j].bs.length := by
 rw [List.take_succ_eq_append_getElem h, endP_snoc]
theorem endP_take_le (k : Int) (ps : List PW) (j : Nat) : endP k (ps.take j) ≤ endP k ps := by
 have h := endP_append k (ps.take j) (ps.drop j)
 rw [List.take_append_drop] at h
 rw [h]
 exact endP_le _ _
theorem OwnP.setSec {base : Nat} {tw tb : TypeId} {w : World} {g n cap : Nat} {pre post : List PW} {p : PW} (h : OwnP base tw tb w (.slice (some ⟨g, 0, none⟩) n cap) (pre ++ p :: post)) (hn : n = (pre ++ p :: post).length) (K : Int) (j : Nat) (hj : j = pre.length * 2) :
  OwnP base tw tb (w.setCell ⟨g, j, none⟩ (.int .i64 K)) (.slice (some ⟨g, 0, none⟩) n cap) (pre ++ ⟨K, p.v, p.bs⟩ :: post) := by
 subst hn hj
 have hk : Kept (fun b => b = g) w (w.setCell ⟨g, pre.length * 2, none⟩ (.int .i64 K)) := Kept.setCell (Kept.refl (fun b => b = g) w) (p := ⟨g, pre.length * 2, none⟩) (.inr rfl) _
 have hmap : (pre ++ (⟨K, p.v, p.bs⟩ : PW) :: post).map PW.v = (pre ++ p :: post).map PW.v := by simp
 refine ⟨?_, fun q hq => ?_, by rw [hmap]; exact h.out, by rw [hmap]; exact h.each⟩
 ·have hs := (World.ownsRow.stored h.row (pre.length * 2) (.int .i64 K)).1
  have e : pwCells (pre ++ (⟨K, p.v, p.bs⟩ : PW) :: post) = (pwCells (pre ++ p :: post)).set (pre.length * 2) (.int .i64 K) := by
   rw [pwCells_append, pwCells_append, List.set_append_right (h := by rw [pwCells_length]; omega), pwCells_length, Nat.sub_self]
   rfl
  rw [e]
  simpa using hs
 ·have hq' : ∃ q' ∈ pre ++ p :: post, q'.v = q.v ∧ q'.bs = q.bs := by
   rcases List.mem_append.1 hq with hq | hq
   ·exact ⟨q, by simp [hq], rfl, rfl⟩
   ·rcases List.mem_cons.1 hq with rfl | hq
    ·exact ⟨p, by simp, rfl, rfl⟩
    ·exact ⟨q, by simp [hq], rfl, rfl⟩
  obtain ⟨q', hm, e1, e2⟩ := hq'
  have hd := h.data q' hm
  rw [e1, e2] at hd
  refine hd.kept hk (fun b hb e => ?_)
  subst e
  exact h.out q.v (by rw [← e1]; exact List.mem_map_of_mem hm) b rfl hb
theorem OwnP.setData {base : Nat} {tw tb : TypeId} {w w' : World} {v : Value} {pre post : List PW} {p : PW} {bs : List Int} (h : OwnP base tw tb w v (pre ++ p :: post))
  (hk : Kept (fun b => p.v.ownBlock = some b) w w') (ho : Own base tb .u8 w' p.v bs) : OwnP base tw tb w' v (pre ++ ⟨p.sec, p.v, bs⟩ :: post) := by
 have hmap : (pre ++ (⟨p.sec, p.v, bs⟩ : PW) :: post).map PW.v = (pre ++ p :: post).map PW.v := by simp
 have hcells : pwCells (pre ++ (⟨p.sec, p.v, bs⟩ : PW) :: post) = pwCells (pre ++ p :: post) := by rw [pwCells_append, pwCells_append]; rfl
 have hlen : (pre ++ (⟨p.sec, p.v, bs⟩ : PW) :: post).length = (pre ++ p :: post).length := by simp
 have hea := h.each
 rw [List.map_append, List.map_cons] at hea
 obtain ⟨_, h2, h3⟩ := List.pairwise_append.1 hea
 have h4 := List.pairwise_cons.1 h2
 refine ⟨?_, fun q hq => ?_, by rw [hmap]; exact h.out, by rw [hmap]; exact h.each⟩
 ·rw [hcells, hlen]
  exact hk.owns h.row (fun b hb e => h.out p.v (by simp) b hb e)
 ·rcases List.mem_append.1 hq with hq | hq
  ·exact (h.data q (by simp [hq])).kept hk (fun b hb e => h3 q.v (List.mem_map_of_mem hq) p.v (by simp) b hb e)
  ·rcases List.mem_cons.1 hq with rfl | hq
   ·exact ho
   ·exact (h.data q (by simp [hq])).kept hk (fun b hb e => h4.1 q.v (List.mem_map_of_mem hq) b e hb)
theorem OwnP.setBoth {base : Nat} {tw tb : TypeId} {w : World} {g n cap : Nat} {pre post : List PW} {p : PW} (h : OwnP base tw tb w (.slice (some ⟨g, 0, none⟩) n cap) (pre ++ p :: post)) (hn : n = (pre ++ p :: post).length)
  (K : Int) (u : Value) (bs : List Int) (j : Nat) (hj : j = pre.length * 2) (hu : Own base tb .u8 w u bs) (hf : ∀ b, u.ownBlock = some b → ¬ footP (.slice (some ⟨g, 0, none⟩) n cap) (pre ++ p :: post) b) :
  OwnP base tw tb ((w.setCell ⟨g, j, none⟩ (.int .i64 K)).setCell ⟨g, j + 1, none⟩ u) (.slice (some ⟨g, 0, none⟩) n cap) (pre ++ ⟨K, u, bs⟩ :: post) := by
 subst hn hj
 have hk : Kept (fun b => b = g) w ((w.setCell ⟨g, pre.length * 2, none⟩ (.int .i64 K)).setCell ⟨g, pre.length * 2 + 1, none⟩ u) :=
  Kept.setCell (Kept.setCell (Kept.refl (fun b => b = g) w) (p := ⟨g, pre.length * 2, none⟩) (.inr rfl) _) (p := ⟨g, pre.length * 2 + 1, none⟩) (.inr rfl) _
 have hug : ∀ b, u.ownBlock = some b → ¬ b = g := fun b hb e => hf b hb (.inl (by rw [e]; rfl))
 have hold : ∀ q ∈ pre ++ post, q ∈ pre ++ p :: post := fun q hq => by
  rcases List.mem_append.1 hq with hq | hq
  ·simp [hq]
  ·simp [hq]
 have hea := h.each
 rw [List.map_append, List.map_cons] at hea
 obtain ⟨h1, h2, h3⟩ := List.pairwise_append.1 hea
 have h4 := List.pairwise_cons.1 h2
 refine ⟨?_, fun q hq => ?_, ?_, ?_⟩
 ·have hs := (World.ownsRow.stored (World.ownsRow.stored h.row (pre.length * 2) (.int .i64 K)).1 (pre.length * 2 + 1) u).1
  have e : pwCells (pre ++ (⟨K, u, bs⟩ : PW) :: post) = ((pwCells (pre ++ p :: post)).set (pre.length * 2) (.int .i64 K)).set (pre.length * 2 + 1) u := by
   rw [pwCells_append, pwCells_append, List.set_append_right (h := by rw [pwCells_length]; omega), pwCells_length, Nat.sub_self,
    List.set_append_right (h := by rw [pwCells_length]; omega), pwCells_length, Nat.add_sub_cancel_left]
   rfl
  rw [e]
  simpa using hs
 ·have hd : ∀ q ∈ pre ++ post, Own base tb .u8 ((w.setCell ⟨g, pre.length * 2, none⟩ (.int .i64 K)).setCell ⟨g, pre.length * 2 + 1, none⟩ u) q.v q.bs := fun q hq =>
   (h.data q (hold q hq)).kept hk (fun b hb e => h.out q.v (List.mem_map_of_mem (hold q hq)) b (by rw [e]; rfl) hb)
  rcases List.mem_append.1 hq with hq | hq
  ·exact hd q (by simp [hq])
  ·rcases List.mem_cons.1 hq with rfl | hq
   ·exact hu.kept hk hug
   ·exact hd q (by simp [hq])
 ·intro x hx
  rw [List.map_append, List.map_cons] at hx
  have hx' : x ∈ (pre ++ post).map PW.v ∨ x = u := by
   simp only [List.mem_append, List.mem_cons, List.map_append] at hx ⊢
   rcases hx with hx | hx | hx
   ·exact .inl (.inl hx)
   ·exact .inr hx
   ·exact .inl (.inr hx)
  rcases hx' with hx' | rfl
  ·obtain ⟨q, hq, rfl⟩ := List.mem_map.1 hx'
   exact h.out q.v (List.mem_map_of_mem (hold q hq))
  ·exact fun b hb hu' => hf b hu' (.inl hb)
 ·rw [List.map_append, List.map_cons]
  have hua : ∀ q ∈ pre ++ post, Apart u q.v := fun q hq b hb hq' => hf b hb (.inr ⟨q, hold q hq, hq'⟩)
  refine List.pairwise_append.2 ⟨h1, List.pairwise_cons.2 ⟨fun x hx => ?_, h4.2⟩, fun x hx y hy => ?_⟩
  ·obtain ⟨q, hq, rfl⟩ := List.mem_map.1 hx
   exact hua q (by simp [hq])
  ·obtain ⟨q, hq, rfl⟩ := List.mem_map.1 hx
   rcases List.mem_cons.1 hy with rfl | hy
   ·exact (hua q (by simp [hq])).symm
   ·exact h3 q.v hx y (List.mem_cons_of_mem _ hy)
theorem partP_vAt (k : Int) (ps : List PW) (j i : Nat) (h : i < ps.length) (h' : i < (partP k ps j).length) : (partP k ps j)[i].v = ps[i].v := by
 have e : ((partP k ps j).map PW.v)[i]'(by simpa using h') = (ps.map PW.v)[i]'(by simpa using h) := by simp only [partP_v]
 simpa using e
def dataP (ps : List PW) : List (Int × List Int) := ps.map fun p => (p.sec, p.bs)
theorem dataP_length (ps : List PW) : (dataP ps).length = ps.length := by simp [dataP]
theorem dataP_at {ps qs : List PW} (h : dataP ps = dataP qs) (i : Nat) (h1 : i < ps.length) (h2 : i < qs.length) : ps[i].sec = qs[i].sec ∧ ps[i].bs = qs[i].bs := by
 have e : (dataP ps)[i]'(by simpa [dataP] using h1) = (dataP qs)[i]'(by simpa [dataP] using h2) := by simp only [h]
 simpa [dataP] using e
structure OwnD (base : Nat) (tw tb : TypeId) (w : World) (dv pv : Value) (dur : List Int) (ps : List PW) : Prop where
 dur : Own base tb .u8 w dv dur
 pend : OwnP base tw tb w pv ps
 apart : ∀ b, footP pv ps b → dv.ownBlock ≠ some b
def footD (dv pv : Value) (ps : List PW) (b : Nat) : Prop := dv.ownBlock = some b ∨ footP pv ps b
theorem OwnD.kept {R : Nat → Prop} {base : Nat} {tw tb : TypeId} {w w' : World} {dv pv : Value} {dur : List Int} {ps : List PW} (h : OwnD base tw tb w dv pv dur ps) (hk : Kept R w w') (hr : ∀ b, footD dv pv ps b → ¬ R b) : OwnD base tw tb w' dv pv dur ps :=
 ⟨h.dur.kept hk (fun b hb => hr b (.inl hb)), h.pend.kept hk (fun b hb => hr b (.inr hb)), h.apart⟩
theorem OwnD.same {base : Nat} {tw tb : TypeId} {w w' : World} {dv pv : Value} {dur : List Int} {ps : List PW} (h : OwnD base tw tb w dv pv dur ps) (hk : Same w w') : OwnD base tw tb w' dv pv dur ps :=
 h.kept hk (fun _ _ => id)
theorem OwnD.lt {base : Nat} {tw tb : TypeId} {w : World} {dv pv : Value} {dur : List Int} {ps : List PW} (h : OwnD base tw tb w dv pv dur ps) (b : Nat) (hb : footD dv pv ps b) : base ≤ b ∧ b < w.heap.size := by
 rcases hb with hb | hb
 ·exact h.dur.lt b hb
 ·exact h.pend.lt b hb
theorem kept_two {R : Nat → Prop} {w w1 : World} {x y : Value} {t : TypeId} (hk : Kept R (w.alloc (.cells #[x, y] t)) w1) (hr : ¬ R w.heap.size) :
  w1.cell? ⟨w.heap.size, 0, none⟩ = some x ∧ w1.cell? ⟨w.heap.size, 1, none⟩ = some y ∧ w1.frozen? ⟨w.heap.size, 0, none⟩ = false ∧ w1.frozen? ⟨w.heap.size, 1, none⟩ = false ∧ w.heap.size < w1.heap.size := by
 have hs := hk.size
 have e1 := hk.cell (p := ⟨w.heap.size, 0, none⟩) (by simp) hr
 have e2 := hk.cell (p := ⟨w.heap.size, 1, none⟩) (by simp) hr
 have e3 := hk.frozen (p := ⟨w.heap.size, 0, none⟩) (by simp) hr
 have e4 := hk.frozen (p := ⟨w.heap.size, 1, none⟩) (by simp) hr
 refine ⟨by rw [e1]; simp, by rw [e2]; simp, by rw [e3]; simp, by rw [e4]; simp, by simp at hs; omega⟩
def Box (w : World) (B : Nat) (x y : Value) : Prop := w.cell? ⟨B, 0, none⟩ = some x ∧ w.cell? ⟨B, 1, none⟩ = some y
theorem Box.new (w : World) (x y : Value) (t : TypeId) : Box (w.alloc (.cells #[x, y] t)) w.heap.size x y := ⟨by simp, by simp⟩
theorem Box.kept {R : Nat → Prop} {w w' : World} {B : Nat} {x y : Value} (h : Box w B x y) (hk : Kept R w w') (hr : ¬ R B) : Box w' B x y :=
 ⟨hk.cellOf h.1 hr, hk.cellOf h.2 hr⟩
theorem Box.same {w w' : World} {B : Nat} {x y : Value} (h : Box w B x y) (hk : Same w w') : Box w' B x y := h.kept hk id
theorem Box.lt {w : World} {B : Nat} {x y : Value} (h : Box w B x y) : B < w.heap.size := World.block_lt_of_cell? w ⟨B, 0, none⟩ h.1
def FBox (w : World) (B : Nat) (x y : Value) : Prop := w.cell? ⟨B, 0, none⟩ = some x ∧ w.cell? ⟨B, 1, none⟩ = some y ∧ w.frozen? ⟨B, 0, none⟩ = false ∧ w.frozen? ⟨B, 1, none⟩ = false
theorem FBox.kept {R : Nat → Prop} {w w' : World} {B : Nat} {x y : Value} (h : FBox w B x y) (hk : Kept R w w') (hr : ¬ R B) : FBox w' B x y := by
 have hl := World.block_lt_of_cell? w ⟨B, 0, none⟩ h.1
 exact ⟨hk.cellOf h.1 hr, hk.cellOf h.2.1 hr, (hk.frozen (p := ⟨B, 0, none⟩) hl hr).trans h.2.2.1, (hk.frozen (p := ⟨B, 1, none⟩) hl hr).trans h.2.2.2⟩
theorem FBox.same {w w' : World} {B : Nat} {x y : Value} (h : FBox w B x y) (hk : Same w w') : FBox w' B x y := h.kept hk id
theorem FBox.new (w : World) (x y : Value) (t : TypeId) : FBox (w.alloc (.cells #[x, y] t)) w.heap.size x y := ⟨by simp, by simp, by simp, by simp⟩
theorem FBox.next {w : World} {B : Nat} {x y : Value} (h : FBox w B x y) (o : Obj) : FBox (w.alloc o) B x y := h.same ((Kept.refl _ _).alloc _)
theorem FBox.lt {w : World} {B : Nat} {x y : Value} (h : FBox w B x y) : B < w.heap.size := World.block_lt_of_cell? w ⟨B, 0, none⟩ h.1
theorem frozen_setCell (w : World) (a p : Addr) (u : Value) : (w.setCell a u).frozen? p = w.frozen? p := by simp
theorem FBox.set0 {w : World} {B : Nat} {x y : Value} (h : FBox w B x y) (u : Value) : FBox (w.setCell ⟨B, 0, none⟩ u) B u y :=
 ⟨World.cell?_setCell_same _ _ _ h.1, (World.cell?_setCell_other _ _ _ _ (by simp)).trans h.2.1, (frozen_setCell _ _ _ _).trans h.2.2.1, (frozen_setCell _ _ _ _).trans h.2.2.2⟩
theorem FBox.set1 {w : World} {B : Nat} {x y : Value} (h : FBox w B x y) (u : Value) : FBox (w.setCell ⟨B, 1, none⟩ u) B x u :=
 ⟨(World.cell?_setCell_other _ _ _ _ (by simp)).trans h.1, World.cell?_setCell_same _ _ _ h.2.1, (frozen_setCell _ _ _ _).trans h.2.2.1, (frozen_setCell _ _ _ _).trans h.2.2.2⟩
theorem FBox.other {w : World} {B : Nat} {x y : Value} (h : FBox w B x y) (a : Addr) (ha : a.block ≠ B) (u : Value) : FBox (w.setCell a u) B x y :=
 h.kept (Kept.setCell (Kept.refl (fun b => b = a.block) w) (p := a) (.inr rfl) u) (fun e => ha e.symm)
theorem Kept.setTwo {R : Nat → Prop} {a b : World} (h : Kept R a b) {B : Nat} (hp : a.heap.size ≤ B ∨ R B) (u v : Value) : Kept R a ((b.setCell ⟨B, 0, none⟩ u).setCell ⟨B, 1, none⟩ v) :=
 Kept.setCell (p := ⟨B, 1, none⟩) (Kept.setCell (p := ⟨B, 0, none⟩) h hp u) hp v
theorem own_made {base : Nat} {e : TypeId} {w : World} {v : Value} {k : IntKind} {n : Nat} (h : w.ownsRow base e 1 v n (madeCells (Value.int k 0).cells (n * 1)).toList) : Own base e k w v (List.replicate n 0) := by
 unfold Own vals
 rw [List.map_replicate, List.length_replicate, ← toList_madeCells_one]
 simpa [Value.cells] using h
theorem footP_nil (b : Nat) : ¬ footP (.slice none 0 0) [] b := by
 rintro (h | ⟨p, hp, _⟩)
 ·simp [Value.ownBlock] at h
 ·simp at hp
def zeroPW : PW := ⟨0, .slice none 0 0, []⟩
theorem own_madeP {base : Nat} {tw tb : TypeId} {w : World} {v : Value} {n : Nat} (h : w.ownsRow base tw 2 v n (madeCells (Value.agg #[.int .i64 0, .slice none 0 0]).cells (n * 2)).toList) : OwnP base tw tb w v (List.replicate n zeroPW) := by
 have e : pwCells (List.replicate n zeroPW) = (madeCells (Value.agg #[.int .i64 0, .slice none 0 0]).cells (n * 2)).toList := by
  apply List.ext_getElem?
  intro j
  by_cases hj : j < n * 2
  ·have hl : j / 2 < (List.replicate n zeroPW).length := by simp; omega
   rcases Nat.mod_two_eq_zero_or_one j with h0 | h1
   ·have h2 := pwCells_sec _ (j / 2) hl
    rw [show j / 2 * 2 = j from by omega] at h2
    rw [h2]
    simp [madeCells, hj, h0, Value.cells, zeroPW]
   ·have h2 := pwCells_v _ (j / 2) hl
    rw [show j / 2 * 2 + 1 = j from by omega] at h2
    rw [h2]
    simp [madeCells, hj, h1, Value.cells, zeroPW]
  ·rw [List.getElem?_eq_none (by rw [pwCells_length]; simp; omega), List.getElem?_eq_none (by simp [madeCells]; omega)]
 refine ⟨?_, fun p hp => ?_, fun u hu => ?_, ?_⟩
 ·rw [e, List.length_replicate]; exact h
 ·rw [List.eq_of_mem_replicate hp]; exact Own.nil _ _ _ _
 ·rw [List.map_replicate] at hu
  rw [List.eq_of_mem_replicate hu]
  intro b _ hb
  simp [zeroPW, Value.ownBlock] at hb
 ·rw [List.map_replicate]
  refine List.pairwise_replicate.2 (.inr fun b hb => ?_)
  simp [zeroPW, Value.ownBlock] at hb
theorem OwnP.snoc {base : Nat} {tw tb : TypeId} {w w' : World} {v u : Value} {qs : List PW} {g n cap : Nat} {sec : Int} {bs : List Int} (h : OwnP base tw tb w v qs) (hu : Own base tb .u8 w u bs) (huf : ∀ b, u.ownBlock = some b → ¬ footP v qs b)
  (hg : w.grownBy w' v.ownBlock) (hrow : w'.ownsRow base tw 2 (.slice (some ⟨g, 0, none⟩) (n + 1) cap) (n + 1) (pwCells qs ++ [.int .i64 sec, u])) (hn : n = qs.length) (hat : v.ownBlock = some g ∨ g = w.heap.size) :
  OwnP base tw tb w' (.slice (some ⟨g, 0, none⟩) (n + 1) cap) (qs ++ [⟨sec, u, bs⟩]) := by
 have hk : Kept (fun b => v.ownBlock = some b) w w' := Kept.of_grown hg (fun k e => e)
 have hul : ∀ b, u.ownBlock = some b → b < w.heap.size := fun b hb => (hu.lt b hb).2
 have hgu : u.ownBlock ≠ some g := fun e => by
  rcases hat with hat | hat
  ·exact huf g e (.inl hat)
  ·have := hul g e; omega
 have hgp : ∀ p ∈ qs, p.v.ownBlock ≠ some g := fun p hp e => by
  rcases hat with hat | hat
  ·exact h.out p.v (List.mem_map_of_mem hp) g hat e
  ·have := (h.lt g (.inr ⟨p, hp, e⟩)).2; omega
 refine ⟨?_, fun p hp => ?_, fun x hx => ?_, ?_⟩
 ·have e : pwCells (qs ++ [(⟨sec, u, bs⟩ : PW)]) = pwCells qs ++ [.int .i64 sec, u] := by rw [pwCells_append]; rfl
  rw [e, List.length_append, List.length_singleton, ← hn]
  exact hrow
 ·rcases List.mem_append.1 hp with hp | hp
  ·exact (h.data p hp).kept hk (fun b hb e => h.out p.v (List.mem_map_of_mem hp) b e hb)
  ·simp at hp
   subst hp
   exact hu.kept hk (fun b hb e => huf b hb (.inl e))
 ·rw [List.map_append, List.mem_append] at hx
  intro b hb
  have hb' : b = g := by simpa [Value.ownBlock] using hb.symm
  subst hb'
  rcases hx with hx | hx
  ·obtain ⟨p, hp, rfl⟩ := List.mem_map.1 hx
   exact hgp p hp
  ·simp at hx
   subst hx
   exact hgu
 ·rw [List.map_append]
  refine List.pairwise_append.2 ⟨h.each, by simp, fun x hx y hy => ?_⟩
  obtain ⟨p, hp, rfl⟩ := List.mem_map.1 hx
  simp at hy
  subst hy
  exact fun b hb hb' => huf b hb' (.inr ⟨p, hp, hb⟩)
theorem footP_snoc {v : Value} {qs : List PW} {g n cap : Nat} {sec : Int} {u : Value} {bs : List Int} (b : Nat) (hb : footP (.slice (some ⟨g, 0, none⟩) n cap) (qs ++ [⟨sec, u, bs⟩]) b) : b = g ∨ footP v qs b ∨ u.ownBlock = some b := by
 rcases hb with hb | ⟨p, hp, hb⟩
 ·exact .inl (by simpa [Value.ownBlock] using hb.symm)
 ·rcases List.mem_append.1 hp with hp | hp
  ·exact .inr (.inl (.inr ⟨p, hp, hb⟩))
  ·simp at hp
   subst hp
   exact .inr (.inr hb)
theorem ret_int {k : IntKind} {a b : Int} (h : a = b) : Ending.returned (.int k a) = .returned (.int k b) := by rw [h]
set_option maxHeartbeats 400000 in
theorem eqByteS_own {ea eb : TypeId} (base : Nat) (va vb : Value) (bs : List Int) (w : World) (hn : bs.length ≤ 1125899906842624)
  (ha : Own base ea .u8 w va bs) (hb : Own base eb .u8 w vb bs) :
  Calls Try.prog 18 #[va, vb] w fun e w' => e = .returned (.bool true) ∧ ∃ n, w' = w.drewN n := by
 by_cases h0 : bs.length = 0
 ·obtain rfl : bs = [] := List.length_eq_zero_iff.1 h0
  obtain ⟨aa, ca, rfl⟩ : ∃ aa ca, va = .slice aa 0 ca := by rcases ha.form with ⟨rfl, _⟩ | ⟨g, cap, rfl, _⟩ <;> exact ⟨_, _, rfl⟩
  obtain ⟨ab, cb, rfl⟩ : ∃ aa ca, vb = .slice aa 0 ca := by rcases hb.form with ⟨rfl, _⟩ | ⟨g, cap, rfl, _⟩ <;> exact ⟨_, _, rfl⟩
  clear ha hb hn h0
  go_enter Try.func18, Try.ntmps18
  go_wp2
  refine wp_loop_rounds 1 ?_
  rw [rounds_succ]
  go_wp2
  go_ret
  exact ⟨rfl, 0, rfl⟩
 ·obtain ⟨ga, ca, rfl, _, _, _, _⟩ : ∃ g cap, va = .slice (some ⟨g, 0, none⟩) bs.length cap ∧ base ≤ g ∧ g < w.heap.size ∧ bs.length ≤ cap ∧ cap ≤ maxLen := by
   rcases ha.form with ⟨_, rfl⟩ | h
   ·simp at h0
   ·exact h
  obtain ⟨gb, cb, rfl, _, _, _, _⟩ : ∃ g cap, vb = .slice (some ⟨g, 0, none⟩) bs.length cap ∧ base ≤ g ∧ g < w.heap.size ∧ bs.length ≤ cap ∧ cap ≤ maxLen := by
   rcases hb.form with ⟨_, rfl⟩ | h
   ·simp at h0
   ·exact h
  have hca : ∀ j, j < bs.length → w.cell? ⟨ga, j, none⟩ = some (.int .u8 (bs.getD j 0)) := fun j hj => ha.cell rfl j hj
  have hcb : ∀ j, j < bs.length → w.cell? ⟨gb, j, none⟩ = some (.int .u8 (bs.getD j 0)) := fun j hj => hb.cell rfl j hj
  clear ha hb
  generalize hl : bs.length = len at *
  go_enter Try.func18, Try.ntmps18
  go_wp2
  go_loopw [5] (fun i wr => ∃ k n : Nat, k ≤ len ∧ i = .int .i64 k ∧ wr = w.drewN n) (fun i _ => len - (intOf i).toNat)
  case atStart => exact ⟨0, 0, Nat.zero_le _, rfl, rfl⟩
  case round =>
   obtain ⟨k, n, hk, rfl, rfl⟩ := hrel
   by_cases hlt : k < len
   ·have h1 := hca k hlt
    have h2 := hcb k hlt
    clear hca hcb
    go_wp2
    go_quiet (fail)
    go_wp2
    go_roundw
    case rel => exact ⟨k + 1, _, by omega, by go_num, rfl⟩
    case measure => simp [intOf]; omega
   ·go_wp2
    go_ret
    exact ⟨rfl, _, rfl⟩
set_option maxHeartbeats 400000 in
theorem markByteS_own {ea : TypeId} (base : Nat) (va : Value) (bs : List Int) (k0 : Int) (w : World) (hn : bs.length ≤ 1125899906842624) (h0 : 0 ≤ k0) (h1 : k0 ≤ 1125899906842624)
  (ha : Own base ea .u8 w va bs) :
  Calls Try.prog 19 #[va, .int .i64 k0] w fun e w' => e = .returned (.int .i64 (k0 + bs.length)) ∧ Own base ea .u8 w' va (marks k0 bs.length) ∧ Kept (fun b => va.ownBlock = some b) w w' := by
 by_cases hz : bs.length = 0
 ·obtain rfl : bs = [] := List.length_eq_zero_iff.1 hz
  obtain ⟨aa, ca, rfl⟩ : ∃ aa ca, va = .slice aa 0 ca := by rcases ha.form with ⟨rfl, _⟩ | ⟨g, cap, rfl, _⟩ <;> exact ⟨_, _, rfl⟩
  have HA : Hid (Own base ea .u8 w (.slice aa 0 ca) []) := ha
  clear ha hn hz
  go_enter Try.func19, Try.ntmps19
  go_wp2
  refine wp_loop_rounds 1 ?_
  rw [rounds_succ]
  go_wp2
  go_ret
  exact ⟨by simp, by simpa [marks] using HA.out, Kept.refl _ _⟩
 ·obtain ⟨g, cap, rfl, hb, hlt, _, _⟩ : ∃ g cap, va = .slice (some ⟨g, 0, none⟩) bs.length cap ∧ base ≤ g ∧ g < w.heap.size ∧ bs.length ≤ cap ∧ cap ≤ maxLen := by
   rcases ha.form with ⟨_, rfl⟩ | h
   ·simp at hz
   ·exact h
  generalize hl : bs.length = len at *
  have HL : Hid (bs.length = len) := hl
  clear hl
  go_enter Try.func19, Try.ntmps19
  go_wp2
  go_loopw [1, 5] (fun v i wr => ∃ k : Nat, k ≤ len ∧ i = .int .i64 k ∧ v = .int .i64 (k0 + k) ∧ Hid (Own base ea .u8 wr (.slice (some ⟨g, 0, none⟩) len cap) (part k0 bs k)) ∧ Hid (Kept (fun b => b = g) w wr)) (fun _ i _ => len - (intOf i).toNat)
  case atStart => exact ⟨0, Nat.zero_le _, rfl, by simp, by rw [part_zero]; exact ha, Kept.refl _ _⟩
  case round =>
   obtain ⟨k, hk, rfl, rfl, HO, HK⟩ := hrel
   by_cases hlt : k < len
   ·have hf := HO.out.frozen (by rw [part_length _ _ _ (by have := HL.out; omega)]; exact HL.out.symm) k
    have hc := HO.out.cell (by rw [part_length _ _ _ (by have := HL.out; omega)]; exact HL.out.symm) k hlt
    clear ha
    go_wp2
    go_roundw
    case rel =>
     have hl := HL.out
     refine ⟨k + 1, by omega, by go_num, by go_num, ?_, HK.out.setCell (.inr rfl) _⟩
     have := HO.out.stored (by rw [part_length _ _ _ (by omega)]; omega) k ((k0 + k) % 256)
     rwa [part_step _ _ _ (by omega)] at this
    case measure => simp [intOf]; omega
   ·go_wp2
    go_ret
    obtain rfl : k = len := by omega
    have hl := HL.out
    refine ⟨rfl, ?_, HK.out.mono (fun b _ e => by simp [Value.ownBlock, e])⟩
    have := HO.out
    rw [← hl, part_all, hl] at this
    exact this
set_option maxHeartbeats 400000 in
theorem heldByteS_own {ea : TypeId} (base : Nat) (va : Value) (n : Nat) (k0 : Int) (w : World) (hn : n ≤ 1125899906842624) (h0 : 0 ≤ k0) (h1 : k0 ≤ 1125899906842624)
  (ha : Own base ea .u8 w va (marks k0 n)) :
  Calls Try.prog 20 #[va, .int .i64 k0] w fun e w' => e = .returned (.int .i64 (k0 + n)) ∧ w' = w := by
 by_cases hz : n = 0
 ·subst hz
  obtain ⟨aa, ca, rfl⟩ : ∃ aa ca, va = .slice aa 0 ca := by rcases ha.form with ⟨rfl, _⟩ | ⟨g, cap, rfl, _⟩ <;> exact ⟨_, _, rfl⟩
  clear ha hn
  go_enter Try.func20, Try.ntmps20
  go_wp2
  refine wp_loop_rounds 1 ?_
  rw [rounds_succ]
  go_wp2
  go_ret
  exact ⟨by simp, rfl⟩
 ·obtain ⟨g, cap, rfl⟩ : ∃ g cap, va = .slice (some ⟨g, 0, none⟩) n cap := by
   rcases ha.form with ⟨_, h⟩ | ⟨g, cap, h, _⟩
   ·have := congrArg List.length h; simp [marks_length] at this; omega
   ·exact ⟨g, cap, by rw [h, marks_length]⟩
  have hc : ∀ j, j < n → w.cell? ⟨g, j, none⟩ = some (.int .u8 ((k0 + j) % 256)) := fun j hj => by
   rw [ha.cell (marks_length _ _).symm j hj, marks_at _ _ _ hj]
  clear ha
  go_enter Try.func20, Try.ntmps20
  go_wp2
  go_loop [1, 5] (fun v i => ∃ k : Nat, k ≤ n ∧ i = .int .i64 k ∧ v = .int .i64 (k0 + k)) (fun _ i => n - (intOf i).toNat)
  case atStart => exact ⟨0, Nat.zero_le _, rfl, by simp⟩
  case round =>
   obtain ⟨k, hk, rfl, rfl⟩ := hrel
   by_cases hlt : k < n
   ·have h2 := hc k hlt
    clear hc
    go_wp2
    go_round
    case rel => exact ⟨k + 1, by omega, by go_num, by go_num⟩
    case measure => simp [intOf]; omega
   ·go_wp2
    go_ret
    obtain rfl : k = n := by omega
    exact ⟨rfl, rfl⟩
theorem markSectorWriteS_own (base : Nat) (va : Value) (ps : List PW) (k0 : Int) (w : World) (h0 : 0 ≤ k0) (h1 : endP k0 ps ≤ 1125899906842624) (hn : ps.length ≤ 1125899906842624)
  (ha : OwnP base 45 5 w va ps) :
  Calls Try.prog 30 #[va, .int .i64 k0] w fun e w' => e = .returned (.int .i64 (endP k0 ps)) ∧ OwnP base 45 5 w' va (markP k0 ps) ∧ Kept (footP va ps) w w' := by
 by_cases hz : ps.length = 0
 ·obtain rfl : ps = [] := List.length_eq_zero_iff.1 hz
  obtain ⟨aa, ca, rfl⟩ : ∃ aa ca, va = .slice aa 0 ca := by rcases ha.form with ⟨rfl, _⟩ | ⟨g, cap, rfl, _⟩ <;> exact ⟨_, _, rfl⟩
  have HA : Hid (OwnP base 45 5 w (.slice aa 0 ca) []) := ha
  clear ha hn hz
  go_enter Try.func30, Try.ntmps30
  go_wp2
  refine wp_loop_rounds 1 ?_
  rw [rounds_succ]
  go_wp2
  go_ret
  exact ⟨by simp [endP], by simpa [markP] using HA.out, Kept.refl _ _⟩
 ·obtain ⟨g, cap, rfl, hb, hlt, _, _⟩ : ∃ g cap, va = .slice (some ⟨g, 0, none⟩) ps.length cap ∧ base ≤ g ∧ g < w.heap.size ∧ ps.length ≤ cap ∧ cap ≤ maxLen := by
   rcases ha.form with ⟨_, rfl⟩ | h
   ·simp at hz
   ·exact h
  generalize hl : ps.length = len at *
  have HL : Hid (ps.length = len) := hl
  have H1 : Hid (endP k0 ps ≤ 1125899906842624) := h1
  have HA : Hid (OwnP base 45 5 w (.slice (some ⟨g, 0, none⟩) len cap) ps) := ha
  clear hl h1 ha
  go_enter Try.func30, Try.ntmps30
  go_wp2
  go_loopw [1, 5] (fun v i wr => ∃ (k : Nat) (c : Int), k ≤ len ∧ i = .int .i64 k ∧ v = .int .i64 c ∧ Hid (c = endP k0 (ps.take k)) ∧ Hid (OwnP base 45 5 wr (.slice (some ⟨g, 0, none⟩) len cap) (partP k0 ps k)) ∧ Hid (Kept (footP (.slice (some ⟨g, 0, none⟩) len cap) ps) w wr)) (fun _ i _ => len - (intOf i).toNat)
  case atStart => exact ⟨0, k0, Nat.zero_le _, rfl, rfl, rfl, by rw [partP_zero]; exact HA.out, Kept.refl _ _⟩
  case round =>
   obtain ⟨k, c, hk, rfl, rfl, HC, HO, HK⟩ := hrel
   by_cases hlt : k < len
   ·have hlp : k < ps.length := by rw [HL.out]; exact hlt
    have hf := HO.out.frozen (by rw [partP_length]; exact HL.out.symm) (k * 2)
    have hc := HO.out.sec (by rw [partP_length]; exact HL.out.symm) k (by rw [partP_length]; exact hlp)
    have hv : wr.cell? ⟨g, k * 2 + 1, none⟩ = some ps[k].v := by rw [HO.out.val (by rw [partP_length]; exact HL.out.symm) k (by rw [partP_length]; exact hlp), partP_vAt _ _ _ _ hlp]
    have hc0 : k0 ≤ c := by rw [HC.out]; exact endP_le _ _
    have hc1 : c + 1 + ps[k].bs.length ≤ 1125899906842624 := by rw [HC.out, ← endP_step k0 ps k hlp]; exact Int.le_trans (endP_take_le _ _ _) H1.out
    have HO2 : Hid (OwnP base 45 5 (wr.setCell ⟨g, k * 2, none⟩ (.int .i64 c)) (.slice (some ⟨g, 0, none⟩) len cap) (markP k0 (ps.take k) ++ ⟨c, ps[k].v, ps[k].bs⟩ :: ps.drop (k + 1))) := by
     have h := HO.out
     rw [partP_at _ _ _ hlp] at h
     have hl := HL.out
     exact h.setSec (by simp [markP_length]; omega) c _ (by simp [markP_length]; omega)
    go_wp2_with fail
    refine (markByteS_own base ps[k].v ps[k].bs (c + 1) _ (by omega) (by omega) (by omega) (HO2.out.data ⟨c, ps[k].v, ps[k].bs⟩ (by simp))).mono ?_
    rintro e w1 ⟨rfl, ho, hk1⟩
    have HO3 : Hid (OwnP base 45 5 w1 (.slice (some ⟨g, 0, none⟩) len cap) (partP k0 ps (k + 1))) := by
     rw [partP_step _ _ _ hlp, ← HC.out]
     exact HO2.out.setData hk1 ho
    have HK3 : Hid (Kept (footP (.slice (some ⟨g, 0, none⟩) len cap) ps) w w1) :=
     (HK.out.setCell (p := ⟨g, k * 2, none⟩) (.inr (.inl rfl)) _).trans (hk1.mono fun b _ hb => .inr ⟨ps[k], List.getElem_mem _, hb⟩)
    clear ho hk1 hv hc hf HO HO2
    go_wp2
    go_roundw
    case rel =>
     exact ⟨k + 1, c + 1 + ps[k].bs.length, by omega, by go_num, rfl, by rw [endP_step _ _ _ hlp, ← HC.out]; rfl, HO3, HK3⟩
    case measure => simp [intOf]; omega
   ·go_wp2
    go_ret
    obtain rfl : k = len := by omega
    have hl := HL.out
    have hc := HC.out
    have ho := HO.out
    rw [← hl, List.take_length] at hc
    rw [← hl, partP_all, hl] at ho
    exact ⟨ret_int hc, ho, HK.out⟩
theorem heldSectorWriteS_own (base : Nat) (va : Value) (ps : List PW) (k0 : Int) (w : World) (h0 : 0 ≤ k0) (h1 : endP k0 ps ≤ 1125899906842624) (hn : ps.length ≤ 1125899906842624)
  (ha : OwnP base 45 5 w va (markP k0 ps)) :
  Calls Try.prog 31 #[va, .int .i64 k0] w fun e w' => e = .returned (.int .i64 (endP k0 ps)) ∧ w' = w := by
 by_cases hz : ps.length = 0
 ·obtain rfl : ps = [] := List.length_eq_zero_iff.1 hz
  obtain ⟨aa, ca, rfl⟩ : ∃ aa ca, va = .slice aa 0 ca := by rcases ha.form with ⟨rfl, _⟩ | ⟨g, cap, rfl, _⟩ <;> exact ⟨_, _, rfl⟩
  clear ha hn hz
  go_enter Try.func31, Try.ntmps31
  go_wp2
  refine wp_loop_rounds 1 ?_
  rw [rounds_succ]
  go_wp2
  go_ret
  exact ⟨by simp [endP], rfl⟩
 ·obtain ⟨g, cap, rfl⟩ : ∃ g cap, va = .slice (some ⟨g, 0, none⟩) ps.length cap := by
   rcases ha.form with ⟨_, h⟩ | ⟨g, cap, h, _⟩
   ·have := congrArg List.length h; simp [markP_length] at this; simp [this] at hz
   ·exact ⟨g, cap, by rw [h, markP_length]⟩
  have H1 : Hid (endP k0 ps ≤ 1125899906842624) := h1
  have HA : Hid (OwnP base 45 5 w (.slice (some ⟨g, 0, none⟩) ps.length cap) (markP k0 ps)) := ha
  clear h1 ha
  generalize hl : ps.length = len at hn hz HA ⊢
  have HL : Hid (ps.length = len) := hl
  clear hl
  go_enter Try.func31, Try.ntmps31
  go_wp2
  go_loop [1, 5] (fun v i => ∃ (k : Nat) (c : Int), k ≤ len ∧ i = .int .i64 k ∧ v = .int .i64 c ∧ Hid (c = endP k0 (ps.take k))) (fun _ i => len - (intOf i).toNat)
  case atStart => exact ⟨0, k0, Nat.zero_le _, rfl, rfl, rfl⟩
  case round =>
   obtain ⟨k, c, hk, rfl, rfl, HC⟩ := hrel
   by_cases hlt : k < len
   ·have hlp : k < ps.length := by rw [HL.out]; exact hlt
    have hlm : k < (markP k0 ps).length := by rw [markP_length]; exact hlp
    have hc : w.cell? ⟨g, k * 2, none⟩ = some (.int .i64 c) := by rw [HA.out.sec (by rw [markP_length]; exact HL.out.symm) k hlm, markP_at _ _ _ hlp, ← HC.out]
    have hv : w.cell? ⟨g, k * 2 + 1, none⟩ = some ps[k].v := by rw [HA.out.val (by rw [markP_length]; exact HL.out.symm) k hlm, markP_at _ _ _ hlp]
    have hd := HA.out.data _ (List.getElem_mem hlm)
    rw [markP_at _ _ _ hlp, ← HC.out] at hd
    have HD : Hid (Own base 5 .u8 w ps[k].v (marks (c + 1) ps[k].bs.length)) := hd
    have hc0 : k0 ≤ c := by rw [HC.out]; exact endP_le _ _
    have hc1 : c + 1 + ps[k].bs.length ≤ 1125899906842624 := by rw [HC.out, ← endP_step k0 ps k hlp]; exact Int.le_trans (endP_take_le _ _ _) H1.out
    clear hd
    go_wp2_with fail
    refine (heldByteS_own base ps[k].v ps[k].bs.length (c + 1) _ (by omega) (by omega) (by omega) HD.out).mono ?_
    rintro e w1 ⟨rfl, rfl⟩
    go_wp2
    go_round
    case rel => exact ⟨k + 1, c + 1 + ps[k].bs.length, by omega, by go_num, rfl, by rw [endP_step _ _ _ hlp, ← HC.out]; rfl⟩
    case measure => simp [intOf]; omega
   ·go_wp2
    go_ret
    obtain rfl : k = len := by omega
    have hl := HL.out
    have hc := HC.out
    rw [← hl, List.take_length] at hc
    exact ⟨ret_int hc, rfl⟩
theorem eqSectorWrite_own (base : Nat) (sec : Int) (va vb : Value) (bs : List Int) (w : World) (hn : bs.length ≤ 1125899906842624)
  (ha : Own base 5 .u8 w va bs) (hb : Own base 5 .u8 w vb bs) :
  Calls Try.prog 42 #[.agg #[.int .i64 sec, va], .agg #[.int .i64 sec, vb]] w fun e w' => e = .returned (.bool true) ∧ Same w w' := by
 obtain ⟨aa, na, ca, rfl⟩ : ∃ aa na ca, va = .slice aa na ca := by rcases ha.form with ⟨rfl, _⟩ | ⟨g, cap, rfl, _⟩ <;> exact ⟨_, _, _, rfl⟩
 obtain ⟨ab, nb, cb, rfl⟩ : ∃ aa na ca, vb = .slice aa na ca := by rcases hb.form with ⟨rfl, _⟩ | ⟨g, cap, rfl, _⟩ <;> exact ⟨_, _, _, rfl⟩
 have HA : Hid (Own base 5 .u8 w (.slice aa na ca) bs) := ha
 have HB : Hid (Own base 5 .u8 w (.slice ab nb cb) bs) := hb
 clear ha hb
 go_enter Try.func42, Try.ntmps42
 go_wp2_with fail
 refine (eqByteS_own base _ _ bs _ hn (HA.out.same (((Kept.refl _ _).alloc _).alloc _)) (HB.out.same (((Kept.refl _ _).alloc _).alloc _))).mono ?_
 rintro e w1 ⟨rfl, n1, rfl⟩
 go_wp2
 go_ret
 exact ⟨rfl, (((Kept.refl _ _).alloc _).alloc _).drewN _⟩
theorem eqSectorWriteS_own (base : Nat) (va vb : Value) (ps qs : List PW) (w : World) (hn : ps.length ≤ 1125899906842624) (hs : dataP ps = dataP qs) (hsm : ∀ p ∈ ps, p.bs.length ≤ 1125899906842624)
  (ha : OwnP base 45 5 w va ps) (hb : OwnP base 45 5 w vb qs) :
  Calls Try.prog 29 #[va, vb] w fun e w' => e = .returned (.bool true) ∧ Same w w' := by
 have hlen : qs.length = ps.length := by rw [← dataP_length, ← dataP_length, hs]
 by_cases hz : ps.length = 0
 ·obtain rfl : ps = [] := List.length_eq_zero_iff.1 hz
  obtain rfl : qs = [] := List.length_eq_zero_iff.1 hlen
  obtain ⟨aa, ca, rfl⟩ : ∃ aa ca, va = .slice aa 0 ca := by rcases ha.form with ⟨rfl, _⟩ | ⟨g, cap, rfl, _⟩ <;> exact ⟨_, _, rfl⟩
  obtain ⟨ab, cb, rfl⟩ : ∃ aa ca, vb = .slice aa 0 ca := by rcases hb.form with ⟨rfl, _⟩ | ⟨g, cap, rfl, _⟩ <;> exact ⟨_, _, rfl⟩
  clear ha hb hn hz hs
  go_enter Try.func29, Try.ntmps29
  go_wp2
  refine wp_loop_rounds 1 ?_
  rw [rounds_succ]
  go_wp2
  go_ret
  exact ⟨rfl, Kept.refl _ _⟩
 ·obtain ⟨ga, ca, rfl⟩ : ∃ g cap, va = .slice (some ⟨g, 0, none⟩) ps.length cap := by
   rcases ha.form with ⟨_, h⟩ | ⟨g, cap, h, _⟩
   ·simp [h] at hz
   ·exact ⟨g, cap, h⟩
  obtain ⟨gb, cb, rfl⟩ : ∃ g cap, vb = .slice (some ⟨g, 0, none⟩) ps.length cap := by
   rcases hb.form with ⟨_, h⟩ | ⟨g, cap, h, _⟩
   ·simp [h] at hlen; omega
   ·exact ⟨g, cap, by rw [h, hlen]⟩
  have HA : Hid (OwnP base 45 5 w (.slice (some ⟨ga, 0, none⟩) ps.length ca) ps) := ha
  have HB : Hid (OwnP base 45 5 w (.slice (some ⟨gb, 0, none⟩) ps.length cb) qs) := hb
  have HQ : Hid (qs.length = ps.length) := hlen
  have HS : Hid (dataP ps = dataP qs) := hs
  have HM : Hid (∀ p ∈ ps, p.bs.length ≤ 1125899906842624) := hsm
  clear ha hb hs hlen hsm
  generalize hl : ps.length = len at hn hz HA HB ⊢
  have HL : Hid (ps.length = len) := hl
  clear hl
  go_enter Try.func29, Try.ntmps29
  go_wp2
  go_loopw [5] (fun i wr => ∃ (k : Nat), k ≤ len ∧ i = .int .i64 k ∧ Hid (Same w wr)) (fun i _ => len - (intOf i).toNat)
  case atStart => exact ⟨0, Nat.zero_le _, rfl, Kept.refl _ _⟩
  case round =>
   obtain ⟨k, hk, rfl, HK⟩ := hrel
   by_cases hlt : k < len
   ·have hlp : k < ps.length := by rw [HL.out]; exact hlt
    have hlq : k < qs.length := by rw [HQ.out]; exact hlp
    have hoa := HA.out.same HK.out
    have hob := HB.out.same HK.out
    obtain ⟨s1, s2⟩ := dataP_at HS.out k hlp hlq
    have s3 := HM.out _ (List.getElem_mem hlp)
    have ha1 : wr.cell? ⟨ga, k * 2, none⟩ = some (.int .i64 ps[k].sec) := hoa.sec HL.out.symm k hlp
    have ha2 : wr.cell? ⟨ga, k * 2 + 1, none⟩ = some ps[k].v := hoa.val HL.out.symm k hlp
    have hb1 : wr.cell? ⟨gb, k * 2, none⟩ = some (.int .i64 ps[k].sec) := by rw [hob.sec (by rw [HQ.out, HL.out]) k hlq, s1]
    have hb2 : wr.cell? ⟨gb, k * 2 + 1, none⟩ = some qs[k].v := hob.val (by rw [HQ.out, HL.out]) k hlq
    have HDA : Hid (Own base 5 .u8 wr ps[k].v ps[k].bs) := hoa.data _ (List.getElem_mem hlp)
    have HDB : Hid (Own base 5 .u8 wr qs[k].v ps[k].bs) := by have := hob.data _ (List.getElem_mem hlq); rw [← s2] at this; exact this
    clear s1 s2 hoa hob
    go_wp2_with fail
    go_region_with (go_at_call 42; refine (eqSectorWrite_own base ps[k].sec ps[k].v qs[k].v ps[k].bs _ s3 (by exact HDA.out.same (Kept.refl _ _).drew) (by exact HDB.out.same (Kept.refl _ _).drew)).mono ?_; rintro e w1 ⟨rfl, hk1⟩)
    all_goals
     have HK1 : Hid (Same w w1) := HK.out.drew.trans hk1
     clear hk1 ha1 ha2 hb1 hb2 HDA HDB
     go_wp2
     go_roundw
     case rel => exact ⟨k + 1, by omega, by go_num, HK1⟩
     case measure => simp [intOf]; omega
   ·go_wp2
    go_ret
    exact ⟨rfl, HK.out⟩
end Go.Proofs.Yteacihpankkhkaa
