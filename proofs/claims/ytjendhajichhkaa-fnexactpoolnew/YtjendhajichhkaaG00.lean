import Derived.Test.YtjendhajichhkaaProg
import Derived.WalkKit
import Derived.WalkSpells
import Derived.Deep.Draws
import Derived.OrdersHeld
import Derived.Deep.RegionHeld3
import Derived.WalkLawsBesides
import Derived.Deep.QuietTactic
import Derived.BigQuiet
import Derived.Deep.LoopGhost
import Derived.Deep.MidRow
import Derived.Deep.WholeRow
import Derived.Laws.IdiomCopy
import Derived.Great.BuildSlice
namespace Go.Proofs.Ytjendhajichhkaa
set_option linter.unusedSimpArgs false
set_option linter.unusedVariables false
open Go.RowKit Go
theorem hid {p : Prop} (h : p) : Hid p := h
structure Kept (R : Nat → Prop) (w w' : World) : Prop where
 os : w'.os = w.os
 tape : w'.tape = w.tape
 output : w'.output = w.output
 size : w.heap.size ≤ w'.heap.size
 block : ∀ k, k < w.heap.size → ¬ R k → w'.heap[k]? = w.heap[k]?
abbrev Same : World → World → Prop := Kept (fun _ => False)
theorem Kept.refl (R : Nat → Prop) (w : World) : Kept R w w := ⟨rfl, rfl, rfl, Nat.le_refl _, fun _ _ _ => rfl⟩
theorem Kept.trans {R : Nat → Prop} {a b c : World} (h : Kept R a b) (k : Kept R b c) : Kept R a c :=
 ⟨k.os.trans h.os, k.tape.trans h.tape, k.output.trans h.output, Nat.le_trans h.size k.size, fun i hi hr => (k.block i (Nat.lt_of_lt_of_le hi h.size) hr).trans (h.block i hi hr)⟩
theorem Kept.mono {R R' : Nat → Prop} {a b : World} (h : Kept R a b) (hr : ∀ k, k < a.heap.size → R k → R' k) : Kept R' a b :=
 ⟨h.os, h.tape, h.output, h.size, fun i hi hn => h.block i hi (fun hR => hn (hr i hi hR))⟩
theorem Kept.next {R R' : Nat → Prop} {a b c : World} (h : Kept R a b) (k : Kept R' b c) (hr : ∀ i, i < a.heap.size → R' i → R i) : Kept R a c :=
 ⟨k.os.trans h.os, k.tape.trans h.tape, k.output.trans h.output, Nat.le_trans h.size k.size, fun i hi hn => (k.block i (Nat.lt_of_lt_of_le hi h.size) (fun e => hn (hr i hi e))).trans (h.block i hi hn)⟩
theorem Kept.drewN {R : Nat → Prop} {a b : World} (h : Kept R a b) (n : Nat) : Kept R a (b.drewN n) := ⟨h.os, h.tape, h.output, h.size, h.block⟩
theorem Kept.drew {R : Nat → Prop} {a b : World} (h : Kept R a b) : Kept R a b.drew := ⟨h.os, h.tape, h.output, h.size, h.block⟩
theorem Kept.alloc {R : Nat → Prop} {a b : World} (h : Kept R a b) (o : Obj) : Kept R a (b.alloc o) :=
 h.trans ⟨rfl, rfl, rfl, by simp, fun k hk _ => Below.heap_alloc _ _ _ hk⟩
theorem Kept.setCell {R : Nat → Prop} {a b : World} (h : Kept R a b) {p : Addr} (hp : a.heap.size ≤ p.block ∨ R p.block) (u : Value) : Kept R a (b.setCell p u) := by
 refine ⟨h.os, h.tape, h.output, by simpa [World.setCell] using h.size, fun k hk hr => ?_⟩
 rw [Below.heap_setCell _ _ _ _ (fun e => by subst e; exact hp.elim (fun h1 => by omega) hr)]
 exact h.block k hk hr
theorem Kept.grown {R : Nat → Prop} {a b c : World} {row : Option Nat} (h : Kept R a b) (hg : b.grownBy c row) (hr : ∀ k, row = some k → a.heap.size ≤ k ∨ R k) : Kept R a c :=
 ⟨hg.os.trans h.os, hg.tape.trans h.tape, hg.output.trans h.output, Nat.le_trans h.size hg.size, fun k hk hn =>
  (hg.block k (Nat.lt_of_lt_of_le hk h.size) (fun e => (hr k e.symm).elim (fun h1 => by omega) hn)).trans (h.block k hk hn)⟩
theorem Kept.of_grown {R : Nat → Prop} {b c : World} {row : Option Nat} (hg : b.grownBy c row) (hr : ∀ k, row = some k → R k) : Kept R b c :=
 (Kept.refl R b).grown hg (fun k e => .inr (hr k e))
theorem Kept.below {R : Nat → Prop} {a b : World} (h : Kept R a b) {B : Nat} (hB : B ≤ a.heap.size) (hr : ∀ k, k < B → ¬ R k) : Below B a b :=
 ⟨h.os, h.tape, h.output, h.size, fun k hk => h.block k (Nat.lt_of_lt_of_le hk hB) (hr k hk)⟩
theorem Kept.heap {R : Nat → Prop} {a b : World} (h : Kept R a b) {k : Nat} {o : Obj} (hk : a.heap[k]? = some o) (hr : ¬ R k) : b.heap[k]? = some o := by
 rw [h.block k (Array.getElem?_eq_some_iff.1 hk).1 hr]; exact hk
theorem Kept.cell {R : Nat → Prop} {a b : World} (h : Kept R a b) {p : Addr} (hp : p.block < a.heap.size) (hr : ¬ R p.block) : b.cell? p = a.cell? p :=
 World.cell?_of_block (w := a) (h.block p.block hp hr)
theorem Kept.frozen {R : Nat → Prop} {a b : World} (h : Kept R a b) {p : Addr} (hp : p.block < a.heap.size) (hr : ¬ R p.block) : b.frozen? p = a.frozen? p :=
 World.frozen?_of_block (w := a) (h.block p.block hp hr)
theorem Kept.cellOf {R : Nat → Prop} {a b : World} (h : Kept R a b) {p : Addr} {v : Value} (hc : a.cell? p = some v) (hr : ¬ R p.block) : b.cell? p = some v :=
 (h.cell (World.block_lt_of_cell? a p hc) hr).trans hc
theorem Kept.owns {R : Nat → Prop} {w w' : World} (k : Kept R w w') {base : Nat} {e : TypeId} {size : Nat} {v : Value} {n : Nat} {xs : List Value} (h : w.ownsRow base e size v n xs)
  (hr : ∀ b, v.ownBlock = some b → ¬ R b) : w'.ownsRow base e size v n xs := by
 refine ⟨h.1, ?_⟩
 rcases h.2 with hn | ⟨g, cap, cur, rfl, hb, hgg, rest⟩
 ·exact .inl hn
 ·exact .inr ⟨g, cap, cur, rfl, hb, k.heap hgg (hr g rfl), rest⟩
def vals (k : IntKind) (bs : List Int) : List Value := bs.map (Value.int k)
theorem vals_at (k : IntKind) (bs : List Int) (j : Nat) (h : j < bs.length) : (vals k bs)[j]? = some (.int k (bs.getD j 0)) := by
 simp [vals, h, List.getD]
def Own (base : Nat) (e : TypeId) (k : IntKind) (w : World) (v : Value) (bs : List Int) : Prop := w.ownsRow base e 1 v bs.length (vals k bs)
theorem Own.form {base : Nat} {e : TypeId} {k : IntKind} {w : World} {v : Value} {bs : List Int} (h : Own base e k w v bs) :
  (v = .slice none 0 0 ∧ bs = []) ∨ ∃ g cap, v = .slice (some ⟨g, 0, none⟩) bs.length cap ∧ base ≤ g ∧ g < w.heap.size ∧ bs.length ≤ cap ∧ cap ≤ maxLen := by
 rcases h.2 with ⟨rfl, hn⟩ | ⟨g, cap, cur, rfl, hb, hgg, hc, hm, _⟩
 ·exact .inl ⟨rfl, List.length_eq_zero_iff.1 hn⟩
 ·exact .inr ⟨g, cap, rfl, hb, (Array.getElem?_eq_some_iff.1 hgg).1, hc, hm⟩
theorem Own.cell {base : Nat} {e : TypeId} {k : IntKind} {w : World} {g n cap : Nat} {bs : List Int} (h : Own base e k w (.slice (some ⟨g, 0, none⟩) n cap) bs) (hn : n = bs.length) (j : Nat) (hj : j < n) :
  w.cell? ⟨g, j, none⟩ = some (.int k (bs.getD j 0)) := by
 subst hn
 have := World.ownsRow.cellAt h j (by omega)
 rw [this, vals_at k bs j hj]
theorem Own.frozen {base : Nat} {e : TypeId} {k : IntKind} {w : World} {g n cap : Nat} {bs : List Int} (h : Own base e k w (.slice (some ⟨g, 0, none⟩) n cap) bs) (hn : n = bs.length) (j : Nat) :
  w.frozen? ⟨g, j, none⟩ = false := by
 subst hn
 exact World.ownsRow.frozenAt h j
theorem Own.kept {R : Nat → Prop} {base : Nat} {e : TypeId} {k : IntKind} {w w' : World} {v : Value} {bs : List Int} (h : Own base e k w v bs) (hk : Kept R w w') (hr : ∀ b, v.ownBlock = some b → ¬ R b) : Own base e k w' v bs :=
 hk.owns h hr
theorem Own.same {base : Nat} {e : TypeId} {k : IntKind} {w w' : World} {v : Value} {bs : List Int} (h : Own base e k w v bs) (hk : Same w w') : Own base e k w' v bs :=
 hk.owns h (fun _ _ => id)
theorem Own.stored {base : Nat} {e : TypeId} {k : IntKind} {w : World} {g n cap : Nat} {bs : List Int} (h : Own base e k w (.slice (some ⟨g, 0, none⟩) n cap) bs) (hn : n = bs.length) (j : Nat) (x : Int) :
  Own base e k (w.setCell ⟨g, j, none⟩ (.int k x)) (.slice (some ⟨g, 0, none⟩) n cap) (bs.set j x) := by
 subst hn
 have := (World.ownsRow.stored h j (.int k x)).1
 unfold Own
 rw [List.length_set]
 have e : vals k (bs.set j x) = (vals k bs).set j (.int k x) := by simp [vals]
 rw [e]
 exact this
theorem Own.lt {base : Nat} {e : TypeId} {k : IntKind} {w : World} {v : Value} {bs : List Int} (h : Own base e k w v bs) : ∀ b, v.ownBlock = some b → base ≤ b ∧ b < w.heap.size :=
 World.ownsRow.lt h
theorem Own.nil (base : Nat) (e : TypeId) (k : IntKind) (w : World) : Own base e k w (.slice none 0 0) [] := World.ownsRow_nil _ _ _ _
theorem Own.mono {base base' : Nat} {e : TypeId} {k : IntKind} {w : World} {v : Value} {bs : List Int} (h : Own base e k w v bs) (hb : ∀ b, v.ownBlock = some b → base' ≤ b) : Own base' e k w v bs := by
 refine ⟨h.1, ?_⟩
 rcases h.2 with hn | ⟨g, cap, cur, rfl, _, hgg, rest⟩
 ·exact .inl hn
 ·exact .inr ⟨g, cap, cur, rfl, hb g rfl, hgg, rest⟩
theorem slice_of_own {base : Nat} {e : TypeId} {k : IntKind} {w : World} {v : Value} {bs : List Int} (h : Own base e k w v bs) : ∃ aa na ca, v = .slice aa na ca := by
 rcases h.form with ⟨rfl, _⟩ | ⟨g, cap, rfl, _⟩ <;> exact ⟨_, _, _, rfl⟩
def marks (k : Int) (n : Nat) : List Int := (List.range n).map fun (i : Nat) => (k + (i : Int)) % 256
theorem marks_length (k : Int) (n : Nat) : (marks k n).length = n := by simp [marks]
theorem marks_at (k : Int) (n j : Nat) (h : j < n) : (marks k n).getD j 0 = (k + j) % 256 := by simp [marks, h, List.getD]
def part (k : Int) (bs : List Int) (j : Nat) : List Int := marks k j ++ bs.drop j
theorem part_length (k : Int) (bs : List Int) (j : Nat) (h : j ≤ bs.length) : (part k bs j).length = bs.length := by simp [part, marks_length]; omega
theorem part_zero (k : Int) (bs : List Int) : part k bs 0 = bs := by simp [part, marks]
theorem part_all (k : Int) (bs : List Int) : part k bs bs.length = marks k bs.length := by simp [part]
theorem part_step (k : Int) (bs : List Int) (j : Nat) (h : j < bs.length) : (part k bs j).set j ((k + j) % 256) = part k bs (j + 1) := by
 unfold part
 rw [List.set_append_right (h := by simp [marks_length]), marks_length, Nat.sub_self]
 have e : bs.drop j = bs[j] :: bs.drop (j + 1) := by rw [List.drop_eq_getElem_cons h]
 rw [e, List.set_cons_zero]
 simp [marks, List.range_succ]
/-! ### Pending writes: rows of two cells, a sector's number and a slice of bytes -/
structure PW where
 sec : Int
 v : Value
 bs : List Int
def pwCells : List PW → List Value
 | [] => []
 | p :: ps => .int .i64 p.sec :: p.v :: pwCells ps
theorem pwCells_append (ps qs : List PW) : pwCells (ps ++ qs) = pwCells ps ++ pwCells qs := by
 induction ps with
 | nil => rfl
 | cons p ps ih => simp [pwCells, ih]
theorem pwCells_sec (ps : List PW) (j : Nat) (h : j < ps.length) : (pwCells ps)[j * 2]? = some (.int .i64 ps[j].sec) := by
 induction ps generalizing j with
 | nil => simp at h
 | cons p ps ih =>
  cases j with
  | zero => simp [pwCells]
  | succ j => have := ih j (by simpa using h); rw [show (j + 1) * 2 = j * 2 + 1 + 1 from by omega]; simpa [pwCells] using this
def Apart (v u : Value) : Prop := ∀ b, v.ownBlock = some b → u.ownBlock ≠ some b
theorem Apart.symm {v u : Value} (h : Apart v u) : Apart u v := fun b hb hv => h b hv hb
structure OwnP (base : Nat) (tw tb : TypeId) (w : World) (v : Value) (ps : List PW) : Prop where
 row : w.ownsRow base tw 2 v ps.length (pwCells ps)
 data : ∀ p ∈ ps, Own base tb .u8 w p.v p.bs
 out : ∀ u ∈ ps.map PW.v, Apart v u
 each : (ps.map PW.v).Pairwise Apart
def footP (v : Value) (ps : List PW) (b : Nat) : Prop := v.ownBlock = some b ∨ ∃ p ∈ ps, p.v.ownBlock = some b
theorem OwnP.form {base : Nat} {tw tb : TypeId} {w : World} {v : Value} {ps : List PW} (h : OwnP base tw tb w v ps) :
  (v = .slice none 0 0 ∧ ps = []) ∨ ∃ g cap, v = .slice (some ⟨g, 0, none⟩) ps.length cap ∧ base ≤ g ∧ g < w.heap.size ∧ ps.length ≤ cap ∧ cap ≤ maxLen := by
 rcases h.row.2 with ⟨rfl, hn⟩ | ⟨g, cap, cur, rfl, hb, hgg, hc, hm, _⟩
 ·exact .inl ⟨rfl, List.length_eq_zero_iff.1 hn⟩
 ·exact .inr ⟨g, cap, rfl, hb, (Array.getElem?_eq_some_iff.1 hgg).1, hc, hm⟩
theorem OwnP.lt {base : Nat} {tw tb : TypeId} {w : World} {v : Value} {ps : List PW} (h : OwnP base tw tb w v ps) (b : Nat) (hb : footP v ps b) : base ≤ b ∧ b < w.heap.size := by
 rcases hb with hb | ⟨p, hp, hb⟩
 ·exact World.ownsRow.lt h.row b hb
 ·exact (h.data p hp).lt b hb
theorem OwnP.sec {base : Nat} {tw tb : TypeId} {w : World} {g n cap : Nat} {ps : List PW} (h : OwnP base tw tb w (.slice (some ⟨g, 0, none⟩) n cap) ps) (hn : n = ps.length) (j : Nat) (hj : j < ps.length) :
  w.cell? ⟨g, j * 2, none⟩ = some (.int .i64 ps[j].sec) := by
 subst hn
 rw [World.ownsRow.cellAt h.row (j * 2) (by omega), pwCells_sec ps j hj]
theorem OwnP.frozen {base : Nat} {tw tb : TypeId} {w : World} {g n cap : Nat} {ps : List PW} (h : OwnP base tw tb w (.slice (some ⟨g, 0, none⟩) n cap) ps) (hn : n = ps.length) (j : Nat) :
  w.frozen? ⟨g, j, none⟩ = false := by
 subst hn
 exact World.ownsRow.frozenAt h.row j
theorem OwnP.kept {R : Nat → Prop} {base : Nat} {tw tb : TypeId} {w w' : World} {v : Value} {ps : List PW} (h : OwnP base tw tb w v ps) (hk : Kept R w w') (hr : ∀ b, footP v ps b → ¬ R b) : OwnP base tw tb w' v ps :=
 ⟨hk.owns h.row (fun b hb => hr b (.inl hb)), fun p hp => (h.data p hp).kept hk (fun b hb => hr b (.inr ⟨p, hp, hb⟩)), h.out, h.each⟩
theorem OwnP.same {base : Nat} {tw tb : TypeId} {w w' : World} {v : Value} {ps : List PW} (h : OwnP base tw tb w v ps) (hk : Same w w') : OwnP base tw tb w' v ps :=
 h.kept hk (fun _ _ => id)
theorem OwnP.nil (base : Nat) (tw tb : TypeId) (w : World) : OwnP base tw tb w (.slice none 0 0) [] :=
 ⟨World.ownsRow_nil _ _ _ _, fun _ h => by simp at h, fun _ h => by simp at h, List.Pairwise.nil⟩
theorem OwnP.setData {base : Nat} {tw tb : TypeId} {w w' : World} {v : Value} {pre post : List PW} {p : PW} {bs : List Int} (h : OwnP base tw tb w v (pre ++ p :: post))
  (hk : Kept (fun b => p.v.ownBlock = some b) w w') (ho : Own base tb .u8 w' p.v bs) : OwnP base tw tb w' v (pre ++ ⟨p.sec, p.v, bs⟩ :: post) := by
 have hmap : (pre ++ (⟨p.sec, p.v, bs⟩ : PW) :: post).map PW.v = (pre ++ p :: post).map PW.v := by simp
 have hcells : pwCells (pre ++ (⟨p.sec, p.v, bs⟩ : PW) :: post) = pwCells (pre ++ p :: post) := by rw [pwCells_append, pwCells_append]; rfl
 have hlen : (pre ++ (⟨p.sec, p.v, bs⟩ : PW) :: post).length = (pre ++ p :: post).length := by simp
 have hea := h.each
 rw [List.map_append, List.map_cons] at hea
 obtain ⟨_, h2, h3⟩ := List.pairwise_append.1 hea
 have h4 := List.pairwise_cons.1 h2
 refine ⟨?_, fun q hq => ?_, by rw [hmap]; exact h.out, by rw [hmap]; exact h.each⟩
 ·rw [hcells, hlen]
  exact hk.owns h.row (fun b hb e => h.out p.v (by simp) b hb e)
 ·rcases List.mem_append.1 hq with hq | hq
  ·exact (h.data q (by simp [hq])).kept hk (fun b hb e => h3 q.v (List.mem_map_of_mem hq) p.v (by simp) b hb e)
  ·rcases List.mem_cons.1 hq with rfl | hq
   ·exact ho
   ·exact (h.data q (by simp [hq])).kept hk (fun b hb e => h4.1 q.v (List.mem_map_of_mem hq) b e hb)
structure OwnD (base : Nat) (tw tb : TypeId) (w : World) (dv pv : Value) (dur : List Int) (ps : List PW) : Prop where
 dur : Own base tb .u8 w dv dur
 pend : OwnP base tw tb w pv ps
 apart : ∀ b, footP pv ps b → dv.ownBlock ≠ some b
def footD (dv pv : Value) (ps : List PW) (b : Nat) : Prop := dv.ownBlock = some b ∨ footP pv ps b
theorem OwnD.kept {R : Nat → Prop} {base : Nat} {tw tb : TypeId} {w w' : World} {dv pv : Value} {dur : List Int} {ps : List PW} (h : OwnD base tw tb w dv pv dur ps) (hk : Kept R w w') (hr : ∀ b, footD dv pv ps b → ¬ R b) : OwnD base tw tb w' dv pv dur ps :=
 ⟨h.dur.kept hk (fun b hb => hr b (.inl hb)), h.pend.kept hk (fun b hb => hr b (.inr hb)), h.apart⟩
theorem OwnD.same {base : Nat} {tw tb : TypeId} {w w' : World} {dv pv : Value} {dur : List Int} {ps : List PW} (h : OwnD base tw tb w dv pv dur ps) (hk : Same w w') : OwnD base tw tb w' dv pv dur ps :=
 h.kept hk (fun _ _ => id)
theorem OwnD.lt {base : Nat} {tw tb : TypeId} {w : World} {dv pv : Value} {dur : List Int} {ps : List PW} (h : OwnD base tw tb w dv pv dur ps) (b : Nat) (hb : footD dv pv ps b) : base ≤ b ∧ b < w.heap.size := by
 rcases hb with hb | hb
 ·exact h.dur.lt b hb
 ·exact h.pend.lt b hb
def Box (w : World) (B : Nat) (x y : Value) : Prop := w.cell? ⟨B, 0, none⟩ = some x ∧ w.cell? ⟨B, 1, none⟩ = some y
theorem Box.new (w : World) (x y : Value) (t : TypeId) : Box (w.alloc (.cells #[x, y] t)) w.heap.size x y := ⟨by simp, by simp⟩
theorem Box.kept {R : Nat → Prop} {w w' : World} {B : Nat} {x y : Value} (h : Box w B x y) (hk : Kept R w w') (hr : ¬ R B) : Box w' B x y :=
 ⟨hk.cellOf h.1 hr, hk.cellOf h.2 hr⟩
theorem Box.same {w w' : World} {B : Nat} {x y : Value} (h : Box w B x y) (hk : Same w w') : Box w' B x y := h.kept hk id
theorem Box.lt {w : World} {B : Nat} {x y : Value} (h : Box w B x y) : B < w.heap.size := World.block_lt_of_cell? w ⟨B, 0, none⟩ h.1
def FBox (w : World) (B : Nat) (x y : Value) : Prop := w.cell? ⟨B, 0, none⟩ = some x ∧ w.cell? ⟨B, 1, none⟩ = some y ∧ w.frozen? ⟨B, 0, none⟩ = false ∧ w.frozen? ⟨B, 1, none⟩ = false
theorem FBox.kept {R : Nat → Prop} {w w' : World} {B : Nat} {x y : Value} (h : FBox w B x y) (hk : Kept R w w') (hr : ¬ R B) : FBox w' B x y := by
 have hl := World.block_lt_of_cell? w ⟨B, 0, none⟩ h.1
 exact ⟨hk.cellOf h.1 hr, hk.cellOf h.2.1 hr, (hk.frozen (p := ⟨B, 0, none⟩) hl hr).trans h.2.2.1, (hk.frozen (p := ⟨B, 1, none⟩) hl hr).trans h.2.2.2⟩
theorem FBox.same {w w' : World} {B : Nat} {x y : Value} (h : FBox w B x y) (hk : Same w w') : FBox w' B x y := h.kept hk id
theorem FBox.new (w : World) (x y : Value) (t : TypeId) : FBox (w.alloc (.cells #[x, y] t)) w.heap.size x y := ⟨by simp, by simp, by simp, by simp⟩
theorem FBox.next {w : World} {B : Nat} {x y : Value} (h : FBox w B x y) (o : Obj) : FBox (w.alloc o) B x y := h.same ((Kept.refl _ _).alloc _)
theorem FBox.lt {w : World} {B : Nat} {x y : Value} (h : FBox w B x y) : B < w.heap.size := World.block_lt_of_cell? w ⟨B, 0, none⟩ h.1
theorem FBox.other {w : World} {B : Nat} {x y : Value} (h : FBox w B x y) (a : Addr) (ha : a.block ≠ B) (u : Value) : FBox (w.setCell a u) B x y :=
 h.kept (Kept.setCell (Kept.refl (fun b => b = a.block) w) (p := a) (.inr rfl) u) (fun e => ha e.symm)
theorem OwnP.snoc {base : Nat} {tw tb : TypeId} {w w' : World} {v u : Value} {qs : List PW} {g n cap : Nat} {sec : Int} {bs : List Int} (h : OwnP base tw tb w v qs) (hu : Own base tb .u8 w u bs) (huf : ∀ b, u.ownBlock = some b → ¬ footP v qs b)
  (hg : w.grownBy w' v.ownBlock) (hrow : w'.ownsRow base tw 2 (.slice (some ⟨g, 0, none⟩) (n + 1) cap) (n + 1) (pwCells qs ++ [.int .i64 sec, u])) (hn : n = qs.length) (hat : v.ownBlock = some g ∨ g = w.heap.size) :
  OwnP base tw tb w' (.slice (some ⟨g, 0, none⟩) (n + 1) cap) (qs ++ [⟨sec, u, bs⟩]) := by
 have hk : Kept (fun b => v.ownBlock = some b) w w' := Kept.of_grown hg (fun k e => e)
 have hul : ∀ b, u.ownBlock = some b → b < w.heap.size := fun b hb => (hu.lt b hb).2
 have hgu : u.ownBlock ≠ some g := fun e => by
  rcases hat with hat | hat
  ·exact huf g e (.inl hat)
  ·have := hul g e; omega
 have hgp : ∀ p ∈ qs, p.v.ownBlock ≠ some g := fun p hp e => by
  rcases hat with hat | hat
  ·exact h.out p.v (List.mem_map_of_mem hp) g hat e
  ·have := (h.lt g (.inr ⟨p, hp, e⟩)).2; omega
 refine ⟨?_, fun p hp => ?_, fun x hx => ?_, ?_⟩
 ·have e : pwCells (qs ++ [(⟨sec, u, bs⟩ : PW)]) = pwCells qs ++ [.int .i64 sec, u] := by rw [pwCells_append]; rfl
  rw [e, List.length_append, List.length_singleton, ← hn]
  exact hrow
 ·rcases List.mem_append.1 hp with hp | hp
  ·exact (h.data p hp).kept hk (fun b hb e => h.out p.v (List.mem_map_of_mem hp) b e hb)
  ·simp at hp
   subst hp
   exact hu.kept hk (fun b hb e => huf b hb (.inl e))
 ·rw [List.map_append, List.mem_append] at hx
  intro b hb
  have hb' : b = g := by simpa [Value.ownBlock] using hb.symm
  subst hb'
  rcases hx with hx | hx
  ·obtain ⟨p, hp, rfl⟩ := List.mem_map.1 hx
   exact hgp p hp
  ·simp at hx
   subst hx
   exact hgu
 ·rw [List.map_append]
  refine List.pairwise_append.2 ⟨h.each, by simp, fun x hx y hy => ?_⟩
  obtain ⟨p, hp, rfl⟩ := List.mem_map.1 hx
  simp at hy
  subst hy
  exact fun b hb hb' => huf b hb' (.inr ⟨p, hp, hb⟩)
theorem ret_int {k : IntKind} {a b : Int} (h : a = b) : Ending.returned (.int k a) = .returned (.int k b) := by rw [h]
def Rd (k : IntKind) (w : World) (v : Value) (bs : List Int) : Prop :=
 bs.length ≤ maxLen ∧ ((bs = [] ∧ ∃ a c, v = .slice a 0 c ∧ (a = none → c = 0)) ∨ ∃ b off c, v = .slice (some ⟨b, off, none⟩) bs.length c ∧ bs.length ≤ c ∧ ∀ i, i < bs.length → w.cell? ⟨b, off + i, none⟩ = some (.int k (bs.getD i 0)))
theorem Rd.kept {R : Nat → Prop} {k : IntKind} {w w' : World} {v : Value} {bs : List Int} (h : Rd k w v bs) (hk : Kept R w w') (hr : ∀ b, v.ownBlock = some b → ¬ R b) : Rd k w' v bs := by
 refine ⟨h.1, ?_⟩
 rcases h.2 with h | ⟨b, off, c, rfl, hl, hc⟩
 ·exact .inl h
 ·exact .inr ⟨b, off, c, rfl, hl, fun i hi => hk.cellOf (hc i hi) (hr b rfl)⟩
theorem Rd.same {k : IntKind} {w w' : World} {v : Value} {bs : List Int} (h : Rd k w v bs) (hk : Same w w') : Rd k w' v bs := h.kept hk (fun _ _ => id)
theorem Rd.form {k : IntKind} {w : World} {v : Value} {bs : List Int} (h : Rd k w v bs) : ∃ a c, v = .slice a bs.length c := by
 rcases h.2 with ⟨rfl, a, c, rfl, _⟩ | ⟨b, off, c, rfl, _⟩ <;> exact ⟨_, _, rfl⟩
def IsB (bs : List Int) : Prop := ∀ x ∈ bs, 0 ≤ x ∧ x ≤ 255
theorem IsB.at {bs : List Int} (h : IsB bs) (i : Nat) (hi : i < bs.length) : 0 ≤ bs.getD i 0 ∧ bs.getD i 0 ≤ 255 := by
 rw [List.getD_eq_getElem?_getD, List.getElem?_eq_getElem hi]
 exact h _ (List.getElem_mem hi)
structure RdP (w : World) (v : Value) (ps : List PW) : Prop where
 len : ps.length ≤ maxLen
 row : (ps = [] ∧ ∃ a c, v = .slice a 0 c) ∨ ∃ b off c, v = .slice (some ⟨b, off, none⟩) ps.length c ∧ ∀ i (h : i < ps.length), w.cell? ⟨b, off + i * 2, none⟩ = some (.int .i64 ps[i].sec) ∧ w.cell? ⟨b, off + i * 2 + 1, none⟩ = some ps[i].v
 data : ∀ p ∈ ps, Rd .u8 w p.v p.bs
theorem RdP.kept {R : Nat → Prop} {w w' : World} {v : Value} {ps : List PW} (h : RdP w v ps) (hk : Kept R w w') (hr : ∀ b, footP v ps b → ¬ R b) : RdP w' v ps := by
 refine ⟨h.len, ?_, fun p hp => (h.data p hp).kept hk (fun b hb => hr b (.inr ⟨p, hp, hb⟩))⟩
 rcases h.row with h | ⟨b, off, c, rfl, hc⟩
 ·exact .inl h
 ·exact .inr ⟨b, off, c, rfl, fun i hi => ⟨hk.cellOf (hc i hi).1 (hr b (.inl rfl)), hk.cellOf (hc i hi).2 (hr b (.inl rfl))⟩⟩
theorem RdP.same {w w' : World} {v : Value} {ps : List PW} (h : RdP w v ps) (hk : Same w w') : RdP w' v ps := h.kept hk (fun _ _ => id)
theorem RdP.form {w : World} {v : Value} {ps : List PW} (h : RdP w v ps) : ∃ a c, v = .slice a ps.length c := by
 rcases h.row with ⟨rfl, a, c, rfl⟩ | ⟨b, off, c, rfl, _⟩ <;> exact ⟨_, _, rfl⟩
structure RdD (w : World) (dv pv : Value) (dur : List Int) (ps : List PW) : Prop where
 dur : Rd .u8 w dv dur
 pend : RdP w pv ps
theorem RdD.kept {R : Nat → Prop} {w w' : World} {dv pv : Value} {dur : List Int} {ps : List PW} (h : RdD w dv pv dur ps) (hk : Kept R w w') (hr : ∀ b, footD dv pv ps b → ¬ R b) : RdD w' dv pv dur ps :=
 ⟨h.dur.kept hk (fun b hb => hr b (.inl hb)), h.pend.kept hk (fun b hb => hr b (.inr hb))⟩
theorem RdD.same {w w' : World} {dv pv : Value} {dur : List Int} {ps : List PW} (h : RdD w dv pv dur ps) (hk : Same w w') : RdD w' dv pv dur ps := h.kept hk (fun _ _ => id)
section
variable {P : Program} {ops : Array Oper} {Q : Exit → Act → World → Prop} {md : Region.Mode} {S : World → Prop} {s : Nat}
def wpAnyV (P : Program) (md : Region.Mode) (ops : Array Oper) (Q : Exit → Act → World → Prop) (S : World → Prop) (s : Nat) : Nat → Array Bool → Act → World → Prop
 | 0, listed, a, w => Region.ready md ops listed = [] ∧ Q .normal a w
 | fuel + 1, listed, a, w =>
  (Region.ready md ops listed = [] → Q .normal a w) ∧
  ∀ i ∈ Region.ready md ops listed, wpOp P ops Q i (fun a' w' => (i ≠ s → S w') ∧ wpAnyV P md ops Q S s fuel (listed.setIfInBounds i true) a' w') a w
theorem wpAny_of_V : ∀ (fuel : Nat) (listed : Array Bool) (a : Act) (w : World), wpAnyV P md ops Q S s fuel listed a w → wpAny P md ops Q fuel listed a w
 | 0, _, _, _, h => h
 | fuel + 1, _, _, _, h => ⟨h.1, fun i hi => wpOp_mono (fun a' w' h' => wpAny_of_V fuel _ a' w' h'.2) (h.2 i hi)⟩
def waits (md : Region.Mode) (ops : Array Oper) (s i : Nat) : Bool :=
 match ops[s]? with
 | some o => o.after.any fun e => Region.binds md e && e.on == i
 | none => true
theorem waits_spec {i : Nat} (h : waits md ops s i = true) {os : Oper} (ho : ops[s]? = some os) (hn : ∀ e ∈ os.after, Region.binds md e = true → e.on ≠ i) : False := by
 unfold waits at h
 rw [ho] at h
 obtain ⟨e, he, hb⟩ := Array.any_eq_true'.1 h
 simp only [Bool.and_eq_true, beq_iff_eq] at hb
 exact hn e he hb.1 hb.2
theorem ready_apart {listed : Array Bool} {i j : Nat} (hi : i ∈ Region.ready md ops listed) (hj : j ∈ Region.ready md ops listed) {oj : Oper} (hoj : ops[j]? = some oj) :
  ∀ e ∈ oj.after, Region.binds md e = true → e.on ≠ i := by
 rintro e he hb rfl
 obtain ⟨_, o, ho, hall⟩ := mem_ready.1 hj
 obtain rfl : o = oj := by rw [hoj] at ho; exact (Option.some.inj ho).symm
 have hyes := hall e he hb
 have hno := (mem_ready.1 hi).1
 by_cases hl : e.on < listed.size <;> simp_all
def Loose (md : Region.Mode) (ops : Array Oper) (i : Nat) (oi : Oper) (listed : Array Bool) : Prop :=
 ∀ j oj, ops[j]? = some oj → j ≠ i → listed.getD j true = false → (∀ e ∈ oj.after, Region.binds md e = true → e.on ≠ i) → oi.apart ops oj = true
theorem Loose.on {i j : Nat} {oi : Oper} {listed : Array Bool} (h : Loose md ops i oi listed) (hj : listed.getD j true = false) : Loose md ops i oi (listed.setIfInBounds j true) := fun k ok hk hki hun hno =>
 h k ok hk hki (if e : j = k then e ▸ hj else (getD_set_ne true e) ▸ hun) hno
theorem wpAnyV_first {i : Nat} {oi : Oper} {v : Value} (hi : ops[i]? = some oi) (hsel : ∀ (j : Nat) (o : Oper) cs b, ops[j]? = some o → o.op ≠ .select cs b) (hs : waits md ops s i = true)
  (hQ : ∀ c a w, Q (.panic c) (a.put oi.dst v) w → Q (.panic c) a w) (fuel : Nat) : ∀ (listed : Array Bool) (a : Act) (w : World), Loose md ops i oi listed → i ∈ Region.ready md ops listed → YieldsIf P ops S oi v a → S w →
   wpAnyV P md ops Q S s fuel (listed.setIfInBounds i true) (a.put oi.dst v) w → wpAnyV P md ops Q S s (fuel + 1) listed a w := by
 induction fuel with
 | zero =>
  intro listed a w _ hr hy hS H
  constructor
  ·intro h0; simp [h0] at hr
  ·intro j hj
   by_cases e : j = i
   ·exact e ▸ hy.wpOp hi hS ⟨fun _ => hS, H⟩
   ·have := ready_mono hj e
    simp [H.1] at this
 | succ fuel ih =>
  intro listed a w hl hr hy hS H
  constructor
  ·intro h0; simp [h0] at hr
  ·intro j hj
   by_cases e : j = i
   ·exact e ▸ hy.wpOp hi hS ⟨fun _ => hS, H⟩
   ·obtain ⟨hun, oj, hoj, _⟩ := mem_ready.1 hj
    have hap := ready_apart hr hj hoj
    have hjs : j ≠ s := fun es => waits_spec hs (es ▸ hoj) hap
    refine wpOp_mono ?_ (wpOp_putIf hoj (hl j oj hoj e hun hap) (fun cs b => hsel i oi cs b hi) (fun cs b => hsel j oj cs b hoj) hQ hy (H.2 j (ready_mono hj e)))
    rintro a' w' ⟨hy', hS', hw'⟩
    exact ⟨hS', ih _ a' w' (hl.on hun) (ready_mono hr (Ne.symm e)) hy' (hS' hjs) (by rw [Array.setIfInBounds_comm _ _ e]; exact hw')⟩
theorem wpAnyV_take {i : Nat} {oi : Oper} {v : Value} {fuel : Nat} {listed : Array Bool} {a : Act} {w : World} (d : Option Tmp) (hi : ops[i]? = some oi) (hd : oi.dst = d)
  (hsl : Region.noSelect ops = true) (hf : Region.free md ops listed i = true) (hr : (Region.ready md ops listed).contains i = true) (hs : waits md ops s i = true)
  (hQ : ∀ c a w, Q (.panic c) (a.put d v) w → Q (.panic c) a w) (hy : YieldsIf P ops S oi v a) (hS : S w)
  (h : wpAnyV P md ops Q S s fuel (listed.setIfInBounds i true) (a.put d v) w) : wpAnyV P md ops Q S s (fuel + 1) listed a w := by
 subst hd
 exact wpAnyV_first hi (Region.noSelect_spec hsl) hs hQ fuel listed a w (Region.free_spec hi hf) (by simpa using hr) hy hS h
theorem sA {α : Type} {l : List α} {i : Nat} {a : α} : l.toArray.setIfInBounds i a = (l.set i a).toArray := List.setIfInBounds_toArray ..
theorem s0 {α : Type} {x : α} {xs : List α} {a : α} : (x :: xs).set 0 a = a :: xs := List.set_cons_zero
theorem sS {α : Type} {x : α} {xs : List α} {i : Nat} {a : α} : (x :: xs).set (i + 1) a = x :: xs.set i a := List.set_cons_succ
theorem tk (i d : Nat) {oi : Oper} {v : Value} {fuel : Nat} {listed : Array Bool} {a a' : Act} {w : World} (hS : S w)
  (h : wpAnyV P md ops Q S s fuel (listed.setIfInBounds i true) a' w) (hi : ops[i]? = some oi := by rfl) (hg : Region.wanted oi (yielded ops a.tmps) = true := by rfl) (hd : oi.dst = some d := by rfl)
  (hy : ∀ w, S w → (execOp a.eval oi).run P w = .ok (.value v) w := by intro w hSw; (try dsimp (config := { zetaDelta := true }) only at hSw); go_simp; (try with_reducible rfl))
  (hsl : Region.noSelect ops = true := by kernel_rfl) (hf : Region.free md ops listed i = true := by kernel_rfl) (hr : (Region.ready md ops listed).contains i = true := by kernel_rfl) (hs : waits md ops s i = true := by kernel_rfl)
  (hQ : ∀ c a w, Q (.panic c) (a.put (some d) v) w → Q (.panic c) a w := by exact fun _ _ _ h => h)
  (ha : a.put (some d) v = a' := by first | (simp only [Act.put, sA, s0, sS]; done) | (simp only [Act.put, sA, s0, sS]; rfl) | rfl) : wpAnyV P md ops Q S s (fuel + 1) listed a w :=
 wpAnyV_take (some d) hi hd hsl hf hr hs hQ (Or.inl ⟨hg, hy⟩) hS (ha ▸ h)
theorem tkV (i d : Nat) (v : Value) {oi : Oper} {fuel : Nat} {listed : Array Bool} {a a' : Act} {w : World} (hS : S w)
  (h : wpAnyV P md ops Q S s fuel (listed.setIfInBounds i true) a' w) (hi : ops[i]? = some oi := by rfl) (hg : Region.wanted oi (yielded ops a.tmps) = true := by rfl) (hd : oi.dst = some d := by rfl)
  (hy : ∀ w, S w → (execOp a.eval oi).run P w = .ok (.value v) w := by intro w hSw; (try dsimp (config := { zetaDelta := true }) only at hSw); go_simp; (try omega))
  (hsl : Region.noSelect ops = true := by kernel_rfl) (hf : Region.free md ops listed i = true := by kernel_rfl) (hr : (Region.ready md ops listed).contains i = true := by kernel_rfl) (hs : waits md ops s i = true := by kernel_rfl)
  (hQ : ∀ c a w, Q (.panic c) (a.put (some d) v) w → Q (.panic c) a w := by exact fun _ _ _ h => h)
  (ha : a.put (some d) v = a' := by first | (simp only [Act.put, sA, s0, sS]; done) | (simp only [Act.put, sA, s0, sS]; rfl) | rfl) : wpAnyV P md ops Q S s (fuel + 1) listed a w :=
 wpAnyV_take (some d) hi hd hsl hf hr hs hQ (Or.inl ⟨hg, hy⟩) hS (ha ▸ h)
theorem wpAnyV_one {i : Nat} {o : Oper} {fuel : Nat} {listed : Array Bool} {a : Act} {w : World} (hr : Region.ready md ops listed = [i]) (ho : ops[i]? = some o)
  (h : ∀ K' : Act → World → Prop, Shut (∀ a w, (i ≠ s → S w) → wpAnyV P md ops Q S s fuel (listed.setIfInBounds i true) a w → K' a w) → if Region.wanted o (yielded ops a.tmps) = true then Oper.wp P o a w K' Q else K' (a.put o.dst undef) w) :
  wpAnyV P md ops Q S s (fuel + 1) listed a w := by
 constructor
 ·intro h0; simp [hr] at h0
 ·intro j hj
  rw [hr] at hj
  obtain rfl : j = i := by simpa using hj
  exact wpOp_step ho (fun K' hK => h K' (fun a w hS hW => hK a w ⟨hS, hW⟩))
theorem wpAnyV_done {fuel : Nat} {listed : Array Bool} {a : Act} {w : World} (hr : Region.ready md ops listed = []) (h : Q .normal a w) : wpAnyV P md ops Q S s fuel listed a w := by
 cases fuel with
 | zero => exact ⟨hr, h⟩
 | succ n => exact ⟨fun _ => h, by rw [hr]; simp⟩
theorem wp_region_V {id : Nat} {a : Act} {w : World} (S : World → Prop) (s n : Nat) (hn : ops.size = n) (hm : P.follows .mixedOrders = true) (h : wpAnyV P .any ops Q S s n (Array.replicate n false) a w.drew) : (Code.region id ops true).wp P Q a w := by
 subst hn
 exact wp_region_any hm (wpAny_of_V _ _ _ _ h)
end
set_option maxHeartbeats 400000 in
theorem eqByteS_own {ea eb : TypeId} (base : Nat) (va vb : Value) (bs : List Int) (w : World) (hn : bs.length ≤ 1125899906842624)
  (ha : Own base ea .u8 w va bs) (hb : Own base eb .u8 w vb bs) :
  Calls Try.prog 20 #[va, vb] w fun e w' => e = .returned (.bool true) ∧ ∃ n, w' = w.drewN n := by
 by_cases h0 : bs.length = 0
 ·obtain rfl : bs = [] := List.length_eq_zero_iff.1 h0
  obtain ⟨aa, ca, rfl⟩ : ∃ aa ca, va = .slice aa 0 ca := by rcases ha.form with ⟨rfl, _⟩ | ⟨g, cap, rfl, _⟩ <;> exact ⟨_, _, rfl⟩
  obtain ⟨ab, cb, rfl⟩ : ∃ aa ca, vb = .slice aa 0 ca := by rcases hb.form with ⟨rfl, _⟩ | ⟨g, cap, rfl, _⟩ <;> exact ⟨_, _, rfl⟩
  clear ha hb hn h0
  go_enter Try.func20, Try.ntmps20
  go_wp2
  refine wp_loop_rounds 1 ?_
  rw [rounds_succ]
  go_wp2
  go_ret
  exact ⟨rfl, 0, rfl⟩
 ·obtain ⟨ga, ca, rfl, _, _, _, _⟩ : ∃ g cap, va = .slice (some ⟨g, 0, none⟩) bs.length cap ∧ base ≤ g ∧ g < w.heap.size ∧ bs.length ≤ cap ∧ cap ≤ maxLen := by
   rcases ha.form with ⟨_, rfl⟩ | h
   ·simp at h0
   ·exact h
  obtain ⟨gb, cb, rfl, _, _, _, _⟩ : ∃ g cap, vb = .slice (some ⟨g, 0, none⟩) bs.length cap ∧ base ≤ g ∧ g < w.heap.size ∧ bs.length ≤ cap ∧ cap ≤ maxLen := by
   rcases hb.form with ⟨_, rfl⟩ | h
   ·simp at h0
   ·exact h
  have hca : ∀ j, j < bs.length → w.cell? ⟨ga, j, none⟩ = some (.int .u8 (bs.getD j 0)) := fun j hj => ha.cell rfl j hj
  have hcb : ∀ j, j < bs.length → w.cell? ⟨gb, j, none⟩ = some (.int .u8 (bs.getD j 0)) := fun j hj => hb.cell rfl j hj
  clear ha hb
  generalize hl : bs.length = len at *
  go_enter Try.func20, Try.ntmps20
  go_wp2
  go_loopw [5] (fun i wr => ∃ k n : Nat, k ≤ len ∧ i = .int .i64 k ∧ wr = w.drewN n) (fun i _ => len - (intOf i).toNat)
  case atStart => exact ⟨0, 0, Nat.zero_le _, rfl, rfl⟩
  case round =>
   obtain ⟨k, n, hk, rfl, rfl⟩ := hrel
   by_cases hlt : k < len
   ·have h1 := hca k hlt
    have h2 := hcb k hlt
    clear hca hcb
    go_wp2
    go_quiet (fail)
    go_wp2
    go_roundw
    case rel => exact ⟨k + 1, _, by omega, by go_num, rfl⟩
    case measure => simp [intOf]; omega
   ·go_wp2
    go_ret
    exact ⟨rfl, _, rfl⟩
set_option maxHeartbeats 400000 in
theorem markByteS_own {ea : TypeId} (base : Nat) (va : Value) (bs : List Int) (k0 : Int) (w : World) (hn : bs.length ≤ 1125899906842624) (h0 : 0 ≤ k0) (h1 : k0 ≤ 1125899906842624)
  (ha : Own base ea .u8 w va bs) :
  Calls Try.prog 16 #[va, .int .i64 k0] w fun e w' => e = .returned (.int .i64 (k0 + bs.length)) ∧ Own base ea .u8 w' va (marks k0 bs.length) ∧ Kept (fun b => va.ownBlock = some b) w w' := by
 by_cases hz : bs.length = 0
 ·obtain rfl : bs = [] := List.length_eq_zero_iff.1 hz
  obtain ⟨aa, ca, rfl⟩ : ∃ aa ca, va = .slice aa 0 ca := by rcases ha.form with ⟨rfl, _⟩ | ⟨g, cap, rfl, _⟩ <;> exact ⟨_, _, rfl⟩
  have HA : Hid (Own base ea .u8 w (.slice aa 0 ca) []) := ha
  clear ha hn hz
  go_enter Try.func16, Try.ntmps16
  go_wp2
  refine wp_loop_rounds 1 ?_
  rw [rounds_succ]
  go_wp2
  go_ret
  exact ⟨by simp, by simpa [marks] using HA.out, Kept.refl _ _⟩
 ·obtain ⟨g, cap, rfl, hb, hlt, _, _⟩ : ∃ g cap, va = .slice (some ⟨g, 0, none⟩) bs.length cap ∧ base ≤ g ∧ g < w.heap.size ∧ bs.length ≤ cap ∧ cap ≤ maxLen := by
   rcases ha.form with ⟨_, rfl⟩ | h
   ·simp at hz
   ·exact h
  generalize hl : bs.length = len at *
  have HL : Hid (bs.length = len) := hl
  clear hl
  go_enter Try.func16, Try.ntmps16
  go_wp2
  go_loopw [1, 5] (fun v i wr => ∃ k : Nat, k ≤ len ∧ i = .int .i64 k ∧ v = .int .i64 (k0 + k) ∧ Hid (Own base ea .u8 wr (.slice (some ⟨g, 0, none⟩) len cap) (part k0 bs k)) ∧ Hid (Kept (fun b => b = g) w wr)) (fun _ i _ => len - (intOf i).toNat)
  case atStart => exact ⟨0, Nat.zero_le _, rfl, by simp, by rw [part_zero]; exact ha, Kept.refl _ _⟩
  case round =>
   obtain ⟨k, hk, rfl, rfl, HO, HK⟩ := hrel
   by_cases hlt : k < len
   ·have hf := HO.out.frozen (by rw [part_length _ _ _ (by have := HL.out; omega)]; exact HL.out.symm) k
    have hc := HO.out.cell (by rw [part_length _ _ _ (by have := HL.out; omega)]; exact HL.out.symm) k hlt
    clear ha
    go_wp2
    go_roundw
    case rel =>
     have hl := HL.out
     refine ⟨k + 1, by omega, by go_num, by go_num, ?_, HK.out.setCell (.inr rfl) _⟩
     have := HO.out.stored (by rw [part_length _ _ _ (by omega)]; omega) k ((k0 + k) % 256)
     rwa [part_step _ _ _ (by omega)] at this
    case measure => simp [intOf]; omega
   ·go_wp2
    go_ret
    obtain rfl : k = len := by omega
    have hl := HL.out
    refine ⟨rfl, ?_, HK.out.mono (fun b _ e => by simp [Value.ownBlock, e])⟩
    have := HO.out
    rw [← hl, part_all, hl] at this
    exact this
set_option maxHeartbeats 400000 in
theorem heldByteS_own {ea : TypeId} (base : Nat) (va : Value) (n : Nat) (k0 : Int) (w : World) (hn : n ≤ 1125899906842624) (h0 : 0 ≤ k0) (h1 : k0 ≤ 1125899906842624)
  (ha : Own base ea .u8 w va (marks k0 n)) :
  Calls Try.prog 17 #[va, .int .i64 k0] w fun e w' => e = .returned (.int .i64 (k0 + n)) ∧ w' = w := by
 by_cases hz : n = 0
 ·subst hz
  obtain ⟨aa, ca, rfl⟩ : ∃ aa ca, va = .slice aa 0 ca := by rcases ha.form with ⟨rfl, _⟩ | ⟨g, cap, rfl, _⟩ <;> exact ⟨_, _, rfl⟩
  clear ha hn
  go_enter Try.func17, Try.ntmps17
  go_wp2
  refine wp_loop_rounds 1 ?_
  rw [rounds_succ]
  go_wp2
  go_ret
  exact ⟨by simp, rfl⟩
 ·obtain ⟨g, cap, rfl⟩ : ∃ g cap, va = .slice (some ⟨g, 0, none⟩) n cap := by
   rcases ha.form with ⟨_, h⟩ | ⟨g, cap, h, _⟩
   ·have := congrArg List.length h; simp [marks_length] at this; omega
   ·exact ⟨g, cap, by rw [h, marks_length]⟩
  have hc : ∀ j, j < n → w.cell? ⟨g, j, none⟩ = some (.int .u8 ((k0 + j) % 256)) := fun j hj => by
   rw [ha.cell (marks_length _ _).symm j hj, marks_at _ _ _ hj]
  clear ha
  go_enter Try.func17, Try.ntmps17
  go_wp2
  go_loop [1, 5] (fun v i => ∃ k : Nat, k ≤ n ∧ i = .int .i64 k ∧ v = .int .i64 (k0 + k)) (fun _ i => n - (intOf i).toNat)
  case atStart => exact ⟨0, Nat.zero_le _, rfl, by simp⟩
  case round =>
   obtain ⟨k, hk, rfl, rfl⟩ := hrel
   by_cases hlt : k < n
   ·have h2 := hc k hlt
    clear hc
    go_wp2
    go_round
    case rel => exact ⟨k + 1, by omega, by go_num, by go_num⟩
    case measure => simp [intOf]; omega
   ·go_wp2
    go_ret
    obtain rfl : k = n := by omega
    exact ⟨rfl, rfl⟩
def Blk (w : World) (B : Nat) (e : TypeId) (xs : List Value) : Prop := w.heap[B]? = some (.cells xs.toArray e (0, 0))
theorem Blk.lt {w : World} {B : Nat} {e : TypeId} {xs : List Value} (h : Blk w B e xs) : B < w.heap.size := (Array.getElem?_eq_some_iff.1 h).1
theorem Blk.cell {w : World} {B : Nat} {e : TypeId} {xs : List Value} (h : Blk w B e xs) (j : Nat) : w.cell? ⟨B, j, none⟩ = xs[j]? := by
 unfold Blk at h
 simp [World.cell?, h]
theorem Blk.frozen {w : World} {B : Nat} {e : TypeId} {xs : List Value} (h : Blk w B e xs) (j : Nat) : w.frozen? ⟨B, j, none⟩ = false := by
 unfold Blk at h
 simp [World.frozen?, h]
theorem Blk.kept {R : Nat → Prop} {w w' : World} {B : Nat} {e : TypeId} {xs : List Value} (h : Blk w B e xs) (hk : Kept R w w') (hr : ¬ R B) : Blk w' B e xs := hk.heap h hr
theorem Blk.same {w w' : World} {B : Nat} {e : TypeId} {xs : List Value} (h : Blk w B e xs) (hk : Same w w') : Blk w' B e xs := hk.heap h id
theorem Blk.new (w : World) (xs : Array Value) (e : TypeId) : Blk (w.alloc (.cells xs e)) w.heap.size e xs.toList := by
 unfold Blk World.alloc
 rw [Array.toArray_toList]
 exact Array.getElem?_push_size
theorem Blk.newL (w : World) (xs : List Value) (e : TypeId) : Blk (w.alloc (.cells xs.toArray e)) w.heap.size e xs := Blk.new w xs.toArray e
theorem Blk.c0 {w : World} {B : Nat} {e : TypeId} {v0 : Value} {t : List Value} (h : Blk w B e (v0 :: t)) : w.cell? ⟨B, 0, none⟩ = some v0 := h.cell 0
theorem Blk.c1 {w : World} {B : Nat} {e : TypeId} {v0 v1 : Value} {t : List Value} (h : Blk w B e (v0 :: v1 :: t)) : w.cell? ⟨B, 1, none⟩ = some v1 := h.cell 1
theorem Blk.c2 {w : World} {B : Nat} {e : TypeId} {v0 v1 v2 : Value} {t : List Value} (h : Blk w B e (v0 :: v1 :: v2 :: t)) : w.cell? ⟨B, 2, none⟩ = some v2 := h.cell 2
theorem Blk.c3 {w : World} {B : Nat} {e : TypeId} {v0 v1 v2 v3 : Value} {t : List Value} (h : Blk w B e (v0 :: v1 :: v2 :: v3 :: t)) : w.cell? ⟨B, 3, none⟩ = some v3 := h.cell 3
theorem Blk.c4 {w : World} {B : Nat} {e : TypeId} {v0 v1 v2 v3 v4 : Value} {t : List Value} (h : Blk w B e (v0 :: v1 :: v2 :: v3 :: v4 :: t)) : w.cell? ⟨B, 4, none⟩ = some v4 := h.cell 4
theorem Blk.c5 {w : World} {B : Nat} {e : TypeId} {v0 v1 v2 v3 v4 v5 : Value} {t : List Value} (h : Blk w B e (v0 :: v1 :: v2 :: v3 :: v4 :: v5 :: t)) : w.cell? ⟨B, 5, none⟩ = some v5 := h.cell 5
theorem Blk.all2 {w : World} {B : Nat} {e : TypeId} {v0 v1 : Value} (h : Blk w B e [v0, v1]) : w.cell? ⟨B, 0, none⟩ = some v0 ∧ w.cell? ⟨B, 1, none⟩ = some v1 := ⟨h.cell 0, h.cell 1⟩
theorem sameA (w : World) (xs : List Value) (e : TypeId) : Same w (w.alloc (.cells xs.toArray e)) := (Kept.refl _ _).alloc _
theorem Blk.newB (w : World) (xs : List Value) (e : TypeId) (ys : List Value) (e' : TypeId) : Blk ((w.alloc (.cells xs.toArray e)).alloc (.cells ys.toArray e')) (w.heap.size + 1) e' ys := by
 have h := Blk.newL (w.alloc (.cells xs.toArray e)) ys e'
 rwa [World.size_alloc] at h
theorem Blk.drew {w : World} {B : Nat} {e : TypeId} {xs : List Value} (h : Blk w B e xs) : Blk w.drew B e xs := h
theorem Blk.alloc {w : World} {B : Nat} {e : TypeId} {xs : List Value} (h : Blk w B e xs) (o : Obj) : Blk (w.alloc o) B e xs := by
 have := Below.heap_alloc w o B h.lt
 unfold Blk
 rw [this]
 exact h
theorem Blk.stored {w : World} {B : Nat} {e : TypeId} {xs : List Value} (h : Blk w B e xs) (j : Nat) (v : Value) : Blk (w.setCell ⟨B, j, none⟩ v) B e (xs.set j v) := by
 unfold Blk at h ⊢
 have hl := (Array.getElem?_eq_some_iff.1 h).1
 have hg := (Array.getElem?_eq_some_iff.1 h).2
 simp [World.setCell, hl, Array.getElem_modify, hg]
theorem Blk.other {w : World} {B : Nat} {e : TypeId} {xs : List Value} (h : Blk w B e xs) {p : Addr} (hp : p.block ≠ B) (v : Value) : Blk (w.setCell p v) B e xs := by
 unfold Blk
 rw [Below.heap_setCell _ _ _ _ (fun e => hp e.symm)]
 exact h
theorem Blk.own {w : World} {g : Nat} {e : TypeId} {k : IntKind} {bs : List Int} (h : Blk w g e (vals k bs)) (hm : bs.length ≤ maxLen) : Own 0 e k w (.slice (some ⟨g, 0, none⟩) bs.length bs.length) bs :=
 ⟨by simp [vals], .inr ⟨g, bs.length, (vals k bs).toArray, rfl, Nat.zero_le _, h, Nat.le_refl _, hm, by simp [vals], by simp only [Nat.mul_one]; exact List.take_of_length_le (by simp [vals])⟩⟩
def lay (xs : List Value) (o : Nat) (vs : List Value) : List Value := xs.take o ++ (vs ++ xs.drop (o + vs.length))
theorem lay_cons (xs : List Value) (o : Nat) (v : Value) (vs : List Value) (h : o + (vs.length + 1) ≤ xs.length) : lay (xs.set o v) (o + 1) vs = lay xs o (v :: vs) := by
 have hlt : o < xs.length := by omega
 apply List.ext_getElem?
 intro j
 unfold lay
 simp only [List.getElem?_append, List.length_take, List.length_set, List.getElem?_take, List.getElem?_drop, List.length_cons]
 by_cases h1 : j < o
 ·rw [if_pos (by omega), if_pos (by omega), if_pos (by omega), if_pos h1, List.getElem?_set_ne (by omega)]
 ·by_cases h2 : j = o
  ·subst h2
   rw [if_pos (by omega), if_pos (by omega), if_neg (by omega), if_pos (by omega)]
   have e : j - min j xs.length = 0 := by omega
   simp [hlt, e]
  ·by_cases h3 : j < o + 1 + vs.length
   ·rw [if_neg (by omega), if_pos (by omega), if_neg (by omega), if_pos (by omega)]
    have e : j - min o xs.length = (j - min (o + 1) xs.length) + 1 := by omega
    rw [e, List.getElem?_cons_succ]
   ·rw [if_neg (by omega), if_neg (by omega), if_neg (by omega), if_neg (by omega), List.getElem?_set_ne (by omega)]
    congr 1
    omega
theorem lay_nil (xs : List Value) (o : Nat) : lay xs o [] = xs := by simp [lay]
theorem addr_add (B o j : Nat) : (⟨B, o, none⟩ : Addr).add j = ⟨B, o + j, none⟩ := by unfold Addr.add; split <;> simp_all
theorem Blk.loads {P : Program} {w : World} {B : Nat} {e : TypeId} {xs : List Value} (h : Blk w B e xs) (o n : Nat) (hn : o + n ≤ xs.length) : (loadCellsFrom ⟨B, o, none⟩ 0 n #[]).run P w = .ok ((xs.drop o).take n).toArray w := by
 have hl : ((xs.drop o).take n).length = n := by simp; omega
 have := run_loadCells_list (P := P) w ⟨B, o, none⟩ ((xs.drop o).take n) (fun j v hv => by
  rw [addr_add, h.cell]
  have hj : j < n := by have := (List.getElem?_eq_some_iff.1 hv).1; omega
  rw [List.getElem?_take_of_lt hj, List.getElem?_drop] at hv
  exact hv)
 simpa [loadCells, hl] using this
theorem Blk.setCells {B : Nat} {e : TypeId} : ∀ (vs : List Value) (o : Nat) {w : World} {xs : List Value}, Blk w B e xs → o + vs.length ≤ xs.length → Blk (w.setCells B o vs) B e (lay xs o vs)
 | [], o, w, xs, h, _ => by rw [lay_nil]; exact h
 | v :: vs, o, w, xs, h, hl => by
  simp only [List.length_cons] at hl
  have := Blk.setCells vs (o + 1) (h.stored o v) (by rw [List.length_set]; omega)
  rw [lay_cons _ _ _ _ hl] at this
  exact this
theorem Kept.setCells {R : Nat → Prop} {a : World} {B : Nat} (hB : a.heap.size ≤ B ∨ R B) : ∀ (vs : List Value) (o : Nat) {b : World}, Kept R a b → Kept R a (b.setCells B o vs)
 | [], _, _, h => h
 | v :: vs, o, b, h => Kept.setCells hB vs (o + 1) (h.setCell (p := ⟨B, o, none⟩) hB v)
theorem Blk.range {w : World} {B : Nat} {e : TypeId} {xs : List Value} (h : Blk w B e xs) (o : Nat) (cs : List Value) (hc : ∀ j v, cs[j]? = some v → xs[o + j]? = some v) : w.rangeAt B o cs := fun j v hv => by
 rw [h.cell]
 exact hc j v hv
theorem Blk.there {w : World} {B : Nat} {e : TypeId} {xs : List Value} (h : Blk w B e xs) (o n : Nat) (hn : o + n ≤ xs.length) : w.there B o n := fun j hj => ⟨by rw [h.cell, List.getElem?_eq_getElem (by omega)]; rfl, h.frozen _⟩
theorem run_copy_m {P : Program} (w : World) (dT sT ty elem : TypeId) (m b o dLen dCap : Nat) (a : Addr) (sLen sCap c : Nat) (cs : List Value)
  (hu : P.underlying dT = some (.slice elem)) (hs : (P.info? elem).map (·.size) = some m) (hc0 : Nat.min sLen dLen = c) (hn : c * m = cs.length)
  (hsrc : ∀ j v, cs[j]? = some v → w.cell? (a.add j) = some v) (hc : ∀ j, j < cs.length → (w.cell? ⟨b, o + j, none⟩).isSome = true) (hf : ∀ j, j < cs.length → w.frozen? ⟨b, o + j, none⟩ = false) (h1 : ∀ v ∈ cs, v.oneCell' = true) :
  (Builtin.copy_ #[dT, sT] ty #[.slice (some ⟨b, o, none⟩) dLen dCap, .slice (some a) sLen sCap]).run P w = .ok (goInt c) (w.setCells b o cs) := by
 have hl := run_loadCells_list (P := P) w a cs hsrc
 have hst := run_storeCells_cells (P := P) b o cs 0 w (by simpa using hc) (by simpa using hf) h1
 cases hq : P.info? elem with
 | none => simp [hq] at hs
 | some i =>
  have hi : i.size = m := by simpa [hq] using hs
  simp [Builtin.copy_, run_underlying hu, Builtin.lenOf, Builtin.firstCells, sizeOf, typeInfo, hq, hi, hc0, hn, hl, hst]
section
variable {P : Program} {ops : Array Oper} {o : Oper} {a : Act} {w : World} {K : Act → World → Prop} {Q : Exit → Act → World → Prop} {E : Prop}
theorem step_copy_m {B off dl dc sl sc m c : Nat} {e tb : TypeId} {ad : Addr} {xs : List Value} (hgd : o.guard = none) (d s : Operand) (T : TypeId) (ho : o.op = .call { callee := .builtin .copy, args := #[d, s], argTypes := #[T, T] })
  (hu : P.underlying T = some (.slice tb)) (hsz : (P.info? tb).map (·.size) = some m) (cs : List Value) (hb : Blk w B e xs) (hd : a.eval d = .slice (some ⟨B, off, none⟩) dl dc) (hs : a.eval s = .slice (some ad) sl sc)
  (hc0 : Nat.min sl dl = c) (hn : c * m = cs.length) (hsrc : ∀ j v, cs[j]? = some v → w.cell? (ad.add j) = some v) (hfit : off + cs.length ≤ xs.length) (h1 : ∀ v ∈ cs, v.oneCell' = true)
  (h : K (a.put o.dst (goInt c)) (w.setCells B off cs)) :
  if Region.wanted o (yielded ops a.tmps) = true then Oper.wp P o a w K Q else E := by
 have hw : Region.wanted o (yielded ops a.tmps) = true := by simp [Region.wanted, hgd]
 rw [if_pos hw]
 have hrun := run_copy_m (P := P) w T T o.type tb m B off dl dc ad sl sc c cs hu hsz hc0 hn hsrc (fun j hj => by rw [hb.cell, List.getElem?_eq_getElem (by omega)]; rfl) (fun j _ => hb.frozen _) h1
 unfold Oper.wp
 simp [execOp, ho, resolve, invoke, builtin, hd, hs, hrun, Result.andThen]
 exact h
end
end Go.Proofs.Ytjendhajichhkaa
