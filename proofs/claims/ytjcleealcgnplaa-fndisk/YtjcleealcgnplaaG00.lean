import Derived.Test.YtjcleealcgnplaaRows
import Derived.Test.YtjcleealcgnplaaProg
import Derived.WalkKit
import Derived.WalkSpells
import Derived.Deep.Draws
import Derived.ProofKit
import Derived.OpenShut
import Derived.ShutString
import Derived.ChangeOld
import Derived.Below
import Derived.Lib.SmallJoins
import Derived.Deep.Slices
import Derived.Deep.SlicePairs
import Derived.Laws.AppendOwnNone
namespace Go.Proofs.Ytjcleealcgnplaa
open Go.RowKit
theorem hid {p : Prop} (h : p) : Hid p := h
structure Kept (R : Nat → Prop) (w w' : World) : Prop where
  os : w'.os = w.os
  tape : w'.tape = w.tape
  output : w'.output = w.output
  size : w.heap.size ≤ w'.heap.size
  block : ∀ k, k < w.heap.size → ¬ R k → w'.heap[k]? = w.heap[k]?
abbrev Same : World → World → Prop := Kept (fun _ => False)
theorem Kept.refl (R : Nat → Prop) (w : World) : Kept R w w := ⟨rfl, rfl, rfl, Nat.le_refl _, fun _ _ _ => rfl⟩
theorem Kept.trans {R : Nat → Prop} {a b c : World} (h : Kept R a b) (k : Kept R b c) : Kept R a c :=
  ⟨k.os.trans h.os, k.tape.trans h.tape, k.output.trans h.output, Nat.le_trans h.size k.size, fun i hi hr => (k.block i (Nat.lt_of_lt_of_le hi h.size) hr).trans (h.block i hi hr)⟩
theorem Kept.mono {R R' : Nat → Prop} {a b : World} (h : Kept R a b) (hr : ∀ k, k < a.heap.size → R k → R' k) : Kept R' a b :=
  ⟨h.os, h.tape, h.output, h.size, fun i hi hn => h.block i hi (fun hR => hn (hr i hi hR))⟩
theorem Kept.next {R R' : Nat → Prop} {a b c : World} (h : Kept R a b) (k : Kept R' b c) (hr : ∀ i, i < a.heap.size → R' i → R i) : Kept R a c :=
  ⟨k.os.trans h.os, k.tape.trans h.tape, k.output.trans h.output, Nat.le_trans h.size k.size, fun i hi hn => (k.block i (Nat.lt_of_lt_of_le hi h.size) (fun e => hn (hr i hi e))).trans (h.block i hi hn)⟩
theorem Kept.drewN {R : Nat → Prop} {a b : World} (h : Kept R a b) (n : Nat) : Kept R a (b.drewN n) := ⟨h.os, h.tape, h.output, h.size, h.block⟩
theorem Kept.drew {R : Nat → Prop} {a b : World} (h : Kept R a b) : Kept R a b.drew := ⟨h.os, h.tape, h.output, h.size, h.block⟩
theorem Kept.alloc {R : Nat → Prop} {a b : World} (h : Kept R a b) (o : Obj) : Kept R a (b.alloc o) :=
  h.trans ⟨rfl, rfl, rfl, by simp, fun k hk _ => Below.heap_alloc _ _ _ hk⟩
theorem Kept.setCell {R : Nat → Prop} {a b : World} (h : Kept R a b) {p : Addr} (hp : a.heap.size ≤ p.block ∨ R p.block) (u : Value) : Kept R a (b.setCell p u) := by
  refine ⟨h.os, h.tape, h.output, by simpa [World.setCell] using h.size, fun k hk hr => ?_⟩
  rw [Below.heap_setCell _ _ _ _ (fun e => by subst e; exact hp.elim (fun h1 => by omega) hr)]
  exact h.block k hk hr
theorem Kept.grown {R : Nat → Prop} {a b c : World} {row : Option Nat} (h : Kept R a b) (hg : b.grownBy c row) (hr : ∀ k, row = some k → a.heap.size ≤ k ∨ R k) : Kept R a c :=
  ⟨hg.os.trans h.os, hg.tape.trans h.tape, hg.output.trans h.output, Nat.le_trans h.size hg.size, fun k hk hn =>
    (hg.block k (Nat.lt_of_lt_of_le hk h.size) (fun e => (hr k e.symm).elim (fun h1 => by omega) hn)).trans (h.block k hk hn)⟩
theorem Kept.of_grown {R : Nat → Prop} {b c : World} {row : Option Nat} (hg : b.grownBy c row) (hr : ∀ k, row = some k → R k) : Kept R b c :=
  (Kept.refl R b).grown hg (fun k e => .inr (hr k e))
theorem Kept.below {R : Nat → Prop} {a b : World} (h : Kept R a b) {B : Nat} (hB : B ≤ a.heap.size) (hr : ∀ k, k < B → ¬ R k) : Below B a b :=
  ⟨h.os, h.tape, h.output, h.size, fun k hk => h.block k (Nat.lt_of_lt_of_le hk hB) (hr k hk)⟩
theorem Kept.heap {R : Nat → Prop} {a b : World} (h : Kept R a b) {k : Nat} {o : Obj} (hk : a.heap[k]? = some o) (hr : ¬ R k) : b.heap[k]? = some o := by
  rw [h.block k (Array.getElem?_eq_some_iff.1 hk).1 hr]; exact hk
theorem Kept.cell {R : Nat → Prop} {a b : World} (h : Kept R a b) {p : Addr} (hp : p.block < a.heap.size) (hr : ¬ R p.block) : b.cell? p = a.cell? p :=
  World.cell?_of_block (w := a) (h.block p.block hp hr)
theorem Kept.frozen {R : Nat → Prop} {a b : World} (h : Kept R a b) {p : Addr} (hp : p.block < a.heap.size) (hr : ¬ R p.block) : b.frozen? p = a.frozen? p :=
  World.frozen?_of_block (w := a) (h.block p.block hp hr)
theorem Kept.cellOf {R : Nat → Prop} {a b : World} (h : Kept R a b) {p : Addr} {v : Value} (hc : a.cell? p = some v) (hr : ¬ R p.block) : b.cell? p = some v :=
  (h.cell (World.block_lt_of_cell? a p hc) hr).trans hc
theorem Kept.owns {R : Nat → Prop} {w w' : World} (k : Kept R w w') {base : Nat} {e : TypeId} {size : Nat} {v : Value} {n : Nat} {xs : List Value} (h : w.ownsRow base e size v n xs)
    (hr : ∀ b, v.ownBlock = some b → ¬ R b) : w'.ownsRow base e size v n xs := by
  refine ⟨h.1, ?_⟩
  rcases h.2 with hn | ⟨g, cap, cur, rfl, hb, hgg, rest⟩
  · exact .inl hn
  · exact .inr ⟨g, cap, cur, rfl, hb, k.heap hgg (hr g rfl), rest⟩
def vals (k : IntKind) (bs : List Int) : List Value := bs.map (Value.int k)
theorem vals_length (k : IntKind) (bs : List Int) : (vals k bs).length = bs.length := by simp [vals]
theorem vals_at (k : IntKind) (bs : List Int) (j : Nat) (h : j < bs.length) : (vals k bs)[j]? = some (.int k (bs.getD j 0)) := by
  simp [vals, h, List.getD]
def Own (base : Nat) (e : TypeId) (k : IntKind) (w : World) (v : Value) (bs : List Int) : Prop := w.ownsRow base e 1 v bs.length (vals k bs)
theorem Own.form {base : Nat} {e : TypeId} {k : IntKind} {w : World} {v : Value} {bs : List Int} (h : Own base e k w v bs) :
    (v = .slice none 0 0 ∧ bs = []) ∨ ∃ g cap, v = .slice (some ⟨g, 0, none⟩) bs.length cap ∧ base ≤ g ∧ g < w.heap.size ∧ bs.length ≤ cap ∧ cap ≤ maxLen := by
  rcases h.2 with ⟨rfl, hn⟩ | ⟨g, cap, cur, rfl, hb, hgg, hc, hm, _⟩
  · exact .inl ⟨rfl, List.length_eq_zero_iff.1 hn⟩
  · exact .inr ⟨g, cap, rfl, hb, (Array.getElem?_eq_some_iff.1 hgg).1, hc, hm⟩
theorem Own.cell {base : Nat} {e : TypeId} {k : IntKind} {w : World} {g n cap : Nat} {bs : List Int} (h : Own base e k w (.slice (some ⟨g, 0, none⟩) n cap) bs) (hn : n = bs.length) (j : Nat) (hj : j < n) :
    w.cell? ⟨g, j, none⟩ = some (.int k (bs.getD j 0)) := by
  subst hn
  have := World.ownsRow.cellAt h j (by omega)
  rw [this, vals_at k bs j hj]
theorem Own.frozen {base : Nat} {e : TypeId} {k : IntKind} {w : World} {g n cap : Nat} {bs : List Int} (h : Own base e k w (.slice (some ⟨g, 0, none⟩) n cap) bs) (hn : n = bs.length) (j : Nat) :
    w.frozen? ⟨g, j, none⟩ = false := by
  subst hn
  exact World.ownsRow.frozenAt h j
theorem Own.kept {R : Nat → Prop} {base : Nat} {e : TypeId} {k : IntKind} {w w' : World} {v : Value} {bs : List Int} (h : Own base e k w v bs) (hk : Kept R w w') (hr : ∀ b, v.ownBlock = some b → ¬ R b) : Own base e k w' v bs :=
  hk.owns h hr
theorem Own.same {base : Nat} {e : TypeId} {k : IntKind} {w w' : World} {v : Value} {bs : List Int} (h : Own base e k w v bs) (hk : Same w w') : Own base e k w' v bs :=
  hk.owns h (fun _ _ => id)
theorem Own.stored {base : Nat} {e : TypeId} {k : IntKind} {w : World} {g n cap : Nat} {bs : List Int} (h : Own base e k w (.slice (some ⟨g, 0, none⟩) n cap) bs) (hn : n = bs.length) (j : Nat) (x : Int) :
    Own base e k (w.setCell ⟨g, j, none⟩ (.int k x)) (.slice (some ⟨g, 0, none⟩) n cap) (bs.set j x) := by
  subst hn
  have := (World.ownsRow.stored h j (.int k x)).1
  unfold Own
  rw [List.length_set]
  have e : vals k (bs.set j x) = (vals k bs).set j (.int k x) := by simp [vals]
  rw [e]
  exact this
theorem Own.lt {base : Nat} {e : TypeId} {k : IntKind} {w : World} {v : Value} {bs : List Int} (h : Own base e k w v bs) : ∀ b, v.ownBlock = some b → base ≤ b ∧ b < w.heap.size :=
  World.ownsRow.lt h
theorem Own.nil (base : Nat) (e : TypeId) (k : IntKind) (w : World) : Own base e k w (.slice none 0 0) [] := World.ownsRow_nil _ _ _ _
theorem Own.mono {base base' : Nat} {e : TypeId} {k : IntKind} {w : World} {v : Value} {bs : List Int} (h : Own base e k w v bs) (hb : ∀ b, v.ownBlock = some b → base' ≤ b) : Own base' e k w v bs := by
  refine ⟨h.1, ?_⟩
  rcases h.2 with hn | ⟨g, cap, cur, rfl, _, hgg, rest⟩
  · exact .inl hn
  · exact .inr ⟨g, cap, cur, rfl, hb g rfl, hgg, rest⟩
theorem slice_of_own {base : Nat} {e : TypeId} {k : IntKind} {w : World} {v : Value} {bs : List Int} (h : Own base e k w v bs) : ∃ aa na ca, v = .slice aa na ca := by
  rcases h.form with ⟨rfl, _⟩ | ⟨g, cap, rfl, _⟩ <;> exact ⟨_, _, _, rfl⟩
theorem news_of {w : World} {b off : Nat} {bs : List Int} (hc : ∀ i, i < bs.length → w.cell? ⟨b, off + i, none⟩ = some (.int .u8 (bs.getD i 0))) (j : Nat) (u : Value) (h : (vals .u8 bs)[j]? = some u) : w.cell? ((⟨b, off, none⟩ : Addr).add j) = some u := by
  have hj : j < bs.length := by have := (List.getElem?_eq_some_iff.1 h).1; rwa [vals_length] at this
  rw [vals_at _ _ _ hj] at h
  have e : (⟨b, off, none⟩ : Addr).add j = ⟨b, off + j, none⟩ := by
    unfold Addr.add
    split
    · next h => subst h; rfl
    · rfl
  rw [e, hc j hj]
  exact h
theorem vals_one {k : IntKind} {bs : List Int} (u : Value) (h : u ∈ vals k bs) : u.oneCell' = true := by
  obtain ⟨x, _, rfl⟩ := List.mem_map.1 h
  rfl
def marks (k : Int) (n : Nat) : List Int := (List.range n).map fun (i : Nat) => (k + (i : Int)) % 256
def part (k : Int) (bs : List Int) (j : Nat) : List Int := marks k j ++ bs.drop j
/-! ### Pending writes: rows of two cells, a sector's number and a slice of bytes -/
structure PW where
  sec : Int
  v : Value
  bs : List Int
def pwCells : List PW → List Value
  | [] => []
  | p :: ps => .int .i64 p.sec :: p.v :: pwCells ps
theorem pwCells_append (ps qs : List PW) : pwCells (ps ++ qs) = pwCells ps ++ pwCells qs := by
  induction ps with
  | nil => rfl
  | cons p ps ih => simp [pwCells, ih]
theorem pwCells_sec (ps : List PW) (j : Nat) (h : j < ps.length) : (pwCells ps)[j * 2]? = some (.int .i64 ps[j].sec) := by
  induction ps generalizing j with
  | nil => simp at h
  | cons p ps ih =>
    cases j with
    | zero => simp [pwCells]
    | succ j => have := ih j (by simpa using h); rw [show (j + 1) * 2 = j * 2 + 1 + 1 from by omega]; simpa [pwCells] using this
theorem pwCells_v (ps : List PW) (j : Nat) (h : j < ps.length) : (pwCells ps)[j * 2 + 1]? = some ps[j].v := by
  induction ps generalizing j with
  | nil => simp at h
  | cons p ps ih =>
    cases j with
    | zero => simp [pwCells]
    | succ j => have := ih j (by simpa using h); rw [show (j + 1) * 2 + 1 = j * 2 + 1 + 1 + 1 from by omega]; simpa [pwCells] using this
def Apart (v u : Value) : Prop := ∀ b, v.ownBlock = some b → u.ownBlock ≠ some b
theorem Apart.symm {v u : Value} (h : Apart v u) : Apart u v := fun b hb hv => h b hv hb
structure OwnP (base : Nat) (tw tb : TypeId) (w : World) (v : Value) (ps : List PW) : Prop where
  row : w.ownsRow base tw 2 v ps.length (pwCells ps)
  data : ∀ p ∈ ps, Own base tb .u8 w p.v p.bs
  out : ∀ u ∈ ps.map PW.v, Apart v u
  each : (ps.map PW.v).Pairwise Apart
def footP (v : Value) (ps : List PW) (b : Nat) : Prop := v.ownBlock = some b ∨ ∃ p ∈ ps, p.v.ownBlock = some b
theorem OwnP.form {base : Nat} {tw tb : TypeId} {w : World} {v : Value} {ps : List PW} (h : OwnP base tw tb w v ps) :
    (v = .slice none 0 0 ∧ ps = []) ∨ ∃ g cap, v = .slice (some ⟨g, 0, none⟩) ps.length cap ∧ base ≤ g ∧ g < w.heap.size ∧ ps.length ≤ cap ∧ cap ≤ maxLen := by
  rcases h.row.2 with ⟨rfl, hn⟩ | ⟨g, cap, cur, rfl, hb, hgg, hc, hm, _⟩
  · exact .inl ⟨rfl, List.length_eq_zero_iff.1 hn⟩
  · exact .inr ⟨g, cap, rfl, hb, (Array.getElem?_eq_some_iff.1 hgg).1, hc, hm⟩
theorem OwnP.lt {base : Nat} {tw tb : TypeId} {w : World} {v : Value} {ps : List PW} (h : OwnP base tw tb w v ps) (b : Nat) (hb : footP v ps b) : base ≤ b ∧ b < w.heap.size := by
  rcases hb with hb | ⟨p, hp, hb⟩
  · exact World.ownsRow.lt h.row b hb
  · exact (h.data p hp).lt b hb
theorem OwnP.sec {base : Nat} {tw tb : TypeId} {w : World} {g n cap : Nat} {ps : List PW} (h : OwnP base tw tb w (.slice (some ⟨g, 0, none⟩) n cap) ps) (hn : n = ps.length) (j : Nat) (hj : j < ps.length) :
    w.cell? ⟨g, j * 2, none⟩ = some (.int .i64 ps[j].sec) := by
  subst hn
  rw [World.ownsRow.cellAt h.row (j * 2) (by omega), pwCells_sec ps j hj]
theorem OwnP.val {base : Nat} {tw tb : TypeId} {w : World} {g n cap : Nat} {ps : List PW} (h : OwnP base tw tb w (.slice (some ⟨g, 0, none⟩) n cap) ps) (hn : n = ps.length) (j : Nat) (hj : j < ps.length) :
    w.cell? ⟨g, j * 2 + 1, none⟩ = some ps[j].v := by
  subst hn
  rw [World.ownsRow.cellAt h.row (j * 2 + 1) (by omega), pwCells_v ps j hj]
theorem OwnP.frozen {base : Nat} {tw tb : TypeId} {w : World} {g n cap : Nat} {ps : List PW} (h : OwnP base tw tb w (.slice (some ⟨g, 0, none⟩) n cap) ps) (hn : n = ps.length) (j : Nat) :
    w.frozen? ⟨g, j, none⟩ = false := by
  subst hn
  exact World.ownsRow.frozenAt h.row j
theorem OwnP.kept {R : Nat → Prop} {base : Nat} {tw tb : TypeId} {w w' : World} {v : Value} {ps : List PW} (h : OwnP base tw tb w v ps) (hk : Kept R w w') (hr : ∀ b, footP v ps b → ¬ R b) : OwnP base tw tb w' v ps :=
  ⟨hk.owns h.row (fun b hb => hr b (.inl hb)), fun p hp => (h.data p hp).kept hk (fun b hb => hr b (.inr ⟨p, hp, hb⟩)), h.out, h.each⟩
theorem OwnP.same {base : Nat} {tw tb : TypeId} {w w' : World} {v : Value} {ps : List PW} (h : OwnP base tw tb w v ps) (hk : Same w w') : OwnP base tw tb w' v ps :=
  h.kept hk (fun _ _ => id)
theorem OwnP.nil (base : Nat) (tw tb : TypeId) (w : World) : OwnP base tw tb w (.slice none 0 0) [] :=
  ⟨World.ownsRow_nil _ _ _ _, fun _ h => by simp at h, fun _ h => by simp at h, List.Pairwise.nil⟩
def dataP (ps : List PW) : List (Int × List Int) := ps.map fun p => (p.sec, p.bs)
theorem dataP_length (ps : List PW) : (dataP ps).length = ps.length := by simp [dataP]
structure OwnD (base : Nat) (tw tb : TypeId) (w : World) (dv pv : Value) (dur : List Int) (ps : List PW) : Prop where
  dur : Own base tb .u8 w dv dur
  pend : OwnP base tw tb w pv ps
  apart : ∀ b, footP pv ps b → dv.ownBlock ≠ some b
def footD (dv pv : Value) (ps : List PW) (b : Nat) : Prop := dv.ownBlock = some b ∨ footP pv ps b
theorem OwnD.kept {R : Nat → Prop} {base : Nat} {tw tb : TypeId} {w w' : World} {dv pv : Value} {dur : List Int} {ps : List PW} (h : OwnD base tw tb w dv pv dur ps) (hk : Kept R w w') (hr : ∀ b, footD dv pv ps b → ¬ R b) : OwnD base tw tb w' dv pv dur ps :=
  ⟨h.dur.kept hk (fun b hb => hr b (.inl hb)), h.pend.kept hk (fun b hb => hr b (.inr hb)), h.apart⟩
theorem OwnD.same {base : Nat} {tw tb : TypeId} {w w' : World} {dv pv : Value} {dur : List Int} {ps : List PW} (h : OwnD base tw tb w dv pv dur ps) (hk : Same w w') : OwnD base tw tb w' dv pv dur ps :=
  h.kept hk (fun _ _ => id)
theorem OwnD.lt {base : Nat} {tw tb : TypeId} {w : World} {dv pv : Value} {dur : List Int} {ps : List PW} (h : OwnD base tw tb w dv pv dur ps) (b : Nat) (hb : footD dv pv ps b) : base ≤ b ∧ b < w.heap.size := by
  rcases hb with hb | hb
  · exact h.dur.lt b hb
  · exact h.pend.lt b hb
theorem kept_two {R : Nat → Prop} {w w1 : World} {x y : Value} {t : TypeId} (hk : Kept R (w.alloc (.cells #[x, y] t)) w1) (hr : ¬ R w.heap.size) :
    w1.cell? ⟨w.heap.size, 0, none⟩ = some x ∧ w1.cell? ⟨w.heap.size, 1, none⟩ = some y ∧ w1.frozen? ⟨w.heap.size, 0, none⟩ = false ∧ w1.frozen? ⟨w.heap.size, 1, none⟩ = false ∧ w.heap.size < w1.heap.size := by
  have hs := hk.size
  have e1 := hk.cell (p := ⟨w.heap.size, 0, none⟩) (by simp) hr
  have e2 := hk.cell (p := ⟨w.heap.size, 1, none⟩) (by simp) hr
  have e3 := hk.frozen (p := ⟨w.heap.size, 0, none⟩) (by simp) hr
  have e4 := hk.frozen (p := ⟨w.heap.size, 1, none⟩) (by simp) hr
  refine ⟨by rw [e1]; simp, by rw [e2]; simp, by rw [e3]; simp, by rw [e4]; simp, by simp at hs; omega⟩
def Box (w : World) (B : Nat) (x y : Value) : Prop := w.cell? ⟨B, 0, none⟩ = some x ∧ w.cell? ⟨B, 1, none⟩ = some y
theorem Box.new (w : World) (x y : Value) (t : TypeId) : Box (w.alloc (.cells #[x, y] t)) w.heap.size x y := ⟨by simp, by simp⟩
theorem Box.kept {R : Nat → Prop} {w w' : World} {B : Nat} {x y : Value} (h : Box w B x y) (hk : Kept R w w') (hr : ¬ R B) : Box w' B x y :=
  ⟨hk.cellOf h.1 hr, hk.cellOf h.2 hr⟩
theorem Box.same {w w' : World} {B : Nat} {x y : Value} (h : Box w B x y) (hk : Same w w') : Box w' B x y := h.kept hk id
theorem Box.lt {w : World} {B : Nat} {x y : Value} (h : Box w B x y) : B < w.heap.size := World.block_lt_of_cell? w ⟨B, 0, none⟩ h.1
def FBox (w : World) (B : Nat) (x y : Value) : Prop := w.cell? ⟨B, 0, none⟩ = some x ∧ w.cell? ⟨B, 1, none⟩ = some y ∧ w.frozen? ⟨B, 0, none⟩ = false ∧ w.frozen? ⟨B, 1, none⟩ = false
theorem FBox.kept {R : Nat → Prop} {w w' : World} {B : Nat} {x y : Value} (h : FBox w B x y) (hk : Kept R w w') (hr : ¬ R B) : FBox w' B x y := by
  have hl := World.block_lt_of_cell? w ⟨B, 0, none⟩ h.1
  exact ⟨hk.cellOf h.1 hr, hk.cellOf h.2.1 hr, (hk.frozen (p := ⟨B, 0, none⟩) hl hr).trans h.2.2.1, (hk.frozen (p := ⟨B, 1, none⟩) hl hr).trans h.2.2.2⟩
theorem FBox.same {w w' : World} {B : Nat} {x y : Value} (h : FBox w B x y) (hk : Same w w') : FBox w' B x y := h.kept hk id
theorem FBox.new (w : World) (x y : Value) (t : TypeId) : FBox (w.alloc (.cells #[x, y] t)) w.heap.size x y := ⟨by simp, by simp, by simp, by simp⟩
theorem FBox.next {w : World} {B : Nat} {x y : Value} (h : FBox w B x y) (o : Obj) : FBox (w.alloc o) B x y := h.same ((Kept.refl _ _).alloc _)
theorem FBox.lt {w : World} {B : Nat} {x y : Value} (h : FBox w B x y) : B < w.heap.size := World.block_lt_of_cell? w ⟨B, 0, none⟩ h.1
theorem frozen_setCell (w : World) (a p : Addr) (u : Value) : (w.setCell a u).frozen? p = w.frozen? p := by simp
theorem FBox.set0 {w : World} {B : Nat} {x y : Value} (h : FBox w B x y) (u : Value) : FBox (w.setCell ⟨B, 0, none⟩ u) B u y :=
  ⟨World.cell?_setCell_same _ _ _ h.1, (World.cell?_setCell_other _ _ _ _ (by simp)).trans h.2.1, (frozen_setCell _ _ _ _).trans h.2.2.1, (frozen_setCell _ _ _ _).trans h.2.2.2⟩
theorem FBox.set1 {w : World} {B : Nat} {x y : Value} (h : FBox w B x y) (u : Value) : FBox (w.setCell ⟨B, 1, none⟩ u) B x u :=
  ⟨(World.cell?_setCell_other _ _ _ _ (by simp)).trans h.1, World.cell?_setCell_same _ _ _ h.2.1, (frozen_setCell _ _ _ _).trans h.2.2.1, (frozen_setCell _ _ _ _).trans h.2.2.2⟩
theorem FBox.other {w : World} {B : Nat} {x y : Value} (h : FBox w B x y) (a : Addr) (ha : a.block ≠ B) (u : Value) : FBox (w.setCell a u) B x y :=
  h.kept (Kept.setCell (Kept.refl (fun b => b = a.block) w) (p := a) (.inr rfl) u) (fun e => ha e.symm)
theorem Kept.setTwo {R : Nat → Prop} {a b : World} (h : Kept R a b) {B : Nat} (hp : a.heap.size ≤ B ∨ R B) (u v : Value) : Kept R a ((b.setCell ⟨B, 0, none⟩ u).setCell ⟨B, 1, none⟩ v) :=
  Kept.setCell (p := ⟨B, 1, none⟩) (Kept.setCell (p := ⟨B, 0, none⟩) h hp u) hp v
theorem own_made {base : Nat} {e : TypeId} {w : World} {v : Value} {k : IntKind} {n : Nat} (h : w.ownsRow base e 1 v n (madeCells (Value.int k 0).cells (n * 1)).toList) : Own base e k w v (List.replicate n 0) := by
  unfold Own vals
  rw [List.map_replicate, List.length_replicate, ← toList_madeCells_one]
  simpa [Value.cells] using h
theorem footP_nil (b : Nat) : ¬ footP (.slice none 0 0) [] b := by
  rintro (h | ⟨p, hp, _⟩)
  · simp [Value.ownBlock] at h
  · simp at hp
theorem OwnP.snoc {base : Nat} {tw tb : TypeId} {w w' : World} {v u : Value} {qs : List PW} {g n cap : Nat} {sec : Int} {bs : List Int} (h : OwnP base tw tb w v qs) (hu : Own base tb .u8 w u bs) (huf : ∀ b, u.ownBlock = some b → ¬ footP v qs b)
    (hg : w.grownBy w' v.ownBlock) (hrow : w'.ownsRow base tw 2 (.slice (some ⟨g, 0, none⟩) (n + 1) cap) (n + 1) (pwCells qs ++ [.int .i64 sec, u])) (hn : n = qs.length) (hat : v.ownBlock = some g ∨ g = w.heap.size) :
    OwnP base tw tb w' (.slice (some ⟨g, 0, none⟩) (n + 1) cap) (qs ++ [⟨sec, u, bs⟩]) := by
  have hk : Kept (fun b => v.ownBlock = some b) w w' := Kept.of_grown hg (fun k e => e)
  have hul : ∀ b, u.ownBlock = some b → b < w.heap.size := fun b hb => (hu.lt b hb).2
  have hgu : u.ownBlock ≠ some g := fun e => by
    rcases hat with hat | hat
    · exact huf g e (.inl hat)
    · have := hul g e; omega
  have hgp : ∀ p ∈ qs, p.v.ownBlock ≠ some g := fun p hp e => by
    rcases hat with hat | hat
    · exact h.out p.v (List.mem_map_of_mem hp) g hat e
    · have := (h.lt g (.inr ⟨p, hp, e⟩)).2; omega
  refine ⟨?_, fun p hp => ?_, fun x hx => ?_, ?_⟩
  · have e : pwCells (qs ++ [(⟨sec, u, bs⟩ : PW)]) = pwCells qs ++ [.int .i64 sec, u] := by rw [pwCells_append]; rfl
    rw [e, List.length_append, List.length_singleton, ← hn]
    exact hrow
  · rcases List.mem_append.1 hp with hp | hp
    · exact (h.data p hp).kept hk (fun b hb e => h.out p.v (List.mem_map_of_mem hp) b e hb)
    · simp at hp
      subst hp
      exact hu.kept hk (fun b hb e => huf b hb (.inl e))
  · rw [List.map_append, List.mem_append] at hx
    intro b hb
    have hb' : b = g := by simpa [Value.ownBlock] using hb.symm
    subst hb'
    rcases hx with hx | hx
    · obtain ⟨p, hp, rfl⟩ := List.mem_map.1 hx
      exact hgp p hp
    · simp at hx
      subst hx
      exact hgu
  · rw [List.map_append]
    refine List.pairwise_append.2 ⟨h.each, by simp, fun x hx y hy => ?_⟩
    obtain ⟨p, hp, rfl⟩ := List.mem_map.1 hx
    simp at hy
    subst hy
    exact fun b hb hb' => huf b hb' (.inr ⟨p, hp, hb⟩)
theorem footP_snoc {v : Value} {qs : List PW} {g n cap : Nat} {sec : Int} {u : Value} {bs : List Int} (b : Nat) (hb : footP (.slice (some ⟨g, 0, none⟩) n cap) (qs ++ [⟨sec, u, bs⟩]) b) : b = g ∨ footP v qs b ∨ u.ownBlock = some b := by
  rcases hb with hb | ⟨p, hp, hb⟩
  · exact .inl (by simpa [Value.ownBlock] using hb.symm)
  · rcases List.mem_append.1 hp with hp | hp
    · exact .inr (.inl (.inr ⟨p, hp, hb⟩))
    · simp at hp
      subst hp
      exact .inr (.inr hb)
theorem ret_int {k : IntKind} {a b : Int} (h : a = b) : Ending.returned (.int k a) = .returned (.int k b) := by rw [h]
end Go.Proofs.Ytjcleealcgnplaa

namespace Go.Proofs.Ytjcleealcgnplaa
open Go.RowKit
def Rd (k : IntKind) (w : World) (v : Value) (bs : List Int) : Prop :=
  bs.length ≤ maxLen ∧ ((bs = [] ∧ ∃ a c, v = .slice a 0 c ∧ (a = none → c = 0)) ∨ ∃ b off c, v = .slice (some ⟨b, off, none⟩) bs.length c ∧ bs.length ≤ c ∧ ∀ i, i < bs.length → w.cell? ⟨b, off + i, none⟩ = some (.int k (bs.getD i 0)))
theorem Rd.kept {R : Nat → Prop} {k : IntKind} {w w' : World} {v : Value} {bs : List Int} (h : Rd k w v bs) (hk : Kept R w w') (hr : ∀ b, v.ownBlock = some b → ¬ R b) : Rd k w' v bs := by
  refine ⟨h.1, ?_⟩
  rcases h.2 with h | ⟨b, off, c, rfl, hl, hc⟩
  · exact .inl h
  · exact .inr ⟨b, off, c, rfl, hl, fun i hi => hk.cellOf (hc i hi) (hr b rfl)⟩
theorem Rd.same {k : IntKind} {w w' : World} {v : Value} {bs : List Int} (h : Rd k w v bs) (hk : Same w w') : Rd k w' v bs := h.kept hk (fun _ _ => id)
theorem Rd.form {k : IntKind} {w : World} {v : Value} {bs : List Int} (h : Rd k w v bs) : ∃ a c, v = .slice a bs.length c := by
  rcases h.2 with ⟨rfl, a, c, rfl, _⟩ | ⟨b, off, c, rfl, _⟩ <;> exact ⟨_, _, rfl⟩
theorem Own.rd {base : Nat} {e : TypeId} {k : IntKind} {w : World} {v : Value} {bs : List Int} (h : Own base e k w v bs) : Rd k w v bs := by
  rcases h.form with ⟨rfl, rfl⟩ | ⟨g, cap, rfl, _, _, hc, hm⟩
  · exact ⟨by simp, .inl ⟨rfl, _, _, rfl, fun _ => rfl⟩⟩
  · exact ⟨Nat.le_trans hc hm, .inr ⟨g, 0, cap, rfl, hc, fun i hi => by rw [Nat.zero_add]; exact h.cell rfl i hi⟩⟩
def IsB (bs : List Int) : Prop := ∀ x ∈ bs, 0 ≤ x ∧ x ≤ 255
def IsI (a : Int) : Prop := -9223372036854775808 ≤ a ∧ a ≤ 9223372036854775807
theorem IsB.at {bs : List Int} (h : IsB bs) (i : Nat) (hi : i < bs.length) : 0 ≤ bs.getD i 0 ∧ bs.getD i 0 ≤ 255 := by
  rw [List.getD_eq_getElem?_getD, List.getElem?_eq_getElem hi]
  exact h _ (List.getElem_mem hi)
structure RdP (w : World) (v : Value) (ps : List PW) : Prop where
  len : ps.length ≤ maxLen
  row : (ps = [] ∧ ∃ a c, v = .slice a 0 c) ∨ ∃ b off c, v = .slice (some ⟨b, off, none⟩) ps.length c ∧ ∀ i (h : i < ps.length), w.cell? ⟨b, off + i * 2, none⟩ = some (.int .i64 ps[i].sec) ∧ w.cell? ⟨b, off + i * 2 + 1, none⟩ = some ps[i].v
  data : ∀ p ∈ ps, Rd .u8 w p.v p.bs
theorem RdP.kept {R : Nat → Prop} {w w' : World} {v : Value} {ps : List PW} (h : RdP w v ps) (hk : Kept R w w') (hr : ∀ b, footP v ps b → ¬ R b) : RdP w' v ps := by
  refine ⟨h.len, ?_, fun p hp => (h.data p hp).kept hk (fun b hb => hr b (.inr ⟨p, hp, hb⟩))⟩
  rcases h.row with h | ⟨b, off, c, rfl, hc⟩
  · exact .inl h
  · exact .inr ⟨b, off, c, rfl, fun i hi => ⟨hk.cellOf (hc i hi).1 (hr b (.inl rfl)), hk.cellOf (hc i hi).2 (hr b (.inl rfl))⟩⟩
theorem RdP.same {w w' : World} {v : Value} {ps : List PW} (h : RdP w v ps) (hk : Same w w') : RdP w' v ps := h.kept hk (fun _ _ => id)
theorem RdP.form {w : World} {v : Value} {ps : List PW} (h : RdP w v ps) : ∃ a c, v = .slice a ps.length c := by
  rcases h.row with ⟨rfl, a, c, rfl⟩ | ⟨b, off, c, rfl, _⟩ <;> exact ⟨_, _, rfl⟩
theorem OwnP.rd {base : Nat} {tw tb : TypeId} {w : World} {v : Value} {ps : List PW} (h : OwnP base tw tb w v ps) : RdP w v ps := by
  refine ⟨?_, ?_, fun p hp => (h.data p hp).rd⟩
  · rcases h.form with ⟨rfl, rfl⟩ | ⟨g, cap, rfl, _, _, hc, hm⟩
    · simp
    · exact Nat.le_trans hc hm
  · rcases h.form with ⟨rfl, rfl⟩ | ⟨g, cap, rfl, _, _, hc, hm⟩
    · exact .inl ⟨rfl, _, _, rfl⟩
    · exact .inr ⟨g, 0, cap, rfl, fun i hi => ⟨by rw [Nat.zero_add]; exact h.sec rfl i hi, by rw [Nat.zero_add]; exact h.val rfl i hi⟩⟩
structure RdD (w : World) (dv pv : Value) (dur : List Int) (ps : List PW) : Prop where
  dur : Rd .u8 w dv dur
  pend : RdP w pv ps
theorem RdD.kept {R : Nat → Prop} {w w' : World} {dv pv : Value} {dur : List Int} {ps : List PW} (h : RdD w dv pv dur ps) (hk : Kept R w w') (hr : ∀ b, footD dv pv ps b → ¬ R b) : RdD w' dv pv dur ps :=
  ⟨h.dur.kept hk (fun b hb => hr b (.inl hb)), h.pend.kept hk (fun b hb => hr b (.inr hb))⟩
theorem RdD.same {w w' : World} {dv pv : Value} {dur : List Int} {ps : List PW} (h : RdD w dv pv dur ps) (hk : Same w w') : RdD w' dv pv dur ps := h.kept hk (fun _ _ => id)
theorem OwnD.rd {base : Nat} {tw tb : TypeId} {w : World} {dv pv : Value} {dur : List Int} {ps : List PW} (h : OwnD base tw tb w dv pv dur ps) : RdD w dv pv dur ps := ⟨h.dur.rd, h.pend.rd⟩
set_option linter.unusedSimpArgs false
end Go.Proofs.Ytjcleealcgnplaa

namespace Go.Proofs.Ytjcleealcgnplaa
open Go.ChangeShapes Go.WideShapes Go.ChangeAt Go.RowKit
set_option linter.unusedVariables false
theorem addr_form {w : World} {a : Addr} {v : Value} (h : w.cell? (a.add 0) = some v) : ∃ b off, a = ⟨b, off, none⟩ := by
  obtain ⟨b, off, spot⟩ := a
  have hs : spot = none := by simpa [Addr.add] using World.cell?_spot h
  subst hs
  exact ⟨b, off, rfl⟩
theorem add_none (b off i : Nat) : (⟨b, off, none⟩ : Addr).add i = ⟨b, off + i, none⟩ := by
  unfold Addr.add
  split
  · next h => subst h; rfl
  · rfl
section
variable {H : Type} {enc : TypeId × Value → H} {w : World} {base : Nat} {spare : Nat → Bool} {held : Bool}
set_option maxRecDepth 100000 in
theorem read_intsB {t e : TypeId} {k : IntKind} (ht : Try.prog.underlying t = some (.slice e)) (he : Try.prog.underlying e = some (.int k)) (hc : Try.prog.cellsOf e = 1) {fuel : Nat} {v : Value} {x : DataW H × List MemPlace}
    (h : DataW.trod enc Try.prog w base spare held fuel t [v] = some x) : ∃ bs, Rd k w v bs ∧ ∀ n ∈ bs, k.min ≤ n ∧ n ≤ k.max := by
  rcases open_ints ht he hc h with ⟨hcs, _⟩ | ⟨a, len, cap, zs, hcs, _, hl, hm, hz, _, hcell, hwf⟩
  · simp at hcs
    subst hcs
    exact ⟨[], ⟨by simp, .inl ⟨rfl, _, _, rfl, fun _ => rfl⟩⟩, fun n hn => by simp at hn⟩
  · simp at hcs
    subst hcs
    have hlz : len ≤ zs.length := by rw [hz]; split <;> omega
    refine ⟨zs.take len, ⟨by simp; omega, ?_⟩, fun n hn => by have := hwf n (List.mem_of_mem_take hn); simpa [Lit.wf] using this⟩
    by_cases h0 : len = 0
    · subst h0
      exact .inl ⟨by simp, _, _, rfl, fun h => by simp at h⟩
    · obtain ⟨b, off, rfl⟩ := addr_form (hcell 0 (by omega))
      refine .inr ⟨b, off, cap, by simp [Nat.min_eq_left hlz], by simp; omega, fun i hi => ?_⟩
      have hi' : i < len := by simp at hi; omega
      have := hcell i (by omega)
      simpa [add_none, List.getD, List.getElem?_take, hi'] using this
set_option maxRecDepth 100000 in
theorem open_bytesB {r : Reach} {b0 : Nat} {v : Value} {d : DataW H} {p : List MemPlace} (hv : Value.okWide Try.prog w r b0 22 v) (h : DataW.Trod enc Try.prog w base spare held 22 v d p) : ∃ bs, Rd .u8 w v bs ∧ IsB bs := by
  obtain ⟨a, n, c, rfl⟩ := okWide_slice Try.underlying22 hv
  obtain ⟨m, hm⟩ := h
  exact read_intsB Try.underlying22 Try.underlying5 (by kernel_rfl) hm
end
end Go.Proofs.Ytjcleealcgnplaa

namespace Go.Proofs.Ytjcleealcgnplaa
set_option maxHeartbeats 400000
open Go.RowKit
theorem Try.infoByte' : (Try.prog.info? 5).map (fun i => (i.zero, i.size, i.bytes)) = some (some (.int .u8 0), 1, 1) := by kernel_rfl
def fillUp (bs : List Int) (k : Nat) : List Int := bs.take k ++ List.replicate (bs.length - k) 0
theorem fillUp_length (bs : List Int) (k : Nat) (h : k ≤ bs.length) : (fillUp bs k).length = bs.length := by simp [fillUp]; omega
theorem fillUp_zero (bs : List Int) : fillUp bs 0 = List.replicate bs.length 0 := by simp [fillUp]
theorem fillUp_all (bs : List Int) : fillUp bs bs.length = bs := by simp [fillUp]
end Go.Proofs.Ytjcleealcgnplaa

namespace Go.Proofs.Ytjcleealcgnplaa
set_option maxHeartbeats 400000
open Go.RowKit
theorem clone_any (v : Value) (bs : List Int) (w : World) (hn : bs.length ≤ 1099511627776) (hv : Rd .u8 w v bs) :
    Calls Try.prog 53 #[v] w fun e w' => ∃ a n c, e = .returned (.slice a n c) ∧ Own 0 5 .u8 w' (.slice a n c) bs ∧ (∀ b, (Value.slice a n c).ownBlock = some b → w.heap.size ≤ b) ∧ Same w w' := by
  obtain ⟨i0, hi, hz0, hz1, hz2⟩ := info_parts Try.infoByte'
  have hnil := fun (wx : World) (a : Option Addr) (n c : Nat) => Lib.run_eql_slice_nil (P := Try.prog) wx 22 5 a n c 0 0 Try.underlying22
  rcases hv.2 with ⟨rfl, a, c, rfl, hac⟩ | ⟨b, off, c, rfl, _, hc⟩
  · cases a with
    | none =>
      obtain rfl : c = 0 := hac rfl
      clear hv hn hac
      go_enter Try.func53, Try.ntmps53
      go_wp2
      go_ret
      exact ⟨_, _, _, rfl, Own.nil _ _ _ _, fun b hb => by simp [Value.ownBlock] at hb, Kept.refl _ _⟩
    | some ad =>
      clear hv hn hac
      go_enter Try.func53, Try.ntmps53
      go_wp2_with (at_builtin; refine wpList_append_own _ rfl (.tmp 5) (.tmp 6) 22 rfl w.heap.size 5 i0 (.int .u8 0) 1 1 Try.underlying22 hi hz0 hz1 hz2 rfl (by decide) (.slice (some ⟨w.heap.size, 0, none⟩) 0 0) 0 [] rfl (World.ownsRow_made w #[] 0 (Nat.le_refl _) (by simp) (by simp)) ad 0 c [] rfl rfl (fun j u h => by simp at h) (fun u h => by simp at h) (by simp) (by simp) (by simp) ?_; intro v' w1 hown1 hgrow1 _; have HF := (show Hid (Own w.heap.size 5 .u8 w1 v' []) from hown1); have HK : Hid (Same w w1) := ((Kept.refl _ _).alloc _).grown hgrow1 (fun k e => .inl (by simp [Value.ownBlock] at e; omega)); obtain ⟨aa, na, ca, rfl⟩ := slice_of_own HF.out; clear hown1 hgrow1)
      go_ret
      exact ⟨_, _, _, rfl, HF.out.mono (fun b _ => Nat.zero_le b), fun b hb => (HF.out.lt b hb).1, HK.out⟩
  · have HC : Hid (∀ i, i < bs.length → (w.alloc (.cells #[] 5)).cell? ⟨b, off + i, none⟩ = some (.int .u8 (bs.getD i 0))) := fun i hi => ((Kept.refl (fun _ => False) w).alloc _).cellOf (hc i hi) id
    clear hv hc
    go_enter Try.func53, Try.ntmps53
    go_wp2_with (at_builtin; refine wpList_append_own _ rfl (.tmp 5) (.tmp 6) 22 rfl w.heap.size 5 i0 (.int .u8 0) 1 1 Try.underlying22 hi hz0 hz1 hz2 rfl (by decide) (.slice (some ⟨w.heap.size, 0, none⟩) 0 0) 0 [] rfl (World.ownsRow_made w #[] 0 (Nat.le_refl _) (by simp) (by simp)) ⟨b, off, none⟩ bs.length c (vals .u8 bs) rfl (by simp [vals_length]) (news_of HC.out) vals_one (by unfold maxLen; omega) (by omega) (by simp) ?_; intro v' w1 hown1 hgrow1 _; have HF := (show Hid (Own w.heap.size 5 .u8 w1 v' bs) from (by simpa [Own, Hid] using hown1)); have HK : Hid (Same w w1) := ((Kept.refl _ _).alloc _).grown hgrow1 (fun k e => .inl (by simp [Value.ownBlock] at e; omega)); obtain ⟨aa, na, ca, rfl⟩ := slice_of_own HF.out; clear hown1 hgrow1)
    go_ret
    exact ⟨_, _, _, rfl, HF.out.mono (fun b _ => Nat.zero_le b), fun b hb => (HF.out.lt b hb).1, HK.out⟩
end Go.Proofs.Ytjcleealcgnplaa

namespace Go.Proofs.Ytjcleealcgnplaa
set_option maxHeartbeats 1000000
open Go.RowKit
theorem Try.infoSW : (Try.prog.info? 40).map (fun i => (i.zero, i.size, i.bytes)) = some (some (.agg #[.int .i64 0, .slice none 0 0]), 2, 32) := by kernel_rfl
end Go.Proofs.Ytjcleealcgnplaa

namespace Go.Proofs.Ytjcleealcgnplaa
set_option maxHeartbeats 2000000
open Go.RowKit
def Says (e : Ending) (P : Prop) : Prop := ∃ B : Bool, e = .returned (.bool B) ∧ (B = true ↔ P)
theorem says_true {P : Prop} (h : P) : Says (.returned (.bool true)) P := ⟨true, rfl, fun _ => h, fun _ => rfl⟩
theorem says_false {P : Prop} (h : ¬ P) : Says (.returned (.bool false)) P := ⟨false, rfl, fun h => by simp at h, fun hp => absurd hp h⟩
def validP (n : Nat) (p : Int × List Int) : Prop := 0 ≤ p.1 ∧ p.1 < n ∧ p.2.length = 512
def validHead (len m : Nat) : Prop := len % 512 = 0 ∧ 1 ≤ len / 512 ∧ len / 512 ≤ 1024 ∧ m ≤ 8192
def Valid (len : Nat) (ds : List (Int × List Int)) : Prop := validHead len ds.length ∧ ∀ p ∈ ds, validP (len / 512) p
theorem valid_no_at {len : Nat} {ps : List PW} {k : Nat} (h : k < ps.length) (hp : ¬ validP (len / 512) (ps[k].sec, ps[k].bs)) : ¬ Valid len (dataP ps) :=
  fun hv => hp (hv.2 _ (List.mem_map.2 ⟨ps[k], List.getElem_mem h, rfl⟩))
theorem valid_no_head {len : Nat} {ps : List PW} (hp : ¬ validHead len ps.length) : ¬ Valid len (dataP ps) :=
  fun hv => hp (by have := hv.1; rwa [dataP_length] at this)
theorem valid_yes {len : Nat} {ps : List PW} (hh : validHead len ps.length) (h : ∀ k (hk : k < ps.length), validP (len / 512) (ps[k].sec, ps[k].bs)) : Valid len (dataP ps) := by
  refine ⟨by rw [dataP_length]; exact hh, fun p hp => ?_⟩
  obtain ⟨q, hq, rfl⟩ := List.mem_map.1 hp
  obtain ⟨k, hk, rfl⟩ := List.getElem_of_mem hq
  exact h k hk
theorem l1Sectors_any (a : Option Addr) (n c : Nat) (a2 : Option Addr) (n2 c2 : Nat) (w : World) (hn : n ≤ maxLen) :
    Calls Try.prog 45 #[.agg #[.slice a n c, .slice a2 n2 c2]] w fun e w' => e = .returned (.int .i64 (n / 512 : Nat)) ∧ w' = w.alloc (.cells #[.slice a n c, .slice a2 n2 c2] 25) := by
  unfold maxLen at hn
  go_enter Try.func45, Try.ntmps45
  go_wp2
  go_ret
  exact ⟨ret_int (by omega), rfl⟩
theorem countSectors_any (a : Option Addr) (n c : Nat) (a2 : Option Addr) (n2 c2 : Nat) (w : World) (hn : n ≤ maxLen) :
    Calls Try.prog 46 #[.agg #[.slice a n c, .slice a2 n2 c2]] w fun e w' => e = .returned (.int .i64 (n / 512 : Nat)) ∧ w' = w.alloc (.cells #[.slice a n c, .slice a2 n2 c2] 25) := by
  unfold maxLen at hn
  go_enter Try.func46, Try.ntmps46
  go_wp2
  go_ret
  exact ⟨ret_int (by omega), rfl⟩
theorem specValid_head (a : Option Addr) (n c : Nat) (a2 : Option Addr) (n2 c2 : Nat) (w : World) (hn : n ≤ maxLen) (hn2 : n2 ≤ maxLen) (h : ¬ validHead n n2) :
    Calls Try.prog 9 #[.agg #[.slice a n c, .slice a2 n2 c2]] w fun e w' => e = .returned (.bool false) ∧ Same w w' := by
  have hm := hn
  have hm2 := hn2
  unfold maxLen at hn hn2
  by_cases h1 : n % 512 = 0
  · have t1 : ((n : Int) % 512 != 0) = false := by simp; omega
    by_cases h2 : n / 512 < 1
    · have t2 : (n : Int) / 512 < 1 := by omega
      go_enter Try.func9, Try.ntmps9
      go_wp2_with (go_at_call 45; refine (l1Sectors_any _ _ _ _ _ _ _ hm).mono ?_; rintro e w' ⟨rfl, rfl⟩)
      go_ret
      exact ⟨rfl, ((Kept.refl _ _).alloc _).alloc _⟩
    · have t2 : ¬ (n : Int) / 512 < 1 := by omega
      by_cases h3 : 1024 < n / 512
      · have t3 : 1024 < (n : Int) / 512 := by omega
        go_enter Try.func9, Try.ntmps9
        go_wp2_with (go_at_call 45; refine (l1Sectors_any _ _ _ _ _ _ _ hm).mono ?_; rintro e w' ⟨rfl, rfl⟩)
        go_ret
        exact ⟨rfl, ((Kept.refl _ _).alloc _).alloc _⟩
      · have t3 : ¬ 1024 < (n : Int) / 512 := by omega
        have h4 : 8192 < n2 := by unfold validHead at h; omega
        have t4 : 8192 < (n2 : Int) := by omega
        clear h
        go_enter Try.func9, Try.ntmps9
        go_wp2_with (go_at_call 45; refine (l1Sectors_any _ _ _ _ _ _ _ hm).mono ?_; rintro e w' ⟨rfl, rfl⟩)
        go_ret
        exact ⟨rfl, ((Kept.refl _ _).alloc _).alloc _⟩
  · have t1 : ((n : Int) % 512 != 0) = true := by simp; omega
    go_enter Try.func9, Try.ntmps9
    go_wp2_with (go_at_call 45; refine (l1Sectors_any _ _ _ _ _ _ _ hm).mono ?_; rintro e w' ⟨rfl, rfl⟩)
    go_ret
    exact ⟨rfl, ((Kept.refl _ _).alloc _).alloc _⟩
theorem specValid_loop (a : Option Addr) (n c : Nat) (v : Value) (ps : List PW) (w : World) (hn : n ≤ maxLen) (hp : RdP w v ps) (h : validHead n ps.length) :
    Calls Try.prog 9 #[.agg #[.slice a n c, v]] w fun e w' => Says e (Valid n (dataP ps)) ∧ Same w w' := by
  have hm := hn
  have hn2 := hp.len
  unfold maxLen at hn hn2
  obtain ⟨h1, h2, h3, h4⟩ := id h
  have t1 : ((n : Int) % 512 != 0) = false := by simp; omega
  have t2 : ¬ (n : Int) / 512 < 1 := by omega
  have t3 : ¬ 1024 < (n : Int) / 512 := by omega
  have t4 : ¬ 8192 < (ps.length : Int) := by omega
  have HH : Hid (validHead n ps.length) := h
  clear h h1 h2 h3 h4
  rcases hp.row with ⟨rfl, a2, c2, rfl⟩ | ⟨b, off, c2, rfl, hc⟩
  · have HV : Hid (Valid n (dataP [])) := valid_yes HH.out (fun k hk => by simp at hk)
    clear hp hn2 t4
    go_enter Try.func9, Try.ntmps9
    go_wp2_with (go_at_call 45; refine (l1Sectors_any _ _ _ _ _ _ _ hm).mono ?_; rintro e w' ⟨rfl, rfl⟩)
    refine wp_loop_rounds 1 ?_
    rw [rounds_succ]
    go_wp2
    go_ret
    exact ⟨says_true HV.out, ((Kept.refl _ _).alloc _).alloc _⟩
  · have HP : Hid (RdP w (.slice (some ⟨b, off, none⟩) ps.length c2) ps) := hp
    have HC : Hid (∀ i (h : i < ps.length), w.cell? ⟨b, off + i * 2, none⟩ = some (.int .i64 ps[i].sec) ∧ w.cell? ⟨b, off + i * 2 + 1, none⟩ = some ps[i].v) := hc
    clear hp hc
    generalize hl : ps.length = len at hn2 t4 HP HH ⊢
    have HL : Hid (ps.length = len) := hl
    clear hl
    go_enter Try.func9, Try.ntmps9
    go_wp2_with (go_at_call 45; refine (l1Sectors_any _ _ _ _ _ _ _ hm).mono ?_; rintro e w' ⟨rfl, rfl⟩)
    go_loop [4] (fun i => ∃ k : Nat, k ≤ len ∧ i = .int .i64 k ∧ Hid (∀ j (hj : j < ps.length), j < k → validP (n / 512) (ps[j].sec, ps[j].bs))) (fun i => len - (intOf i).toNat)
    case atStart => exact ⟨0, Nat.zero_le _, rfl, fun j _ h => by omega⟩
    case round =>
      obtain ⟨k, hk, rfl, HV⟩ := hrel
      by_cases hlt : k < len
      · have hlp : k < ps.length := by rw [HL.out]; exact hlt
        obtain ⟨a1, c1, e1⟩ := (HP.out.data _ (List.getElem_mem hlp)).form
        have hm1 := (HP.out.data _ (List.getElem_mem hlp)).1
        unfold maxLen at hm1
        have hbw : b < w.heap.size := World.block_lt_of_cell? w ⟨b, off + k * 2, none⟩ (HC.out k hlp).1
        have q1 := (HC.out k hlp).1
        have q2 := (HC.out k hlp).2
        rw [e1] at q2
        clear e1
        have HN : Hid (¬ validP (n / 512) (ps[k].sec, ps[k].bs) → ¬ Valid n (dataP ps)) := fun h => valid_no_at hlp h
        have HE : Hid (validP (n / 512) (ps[k].sec, ps[k].bs) ↔ 0 ≤ ps[k].sec ∧ ps[k].sec < (n / 512 : Nat) ∧ ps[k].bs.length = 512) := Iff.rfl
        generalize hsec : ps[k].sec = sec at q1 HN HE
        generalize hbl : ps[k].bs.length = bl at q2 hm1 HE
        have HS : Hid (ps[k].sec = sec) := hsec
        clear hsec hbl
        by_cases s1 : sec < 0
        · go_wp2
          go_ret
          exact ⟨says_false (HN.out (fun hv => by have := HE.out.1 hv; omega)), ((Kept.refl _ _).alloc _).alloc _⟩
        · by_cases s2 : (n : Int) / 512 ≤ sec
          · go_wp2
            go_ret
            exact ⟨says_false (HN.out (fun hv => by have := HE.out.1 hv; omega)), ((Kept.refl _ _).alloc _).alloc _⟩
          · by_cases s3 : bl = 512
            · have s4 : ((bl : Int) != 512) = false := by simp; omega
              go_wp2
              go_round
              case rel =>
                refine ⟨k + 1, by omega, by go_num, fun j hj hjk => ?_⟩
                by_cases e : j = k
                · subst e
                  rw [HS.out]
                  exact HE.out.2 ⟨by omega, by omega, s3⟩
                · exact HV.out j hj (by omega)
              case measure => simp [intOf]; omega
            · have s4 : ((bl : Int) != 512) = true := by simp; omega
              go_wp2
              go_ret
              exact ⟨says_false (HN.out (fun hv => by have := HE.out.1 hv; omega)), ((Kept.refl _ _).alloc _).alloc _⟩
      · go_wp2
        go_ret
        obtain rfl : k = len := by omega
        have h2 := HL.out
        have hv := valid_yes (ps := ps) (by rw [h2]; exact HH.out) (fun j hj => HV.out j hj (by omega))
        exact ⟨says_true hv, ((Kept.refl _ _).alloc _).alloc _⟩
theorem implValid_head (a : Option Addr) (n c : Nat) (a2 : Option Addr) (n2 c2 : Nat) (w : World) (hn : n ≤ maxLen) (hn2 : n2 ≤ maxLen) (h : ¬ validHead n n2) :
    Calls Try.prog 10 #[.agg #[.slice a n c, .slice a2 n2 c2]] w fun e w' => e = .returned (.bool false) ∧ Same w w' := by
  have hm := hn
  unfold maxLen at hn hn2
  by_cases h2 : n / 512 < 1
  · have t2 : (n : Int) / 512 < 1 := by omega
    go_enter Try.func10, Try.ntmps10
    go_wp2_with (go_at_call 46; refine (countSectors_any _ _ _ _ _ _ _ hm).mono ?_; rintro e w' ⟨rfl, rfl⟩)
    go_ret
    exact ⟨rfl, ((Kept.refl _ _).alloc _).alloc _⟩
  · have t2 : ¬ (n : Int) / 512 < 1 := by omega
    by_cases h3 : 1024 < n / 512
    · have t3 : 1024 < (n : Int) / 512 := by omega
      go_enter Try.func10, Try.ntmps10
      go_wp2_with (go_at_call 46; refine (countSectors_any _ _ _ _ _ _ _ hm).mono ?_; rintro e w' ⟨rfl, rfl⟩)
      go_ret
      exact ⟨rfl, ((Kept.refl _ _).alloc _).alloc _⟩
    · have t3 : ¬ 1024 < (n : Int) / 512 := by omega
      by_cases h1 : n % 512 = 0
      · have t1 : ((n : Int) % 512 != 0) = false := by simp; omega
        have h4 : 8192 < n2 := by unfold validHead at h; omega
        have t4 : 8192 < (n2 : Int) := by omega
        clear h
        go_enter Try.func10, Try.ntmps10
        go_wp2_with (go_at_call 46; refine (countSectors_any _ _ _ _ _ _ _ hm).mono ?_; rintro e w' ⟨rfl, rfl⟩)
        go_ret
        exact ⟨rfl, ((Kept.refl _ _).alloc _).alloc _⟩
      · have t1 : ((n : Int) % 512 != 0) = true := by simp; omega
        go_enter Try.func10, Try.ntmps10
        go_wp2_with (go_at_call 46; refine (countSectors_any _ _ _ _ _ _ _ hm).mono ?_; rintro e w' ⟨rfl, rfl⟩)
        go_ret
        exact ⟨rfl, ((Kept.refl _ _).alloc _).alloc _⟩
theorem implValid_loop (a : Option Addr) (n c : Nat) (v : Value) (ps : List PW) (w : World) (hn : n ≤ maxLen) (hp : RdP w v ps) (h : validHead n ps.length) :
    Calls Try.prog 10 #[.agg #[.slice a n c, v]] w fun e w' => Says e (Valid n (dataP ps)) ∧ Same w w' := by
  have hm := hn
  have hn2 := hp.len
  unfold maxLen at hn hn2
  obtain ⟨h1, h2, h3, h4⟩ := id h
  have t1 : ((n : Int) % 512 != 0) = false := by simp; omega
  have t2 : ¬ (n : Int) / 512 < 1 := by omega
  have t3 : ¬ 1024 < (n : Int) / 512 := by omega
  have t4 : ¬ 8192 < (ps.length : Int) := by omega
  have HH : Hid (validHead n ps.length) := h
  clear h h1 h2 h3 h4
  rcases hp.row with ⟨rfl, a2, c2, rfl⟩ | ⟨b, off, c2, rfl, hc⟩
  · have HV : Hid (Valid n (dataP [])) := valid_yes HH.out (fun k hk => by simp at hk)
    clear hp hn2 t4
    go_enter Try.func10, Try.ntmps10
    go_wp2_with (go_at_call 46; refine (countSectors_any _ _ _ _ _ _ _ hm).mono ?_; rintro e w' ⟨rfl, rfl⟩)
    refine wp_loop_rounds 1 ?_
    rw [rounds_succ]
    go_wp2
    go_ret
    exact ⟨says_true HV.out, ((Kept.refl _ _).alloc _).alloc _⟩
  · have HP : Hid (RdP w (.slice (some ⟨b, off, none⟩) ps.length c2) ps) := hp
    have HC : Hid (∀ i (h : i < ps.length), w.cell? ⟨b, off + i * 2, none⟩ = some (.int .i64 ps[i].sec) ∧ w.cell? ⟨b, off + i * 2 + 1, none⟩ = some ps[i].v) := hc
    clear hp hc
    generalize hl : ps.length = len at hn2 t4 HP HH ⊢
    have HL : Hid (ps.length = len) := hl
    clear hl
    go_enter Try.func10, Try.ntmps10
    go_wp2_with (go_at_call 46; refine (countSectors_any _ _ _ _ _ _ _ hm).mono ?_; rintro e w' ⟨rfl, rfl⟩)
    go_loopw [28] (fun i wr => ∃ k : Nat, k ≤ len ∧ i = .int .i64 k ∧ Hid (∀ j (hj : j < ps.length), j < k → validP (n / 512) (ps[j].sec, ps[j].bs)) ∧ Hid (Same w wr)) (fun i _ => len - (intOf i).toNat)
    case atStart => exact ⟨0, Nat.zero_le _, rfl, fun j _ h => by omega, ((Kept.refl _ _).alloc _).alloc _⟩
    case round =>
      obtain ⟨k, hk, rfl, HV, HK⟩ := hrel
      by_cases hlt : k < len
      · have hlp : k < ps.length := by rw [HL.out]; exact hlt
        obtain ⟨a1, c1, e1⟩ := (HP.out.data _ (List.getElem_mem hlp)).form
        have hm1 := (HP.out.data _ (List.getElem_mem hlp)).1
        unfold maxLen at hm1
        have q1 := HK.out.cellOf (HC.out k hlp).1 id
        have q2 := HK.out.cellOf (HC.out k hlp).2 id
        rw [e1] at q2
        clear e1
        have HN : Hid (¬ validP (n / 512) (ps[k].sec, ps[k].bs) → ¬ Valid n (dataP ps)) := fun h => valid_no_at hlp h
        have HE : Hid (validP (n / 512) (ps[k].sec, ps[k].bs) ↔ 0 ≤ ps[k].sec ∧ ps[k].sec < (n / 512 : Nat) ∧ ps[k].bs.length = 512) := Iff.rfl
        generalize hsec : ps[k].sec = sec at q1 HN HE
        generalize hbl : ps[k].bs.length = bl at q2 hm1 HE
        have HS : Hid (ps[k].sec = sec) := hsec
        clear hsec hbl
        by_cases s1 : sec < 0
        · go_wp2
          go_ret
          exact ⟨says_false (HN.out (fun hv => by have := HE.out.1 hv; omega)), HK.out.alloc _⟩
        · by_cases s2 : (n : Int) / 512 ≤ sec
          · go_wp2
            go_ret
            exact ⟨says_false (HN.out (fun hv => by have := HE.out.1 hv; omega)), HK.out.alloc _⟩
          · by_cases s3 : bl = 512
            · have s4 : ((bl : Int) != 512) = false := by simp; omega
              go_wp2
              go_roundw
              case rel =>
                refine ⟨k + 1, by omega, by go_num, fun j hj hjk => ?_, HK.out.alloc _⟩
                by_cases e : j = k
                · subst e
                  rw [HS.out]
                  exact HE.out.2 ⟨by omega, by omega, s3⟩
                · exact HV.out j hj (by omega)
              case measure => simp [intOf]; omega
            · have s4 : ((bl : Int) != 512) = true := by simp; omega
              go_wp2
              go_ret
              exact ⟨says_false (HN.out (fun hv => by have := HE.out.1 hv; omega)), HK.out.alloc _⟩
      · go_wp2
        go_ret
        obtain rfl : k = len := by omega
        have h2 := HL.out
        have hv := valid_yes (ps := ps) (by rw [h2]; exact HH.out) (fun j hj => HV.out j hj (by omega))
        exact ⟨says_true hv, HK.out⟩
theorem specValid_any (dv pv : Value) (dur : List Int) (ps : List PW) (w : World) (hp : RdD w dv pv dur ps) :
    Calls Try.prog 9 #[.agg #[dv, pv]] w fun e w' => Says e (Valid dur.length (dataP ps)) ∧ Same w w' := by
  obtain ⟨a1, c1, rfl⟩ := hp.dur.form
  by_cases h : validHead dur.length ps.length
  · exact specValid_loop a1 dur.length c1 pv ps w hp.dur.1 hp.pend h
  · obtain ⟨a2, c2, rfl⟩ := hp.pend.form
    exact (specValid_head a1 _ c1 a2 _ c2 w hp.dur.1 hp.pend.len h).mono fun e w' ⟨he, hk⟩ => ⟨by rw [he]; exact says_false (valid_no_head h), hk⟩
theorem implValid_any (dv pv : Value) (dur : List Int) (ps : List PW) (w : World) (hp : RdD w dv pv dur ps) :
    Calls Try.prog 10 #[.agg #[dv, pv]] w fun e w' => Says e (Valid dur.length (dataP ps)) ∧ Same w w' := by
  obtain ⟨a1, c1, rfl⟩ := hp.dur.form
  by_cases h : validHead dur.length ps.length
  · exact implValid_loop a1 dur.length c1 pv ps w hp.dur.1 hp.pend h
  · obtain ⟨a2, c2, rfl⟩ := hp.pend.form
    exact (implValid_head a1 _ c1 a2 _ c2 w hp.dur.1 hp.pend.len h).mono fun e w' ⟨he, hk⟩ => ⟨by rw [he]; exact says_false (valid_no_head h), hk⟩
end Go.Proofs.Ytjcleealcgnplaa

namespace Go.Proofs.Ytjcleealcgnplaa
open Go.RowKit
set_option linter.unusedVariables false
set_option linter.unusedSimpArgs false
theorem Rd.part {k : IntKind} {w : World} {b off n c : Nat} {bs : List Int} (h : ∀ i, i < bs.length → w.cell? ⟨b, off + i, none⟩ = some (.int k (bs.getD i 0))) (lo m : Nat) (hm : lo + m ≤ bs.length) (hn : n = m) (hc : m ≤ c) (hmax : m ≤ maxLen) :
    Rd k w (.slice (some ⟨b, off + lo, none⟩) n c) ((bs.drop lo).take m) := by
  have hl : ((bs.drop lo).take m).length = m := by simp; omega
  refine ⟨by omega, .inr ⟨b, off + lo, c, by rw [hn, hl], by rw [hl]; exact hc, fun i hi => ?_⟩⟩
  rw [hl] at hi
  have h1 := h (lo + i) (by omega)
  rw [← Nat.add_assoc] at h1
  rw [h1]
  simp [List.getD, hi]
end Go.Proofs.Ytjcleealcgnplaa
