import Derived.Test.YtapdfgkbhaoelaaGreatDoorRows
import Derived.Test.YtapdfgkbhaoelaaGreatDoorProg
import Derived.WalkKit
import Derived.WalkSpells
import Derived.Deep.Draws
import Derived.ProofKit
import Derived.OpenShut
import Derived.ShutString
import Derived.ChangeOld
import Derived.Below
import Derived.Lib.SmallJoins
import Derived.Deep.Slices
import Derived.Deep.SlicePairs
import Derived.WalkLawsBesides
import Derived.Deep.QuietTactic
import Derived.BigQuiet
import Derived.Deep.LoopGhost
import Derived.LaidEql
import Derived.Stop.Asserts
import Derived.RowKitTokens
namespace Go.Proofs.YtapdfgkbhaoelaaGreatDoor
set_option linter.unusedSimpArgs false
set_option linter.unusedVariables false
set_option maxRecDepth 100000
set_option maxHeartbeats 2000000
open Go.RowKit Go.ChangeShapes Go.WideShapes Go.ChangeAt
abbrev D0 (w : World) (b i : Nat) (v : Value) : Prop := w.cell? ⟨b, i, none⟩ = some v
abbrev Q1 (z : Int) : Value := .int .i64 z
abbrev Q4 : Value := .slice none 0 0
abbrev Q2 (b o : Nat) : Value := .pointer (some ⟨b, o, none⟩)
abbrev Q3 (b n c : Nat) : Value := .slice (some ⟨b, 0, none⟩) n c
theorem hid {p : Prop} (h : p) : Hid p := h
structure Kept (R : Nat → Prop) (w w' : World) : Prop where
 os : w'.os = w.os
 tape : w'.tape = w.tape
 output : w'.output = w.output
 size : w.heap.size ≤ w'.heap.size
 block : ∀ k, k < w.heap.size → ¬ R k → w'.heap[k]? = w.heap[k]?
abbrev Same : World → World → Prop := Kept (fun _ => False)
theorem Kept.refl (R : Nat → Prop) (w : World) : Kept R w w := ⟨rfl, rfl, rfl, Nat.le_refl _, fun _ _ _ => rfl⟩
theorem kZ0 {R : Nat → Prop} {w : World} : Kept R w w := Kept.refl R w
theorem Kept.trans {R : Nat → Prop} {a b c : World} (h : Kept R a b) (k : Kept R b c) : Kept R a c :=
 ⟨k.os.trans h.os, k.tape.trans h.tape, k.output.trans h.output, Nat.le_trans h.size k.size, fun i hi hr => (k.block i (Nat.lt_of_lt_of_le hi h.size) hr).trans (h.block i hi hr)⟩
theorem Kept.mono {R R' : Nat → Prop} {a b : World} (h : Kept R a b) (hr : ∀ k, k < a.heap.size → R k → R' k) : Kept R' a b :=
 ⟨h.os, h.tape, h.output, h.size, fun i hi hn => h.block i hi (fun hR => hn (hr i hi hR))⟩
theorem Kept.next {R R' : Nat → Prop} {a b c : World} (h : Kept R a b) (k : Kept R' b c) (hr : ∀ i, i < a.heap.size → R' i → R i) : Kept R a c :=
 ⟨k.os.trans h.os, k.tape.trans h.tape, k.output.trans h.output, Nat.le_trans h.size k.size, fun i hi hn => (k.block i (Nat.lt_of_lt_of_le hi h.size) (fun e => hn (hr i hi e))).trans (h.block i hi hn)⟩
theorem Kept.drewN {R : Nat → Prop} {a b : World} (h : Kept R a b) (n : Nat) : Kept R a (b.drewN n) := ⟨h.os, h.tape, h.output, h.size, h.block⟩
theorem Kept.drew {R : Nat → Prop} {a b : World} (h : Kept R a b) : Kept R a b.drew := ⟨h.os, h.tape, h.output, h.size, h.block⟩
theorem Kept.alloc {R : Nat → Prop} {a b : World} (h : Kept R a b) (o : Obj) : Kept R a (b.alloc o) :=
 h.trans ⟨rfl, rfl, rfl, by simp, fun k hk _ => Below.heap_alloc _ _ _ hk⟩
theorem Kept.setCell {R : Nat → Prop} {a b : World} (h : Kept R a b) {p : Addr} (hp : a.heap.size ≤ p.block ∨ R p.block) (u : Value) : Kept R a (b.setCell p u) := by
 refine ⟨h.os, h.tape, h.output, by simpa [World.setCell] using h.size, fun k hk hr => ?_⟩;rw [Below.heap_setCell _ _ _ _ (fun e => by subst e; exact hp.elim (fun h1 => by omega) hr)];exact h.block k hk hr
theorem Kept.grown {R : Nat → Prop} {a b c : World} {row : Option Nat} (h : Kept R a b) (hg : b.grownBy c row) (hr : ∀ k, row = some k → a.heap.size ≤ k ∨ R k) : Kept R a c :=
 ⟨hg.os.trans h.os, hg.tape.trans h.tape, hg.output.trans h.output, Nat.le_trans h.size hg.size, fun k hk hn =>
  (hg.block k (Nat.lt_of_lt_of_le hk h.size) (fun e => (hr k e.symm).elim (fun h1 => by omega) hn)).trans (h.block k hk hn)⟩
theorem Kept.of_grown {R : Nat → Prop} {b c : World} {row : Option Nat} (hg : b.grownBy c row) (hr : ∀ k, row = some k → R k) : Kept R b c :=
 (Kept.refl R b).grown hg (fun k e => .inr (hr k e))
theorem Kept.below {R : Nat → Prop} {a b : World} (h : Kept R a b) {B : Nat} (hB : B ≤ a.heap.size) (hr : ∀ k, k < B → ¬ R k) : Below B a b :=
 ⟨h.os, h.tape, h.output, h.size, fun k hk => h.block k (Nat.lt_of_lt_of_le hk hB) (hr k hk)⟩
theorem Kept.heap {R : Nat → Prop} {a b : World} (h : Kept R a b) {k : Nat} {o : Obj} (hk : a.heap[k]? = some o) (hr : ¬ R k) : b.heap[k]? = some o := by
 rw [h.block k (Array.getElem?_eq_some_iff.1 hk).1 hr]; exact hk
theorem Kept.cell {R : Nat → Prop} {a b : World} (h : Kept R a b) {p : Addr} (hp : p.block < a.heap.size) (hr : ¬ R p.block) : b.cell? p = a.cell? p :=
 World.cell?_of_block (w := a) (h.block p.block hp hr)
theorem Kept.frozen {R : Nat → Prop} {a b : World} (h : Kept R a b) {p : Addr} (hp : p.block < a.heap.size) (hr : ¬ R p.block) : b.frozen? p = a.frozen? p :=
 World.frozen?_of_block (w := a) (h.block p.block hp hr)
theorem Kept.cellOf {R : Nat → Prop} {a b : World} (h : Kept R a b) {p : Addr} {v : Value} (hc : a.cell? p = some v) (hr : ¬ R p.block) : b.cell? p = some v :=
 (h.cell (World.block_lt_of_cell? a p hc) hr).trans hc
theorem Kept.owns {R : Nat → Prop} {w w' : World} (k : Kept R w w') {base : Nat} {e : TypeId} {size : Nat} {v : Value} {n : Nat} {xs : List Value} (h : w.ownsRow base e size v n xs)
  (hr : ∀ b, v.ownBlock = some b → ¬ R b) : w'.ownsRow base e size v n xs := by
 refine ⟨h.1, ?_⟩
 rcases h.2 with hn | ⟨g, cap, cur, rfl, hb, mm, rest⟩
 ·exact .inl hn
 ·exact .inr ⟨g, cap, cur, rfl, hb, k.heap mm (hr g rfl), rest⟩
def vals (k : IntKind) (bs : List Int) : List Value := bs.map (Value.int k)
theorem O1 (k : IntKind) (bs : List Int) : (vals k bs).length = bs.length := by simp [vals]
theorem Qp (k : IntKind) (bs : List Int) (j : Nat) (h : j < bs.length) : (vals k bs)[j]? = some (.int k (bs.getD j 0)) := by
 simp [vals, h, List.getD]
def Own (base : Nat) (e : TypeId) (k : IntKind) (w : World) (v : Value) (bs : List Int) : Prop := w.ownsRow base e 1 v bs.length (vals k bs)
theorem Own.form {base : Nat} {e : TypeId} {k : IntKind} {w : World} {v : Value} {bs : List Int} (h : Own base e k w v bs) :
  (v = Q4 ∧ bs = []) ∨ ∃ g cap, v = Q3 g bs.length cap ∧ base ≤ g ∧ g < w.heap.size ∧ bs.length ≤ cap ∧ cap ≤ maxLen := by
 rcases h.2 with ⟨rfl, hn⟩ | ⟨g, cap, cur, rfl, hb, mm, hc, hm, _⟩
 ·exact .inl ⟨rfl, List.length_eq_zero_iff.1 hn⟩
 ·exact .inr ⟨g, cap, rfl, hb, (Array.getElem?_eq_some_iff.1 mm).1, hc, hm⟩
theorem Own.cell {base : Nat} {e : TypeId} {k : IntKind} {w : World} {g n cap : Nat} {bs : List Int} (h : Own base e k w (Q3 g n cap) bs) (hn : n = bs.length) (j : Nat) (hj : j < n) :
  w.cell? ⟨g, j, none⟩ = some (.int k (bs.getD j 0)) := by
 subst hn;have := World.ownsRow.cellAt h j (by omega);rw [this, Qp k bs j hj]
theorem Own.frozen {base : Nat} {e : TypeId} {k : IntKind} {w : World} {g n cap : Nat} {bs : List Int} (h : Own base e k w (Q3 g n cap) bs) (hn : n = bs.length) (j : Nat) :
  w.frozen? ⟨g, j, none⟩ = false := by
 subst hn;exact World.ownsRow.frozenAt h j
theorem Own.kept {R : Nat → Prop} {base : Nat} {e : TypeId} {k : IntKind} {w w' : World} {v : Value} {bs : List Int} (h : Own base e k w v bs) (hk : Kept R w w') (hr : ∀ b, v.ownBlock = some b → ¬ R b) : Own base e k w' v bs :=
 hk.owns h hr
theorem Own.same {base : Nat} {e : TypeId} {k : IntKind} {w w' : World} {v : Value} {bs : List Int} (h : Own base e k w v bs) (hk : Same w w') : Own base e k w' v bs :=
 hk.owns h (fun _ _ => id)
theorem Own.stored {base : Nat} {e : TypeId} {k : IntKind} {w : World} {g n cap : Nat} {bs : List Int} (h : Own base e k w (Q3 g n cap) bs) (hn : n = bs.length) (j : Nat) (x : Int) :
  Own base e k (w.setCell ⟨g, j, none⟩ (.int k x)) (Q3 g n cap) (bs.set j x) := by
 subst hn;have := (World.ownsRow.stored h j (.int k x)).1;unfold Own;rw [List.length_set]
 have e : vals k (bs.set j x) = (vals k bs).set j (.int k x) := by simp [vals]
 rw [e];exact this
theorem Own.lt {base : Nat} {e : TypeId} {k : IntKind} {w : World} {v : Value} {bs : List Int} (h : Own base e k w v bs) : ∀ b, v.ownBlock = some b → base ≤ b ∧ b < w.heap.size :=
 World.ownsRow.lt h
theorem Own.nil (base : Nat) (e : TypeId) (k : IntKind) (w : World) : Own base e k w (Q4) [] := World.ownsRow_nil _ _ _ _
theorem Own.mono {base jv : Nat} {e : TypeId} {k : IntKind} {w : World} {v : Value} {bs : List Int} (h : Own base e k w v bs) (hb : ∀ b, v.ownBlock = some b → jv ≤ b) : Own jv e k w v bs := by
 refine ⟨h.1, ?_⟩
 rcases h.2 with hn | ⟨g, cap, cur, rfl, _, mm, rest⟩
 ·exact .inl hn
 ·exact .inr ⟨g, cap, cur, rfl, hb g rfl, mm, rest⟩
theorem QX {base : Nat} {e : TypeId} {k : IntKind} {w : World} {v : Value} {bs : List Int} (h : Own base e k w v bs) : ∃ aa na ca, v = .slice aa na ca := by
 rcases h.form with ⟨rfl, _⟩ | ⟨g, cap, rfl, _⟩ <;> exact ⟨_, _, _, rfl⟩
theorem UR {w : World} {b off : Nat} {bs : List Int} (hc : ∀ i, i < bs.length → w.cell? ⟨b, off + i, none⟩ = some (.int .u8 (bs.getD i 0))) (j : Nat) (u : Value) (h : (vals .u8 bs)[j]? = some u) : w.cell? ((⟨b, off, none⟩ : Addr).add j) = some u := by
 have hj : j < bs.length := by have := (List.getElem?_eq_some_iff.1 h).1; rwa [O1] at this
 rw [Qp _ _ _ hj] at h
 have e : (⟨b, off, none⟩ : Addr).add j = ⟨b, off + j, none⟩ := by
  unfold Addr.add
  split
  ·next h => subst h; rfl
  ·rfl
 rw [e, hc j hj];exact h
theorem Qy {k : IntKind} {bs : List Int} (u : Value) (h : u ∈ vals k bs) : u.oneCell' = true := by
 obtain ⟨x, _, rfl⟩ := List.mem_map.1 h;rfl
def marks (k : Int) (n : Nat) : List Int := (List.range n).map fun (i : Nat) => (k + (i : Int)) % 256
def part (k : Int) (bs : List Int) (j : Nat) : List Int := marks k j ++ bs.drop j
/-! ### Pending writes: rows of two cells, a sector's number and a slice of bytes -/
structure PW where
 sec : Int
 v : Value
 bs : List Int
def SG : List PW → List Value
 | [] => []
 | p :: ps => .int .i64 p.sec :: p.v :: SG ps
theorem Zc (ps : List PW) (j : Nat) (h : j < ps.length) : (SG ps)[j * 2]? = some (Q1 ps[j].sec) := by
 induction ps generalizing j with
 | nil => simp at h
 | cons p ps ih =>
  cases j with
  | zero => simp [SG]
  | succ j => have := ih j (by simpa using h); rw [show (j + 1) * 2 = j * 2 + 1 + 1 from by omega]; simpa [SG] using this
theorem jbl (ps : List PW) (j : Nat) (h : j < ps.length) : (SG ps)[j * 2 + 1]? = some ps[j].v := by
 induction ps generalizing j with
 | nil => simp at h
 | cons p ps ih =>
  cases j with
  | zero => simp [SG]
  | succ j => have := ih j (by simpa using h); rw [show (j + 1) * 2 + 1 = j * 2 + 1 + 1 + 1 from by omega]; simpa [SG] using this
def Apart (v u : Value) : Prop := ∀ b, v.ownBlock = some b → u.ownBlock ≠ some b
theorem Apart.symm {v u : Value} (h : Apart v u) : Apart u v := fun b hb hv => h b hv hb
structure OwnP (base : Nat) (tw tb : TypeId) (w : World) (v : Value) (ps : List PW) : Prop where
 row : w.ownsRow base tw 2 v ps.length (SG ps)
 data : ∀ p ∈ ps, Own base tb .u8 w p.v p.bs
 out : ∀ u ∈ ps.map PW.v, Apart v u
 each : (ps.map PW.v).Pairwise Apart
def Zd (v : Value) (ps : List PW) (b : Nat) : Prop := v.ownBlock = some b ∨ ∃ p ∈ ps, p.v.ownBlock = some b
theorem OwnP.form {base : Nat} {tw tb : TypeId} {w : World} {v : Value} {ps : List PW} (h : OwnP base tw tb w v ps) :
  (v = Q4 ∧ ps = []) ∨ ∃ g cap, v = Q3 g ps.length cap ∧ base ≤ g ∧ g < w.heap.size ∧ ps.length ≤ cap ∧ cap ≤ maxLen := by
 rcases h.row.2 with ⟨rfl, hn⟩ | ⟨g, cap, cur, rfl, hb, mm, hc, hm, _⟩
 ·exact .inl ⟨rfl, List.length_eq_zero_iff.1 hn⟩
 ·exact .inr ⟨g, cap, rfl, hb, (Array.getElem?_eq_some_iff.1 mm).1, hc, hm⟩
theorem OwnP.lt {base : Nat} {tw tb : TypeId} {w : World} {v : Value} {ps : List PW} (h : OwnP base tw tb w v ps) (b : Nat) (hb : Zd v ps b) : base ≤ b ∧ b < w.heap.size := by
 rcases hb with hb | ⟨p, hp, hb⟩
 ·exact World.ownsRow.lt h.row b hb
 ·exact (h.data p hp).lt b hb
theorem OwnP.sec {base : Nat} {tw tb : TypeId} {w : World} {g n cap : Nat} {ps : List PW} (h : OwnP base tw tb w (Q3 g n cap) ps) (hn : n = ps.length) (j : Nat) (hj : j < ps.length) :
  w.cell? ⟨g, j * 2, none⟩ = some (Q1 ps[j].sec) := by
 subst hn;rw [World.ownsRow.cellAt h.row (j * 2) (by omega), Zc ps j hj]
theorem OwnP.val {base : Nat} {tw tb : TypeId} {w : World} {g n cap : Nat} {ps : List PW} (h : OwnP base tw tb w (Q3 g n cap) ps) (hn : n = ps.length) (j : Nat) (hj : j < ps.length) :
  w.cell? ⟨g, j * 2 + 1, none⟩ = some ps[j].v := by
 subst hn;rw [World.ownsRow.cellAt h.row (j * 2 + 1) (by omega), jbl ps j hj]
theorem OwnP.frozen {base : Nat} {tw tb : TypeId} {w : World} {g n cap : Nat} {ps : List PW} (h : OwnP base tw tb w (Q3 g n cap) ps) (hn : n = ps.length) (j : Nat) :
  w.frozen? ⟨g, j, none⟩ = false := by
 subst hn;exact World.ownsRow.frozenAt h.row j
theorem OwnP.kept {R : Nat → Prop} {base : Nat} {tw tb : TypeId} {w w' : World} {v : Value} {ps : List PW} (h : OwnP base tw tb w v ps) (hk : Kept R w w') (hr : ∀ b, Zd v ps b → ¬ R b) : OwnP base tw tb w' v ps :=
 ⟨hk.owns h.row (fun b hb => hr b (.inl hb)), fun p hp => (h.data p hp).kept hk (fun b hb => hr b (.inr ⟨p, hp, hb⟩)), h.out, h.each⟩
theorem OwnP.same {base : Nat} {tw tb : TypeId} {w w' : World} {v : Value} {ps : List PW} (h : OwnP base tw tb w v ps) (hk : Same w w') : OwnP base tw tb w' v ps :=
 h.kept hk (fun _ _ => id)
theorem OwnP.nil (base : Nat) (tw tb : TypeId) (w : World) : OwnP base tw tb w (Q4) [] :=
 ⟨World.ownsRow_nil _ _ _ _, fun _ h => by simp at h, fun _ h => by simp at h, List.Pairwise.nil⟩
def jcf (ps : List PW) : List (Int × List Int) := ps.map fun p => (p.sec, p.bs)
structure OwnD (base : Nat) (tw tb : TypeId) (w : World) (dv pv : Value) (dur : List Int) (ps : List PW) : Prop where
 dur : Own base tb .u8 w dv dur
 pend : OwnP base tw tb w pv ps
 apart : ∀ b, Zd pv ps b → dv.ownBlock ≠ some b
def jcg (dv pv : Value) (ps : List PW) (b : Nat) : Prop := dv.ownBlock = some b ∨ Zd pv ps b
theorem OwnD.kept {R : Nat → Prop} {base : Nat} {tw tb : TypeId} {w w' : World} {dv pv : Value} {dur : List Int} {ps : List PW} (h : OwnD base tw tb w dv pv dur ps) (hk : Kept R w w') (hr : ∀ b, jcg dv pv ps b → ¬ R b) : OwnD base tw tb w' dv pv dur ps :=
 ⟨h.dur.kept hk (fun b hb => hr b (.inl hb)), h.pend.kept hk (fun b hb => hr b (.inr hb)), h.apart⟩
theorem OwnD.same {base : Nat} {tw tb : TypeId} {w w' : World} {dv pv : Value} {dur : List Int} {ps : List PW} (h : OwnD base tw tb w dv pv dur ps) (hk : Same w w') : OwnD base tw tb w' dv pv dur ps :=
 h.kept hk (fun _ _ => id)
theorem OwnD.lt {base : Nat} {tw tb : TypeId} {w : World} {dv pv : Value} {dur : List Int} {ps : List PW} (h : OwnD base tw tb w dv pv dur ps) (b : Nat) (hb : jcg dv pv ps b) : base ≤ b ∧ b < w.heap.size := by
 rcases hb with hb | hb
 ·exact h.dur.lt b hb
 ·exact h.pend.lt b hb
def Box (w : World) (B : Nat) (x y : Value) : Prop := w.cell? ⟨B, 0, none⟩ = some x ∧ w.cell? ⟨B, 1, none⟩ = some y
theorem Box.new (w : World) (x y : Value) (t : TypeId) : Box (w.alloc (.cells #[x, y] t)) w.heap.size x y := ⟨by simp, by simp⟩
theorem Box.kept {R : Nat → Prop} {w w' : World} {B : Nat} {x y : Value} (h : Box w B x y) (hk : Kept R w w') (hr : ¬ R B) : Box w' B x y :=
 ⟨hk.cellOf h.1 hr, hk.cellOf h.2 hr⟩
theorem Box.same {w w' : World} {B : Nat} {x y : Value} (h : Box w B x y) (hk : Same w w') : Box w' B x y := h.kept hk id
theorem Box.lt {w : World} {B : Nat} {x y : Value} (h : Box w B x y) : B < w.heap.size := World.block_lt_of_cell? w ⟨B, 0, none⟩ h.1
def FBox (w : World) (B : Nat) (x y : Value) : Prop := w.cell? ⟨B, 0, none⟩ = some x ∧ w.cell? ⟨B, 1, none⟩ = some y ∧ w.frozen? ⟨B, 0, none⟩ = false ∧ w.frozen? ⟨B, 1, none⟩ = false
theorem FBox.kept {R : Nat → Prop} {w w' : World} {B : Nat} {x y : Value} (h : FBox w B x y) (hk : Kept R w w') (hr : ¬ R B) : FBox w' B x y := by
 have hl := World.block_lt_of_cell? w ⟨B, 0, none⟩ h.1;exact ⟨hk.cellOf h.1 hr, hk.cellOf h.2.1 hr, (hk.frozen (p := ⟨B, 0, none⟩) hl hr).trans h.2.2.1, (hk.frozen (p := ⟨B, 1, none⟩) hl hr).trans h.2.2.2⟩
theorem FBox.same {w w' : World} {B : Nat} {x y : Value} (h : FBox w B x y) (hk : Same w w') : FBox w' B x y := h.kept hk id
theorem FBox.new (w : World) (x y : Value) (t : TypeId) : FBox (w.alloc (.cells #[x, y] t)) w.heap.size x y := ⟨by simp, by simp, by simp, by simp⟩
theorem FBox.next {w : World} {B : Nat} {x y : Value} (h : FBox w B x y) (o : Obj) : FBox (w.alloc o) B x y := h.same (kZ0.alloc _)
theorem FBox.lt {w : World} {B : Nat} {x y : Value} (h : FBox w B x y) : B < w.heap.size := World.block_lt_of_cell? w ⟨B, 0, none⟩ h.1
theorem FBox.other {w : World} {B : Nat} {x y : Value} (h : FBox w B x y) (a : Addr) (ha : a.block ≠ B) (u : Value) : FBox (w.setCell a u) B x y :=
 h.kept (Kept.setCell (Kept.refl (fun b => b = a.block) w) (p := a) (.inr rfl) u) (fun e => ha e.symm)
theorem Tc {base : Nat} {e : TypeId} {w : World} {v : Value} {k : IntKind} {n : Nat} (h : w.ownsRow base e 1 v n (madeCells (Value.int k 0).cells (n * 1)).toList) : Own base e k w v (List.replicate n 0) := by
 unfold Own vals;rw [List.map_replicate, List.length_replicate, ← toList_madeCells_one]
 simpa [Value.cells] using h
def Rd (k : IntKind) (w : World) (v : Value) (bs : List Int) : Prop :=
 bs.length ≤ maxLen ∧ ((bs = [] ∧ ∃ a c, v = .slice a 0 c ∧ (a = none → c = 0)) ∨ ∃ b off c, v = .slice (some ⟨b, off, none⟩) bs.length c ∧ bs.length ≤ c ∧ ∀ i, i < bs.length → w.cell? ⟨b, off + i, none⟩ = some (.int k (bs.getD i 0)))
theorem Rd.kept {R : Nat → Prop} {k : IntKind} {w w' : World} {v : Value} {bs : List Int} (h : Rd k w v bs) (hk : Kept R w w') (hr : ∀ b, v.ownBlock = some b → ¬ R b) : Rd k w' v bs := by
 refine ⟨h.1, ?_⟩
 rcases h.2 with h | ⟨b, off, c, rfl, hl, hc⟩
 ·exact .inl h
 ·exact .inr ⟨b, off, c, rfl, hl, fun i hi => hk.cellOf (hc i hi) (hr b rfl)⟩
theorem Rd.same {k : IntKind} {w w' : World} {v : Value} {bs : List Int} (h : Rd k w v bs) (hk : Same w w') : Rd k w' v bs := h.kept hk (fun _ _ => id)
theorem Rd.form {k : IntKind} {w : World} {v : Value} {bs : List Int} (h : Rd k w v bs) : ∃ a c, v = .slice a bs.length c := by
 rcases h.2 with ⟨rfl, a, c, rfl, _⟩ | ⟨b, off, c, rfl, _⟩ <;> exact ⟨_, _, rfl⟩
theorem Own.rd {base : Nat} {e : TypeId} {k : IntKind} {w : World} {v : Value} {bs : List Int} (h : Own base e k w v bs) : Rd k w v bs := by
 rcases h.form with ⟨rfl, rfl⟩ | ⟨g, cap, rfl, _, _, hc, hm⟩
 ·exact ⟨by simp, .inl ⟨rfl, _, _, rfl, fun _ => rfl⟩⟩
 ·exact ⟨Nat.le_trans hc hm, .inr ⟨g, 0, cap, rfl, hc, fun i hi => by rw [Nat.zero_add]; exact h.cell rfl i hi⟩⟩
def IsB (bs : List Int) : Prop := ∀ x ∈ bs, 0 ≤ x ∧ x ≤ 255
def IsI (a : Int) : Prop := -9223372036854775808 ≤ a ∧ a ≤ 9223372036854775807
theorem IsB.at {bs : List Int} (h : IsB bs) (i : Nat) (hi : i < bs.length) : 0 ≤ bs.getD i 0 ∧ bs.getD i 0 ≤ 255 := by
 rw [List.getD_eq_getElem?_getD, List.getElem?_eq_getElem hi];exact h _ (List.getElem_mem hi)
structure RdP (w : World) (v : Value) (ps : List PW) : Prop where
 len : ps.length ≤ maxLen
 row : (ps = [] ∧ ∃ a c, v = .slice a 0 c) ∨ ∃ b off c, v = .slice (some ⟨b, off, none⟩) ps.length c ∧ ∀ i (h : i < ps.length), w.cell? ⟨b, off + i * 2, none⟩ = some (Q1 ps[i].sec) ∧ w.cell? ⟨b, off + i * 2 + 1, none⟩ = some ps[i].v
 data : ∀ p ∈ ps, Rd .u8 w p.v p.bs
theorem RdP.kept {R : Nat → Prop} {w w' : World} {v : Value} {ps : List PW} (h : RdP w v ps) (hk : Kept R w w') (hr : ∀ b, Zd v ps b → ¬ R b) : RdP w' v ps := by
 refine ⟨h.len, ?_, fun p hp => (h.data p hp).kept hk (fun b hb => hr b (.inr ⟨p, hp, hb⟩))⟩
 rcases h.row with h | ⟨b, off, c, rfl, hc⟩
 ·exact .inl h
 ·exact .inr ⟨b, off, c, rfl, fun i hi => ⟨hk.cellOf (hc i hi).1 (hr b (.inl rfl)), hk.cellOf (hc i hi).2 (hr b (.inl rfl))⟩⟩
theorem RdP.same {w w' : World} {v : Value} {ps : List PW} (h : RdP w v ps) (hk : Same w w') : RdP w' v ps := h.kept hk (fun _ _ => id)
theorem RdP.form {w : World} {v : Value} {ps : List PW} (h : RdP w v ps) : ∃ a c, v = .slice a ps.length c := by
 rcases h.row with ⟨rfl, a, c, rfl⟩ | ⟨b, off, c, rfl, _⟩ <;> exact ⟨_, _, rfl⟩
theorem OwnP.rd {base : Nat} {tw tb : TypeId} {w : World} {v : Value} {ps : List PW} (h : OwnP base tw tb w v ps) : RdP w v ps := by
 refine ⟨?_, ?_, fun p hp => (h.data p hp).rd⟩
 ·rcases h.form with ⟨rfl, rfl⟩ | ⟨g, cap, rfl, _, _, hc, hm⟩
  ·simp
  ·exact Nat.le_trans hc hm
 ·rcases h.form with ⟨rfl, rfl⟩ | ⟨g, cap, rfl, _, _, hc, hm⟩
  ·exact .inl ⟨rfl, _, _, rfl⟩
  ·exact .inr ⟨g, 0, cap, rfl, fun i hi => ⟨by rw [Nat.zero_add]; exact h.sec rfl i hi, by rw [Nat.zero_add]; exact h.val rfl i hi⟩⟩
structure RdD (w : World) (dv pv : Value) (dur : List Int) (ps : List PW) : Prop where
 dur : Rd .u8 w dv dur
 pend : RdP w pv ps
theorem RdD.kept {R : Nat → Prop} {w w' : World} {dv pv : Value} {dur : List Int} {ps : List PW} (h : RdD w dv pv dur ps) (hk : Kept R w w') (hr : ∀ b, jcg dv pv ps b → ¬ R b) : RdD w' dv pv dur ps :=
 ⟨h.dur.kept hk (fun b hb => hr b (.inl hb)), h.pend.kept hk (fun b hb => hr b (.inr hb))⟩
theorem RdD.same {w w' : World} {dv pv : Value} {dur : List Int} {ps : List PW} (h : RdD w dv pv dur ps) (hk : Same w w') : RdD w' dv pv dur ps := h.kept hk (fun _ _ => id)
theorem OwnD.rd {base : Nat} {tw tb : TypeId} {w : World} {dv pv : Value} {dur : List Int} {ps : List PW} (h : OwnD base tw tb w dv pv dur ps) : RdD w dv pv dur ps := ⟨h.dur.rd, h.pend.rd⟩
theorem Qz {bs : List Int} (h : IsB bs) (k : Nat) : IsB (bs.take k) := fun y hy => h y (List.mem_of_mem_take hy)
theorem Rp {bs : List Int} (h : IsB bs) (k : Nat) : IsB (bs.drop k) := fun y hy => h y (List.mem_of_mem_drop hy)
theorem Rd.front {k : IntKind} {w : World} {b off c : Nat} {bs : List Int} (h : Rd k w (.slice (some ⟨b, off, none⟩) bs.length c) bs) (m : Nat) (hm : m ≤ bs.length) : Rd k w (.slice (some ⟨b, off, none⟩) m c) (bs.take m) := by
 refine ⟨Nat.le_trans (by simp; omega) h.1, ?_⟩
 rcases h.2 with ⟨hn, a, c', e, _⟩ | ⟨b', nx, c', e, hl, hc⟩
 ·subst hn
  obtain rfl : m = 0 := by simpa using hm
  exact .inl ⟨by simp, _, _, rfl, fun e => by cases e⟩
 ·cases e
  have el : (bs.take m).length = m := by simp; omega
  refine .inr ⟨b, off, c, by rw [el], by omega, fun i hi => ?_⟩;have := hc i (by omega);rw [this];simp [List.getD, List.getElem?_take, show i < m by omega]
theorem Rd.back {k : IntKind} {w : World} {b off c : Nat} {bs : List Int} (h : Rd k w (.slice (some ⟨b, off, none⟩) bs.length c) bs) (m : Nat) (hm : m ≤ bs.length) : Rd k w (.slice (some ⟨b, off + m, none⟩) (bs.length - m) (c - m)) (bs.drop m) := by
 refine ⟨Nat.le_trans (by simp) h.1, ?_⟩
 rcases h.2 with ⟨hn, a, c', e, _⟩ | ⟨b', nx, c', e, hl, hc⟩
 ·subst hn
  exact .inl ⟨by simp, _, _, by simp; exact ⟨rfl, rfl⟩, fun e => by cases e⟩
 ·cases e
  have el : (bs.drop m).length = bs.length - m := by simp
  refine .inr ⟨b, off + m, c - m, by rw [el], by omega, fun i hi => ?_⟩;have := hc (m + i) (by omega);rw [Nat.add_assoc, this];simp [List.getD, List.getElem?_drop]
theorem jbm {w : World} {a : Addr} {v : Value} (h : w.cell? (a.add 0) = some v) : ∃ b off, a = ⟨b, off, none⟩ := by
 obtain ⟨b, off, CY⟩ := a
 have hs : CY = none := by simpa [Addr.add] using World.cell?_spot h
 subst hs;exact ⟨b, off, rfl⟩
theorem jch (b off i : Nat) : (⟨b, off, none⟩ : Addr).add i = ⟨b, off + i, none⟩ := by
 unfold Addr.add
 split
 ·next h => subst h; rfl
 ·rfl
section
variable {H : Type} {enc : TypeId × Value → H} {w : World} {base : Nat} {spare : Nat → Bool} {held : Bool}
set_option maxRecDepth 100000 in
theorem jan {t e : TypeId} {k : IntKind} (ht : Tryz.prog.underlying t = some (.slice e)) (he : Tryz.prog.underlying e = some (.int k)) (hc : Tryz.prog.cellsOf e = 1) {fuel : Nat} {v : Value} {x : DataW H × List MemPlace}
  (h : DataW.trod enc Tryz.prog w base spare held fuel t [v] = some x) : ∃ bs, Rd k w v bs ∧ ∀ n ∈ bs, k.min ≤ n ∧ n ≤ k.max := by
 rcases open_ints ht he hc h with ⟨ey, _⟩ | ⟨a, len, cap, zs, ey, _, hl, hm, hz, _, iD, MC⟩
 ·simp at ey
  subst ey;exact ⟨[], ⟨by simp, .inl ⟨rfl, _, _, rfl, fun _ => rfl⟩⟩, fun n hn => by simp at hn⟩
 ·simp at ey
  subst ey
  have JY : len ≤ zs.length := by rw [hz]; split <;> omega
  refine ⟨zs.take len, ⟨by simp; omega, ?_⟩, fun n hn => by have := MC n (List.mem_of_mem_take hn); simpa [Lit.wf] using this⟩
  by_cases h0 : len = 0
  ·subst h0
   exact .inl ⟨by simp, _, _, rfl, fun h => by simp at h⟩
  ·obtain ⟨b, off, rfl⟩ := jbm (iD 0 (by omega))
   refine .inr ⟨b, off, cap, by simp [Nat.min_eq_left JY], by simp; omega, fun i hi => ?_⟩
   have r8 : i < len := by simp at hi; omega
   have := iD i (by omega)
   simpa [jch, List.getD, List.getElem?_take, r8] using this
set_option maxRecDepth 100000 in
theorem VA {r : Reach} {b0 : Nat} {v : Value} {d : DataW H} {p : List MemPlace} (hv : Value.okWide Tryz.prog w r b0 22 v) (h : DataW.Trod enc Tryz.prog w base spare held 22 v d p) : ∃ bs, Rd .u8 w v bs ∧ IsB bs := by
 obtain ⟨a, n, c, rfl⟩ := okWide_slice Tryz.underlying22 hv;obtain ⟨m, hm⟩ := h;exact jan Tryz.underlying22 Tryz.underlying5 (by kernel_rfl) hm
end
def inB (v a b : Int) : Bool := decide (a ≤ v) && decide (v ≤ b)
set_option maxRecDepth 100000 in
theorem Qh (v a b : Int) (w : World) : Calls Tryz.prog 32 #[Q1 v, Q1 a, Q1 b] w fun e w' => e = .returned (.bool (inB v a b)) ∧ Same w w' := by
 unfold inB
 by_cases h : a ≤ v
 ·by_cases h2 : v ≤ b
  ·go_enter Tryz.func32, Tryz.ntmps32
   go_wp2;go_ret;exact ⟨by simp [h, h2], kZ0⟩
  ·go_enter Tryz.func32, Tryz.ntmps32
   go_wp2;go_ret;exact ⟨by simp [h]; try omega, kZ0⟩
 ·go_enter Tryz.func32, Tryz.ntmps32
  go_wp2;go_ret;exact ⟨by rw [show decide (a ≤ v) = false from by simp; omega]; rfl, kZ0⟩
def Blk (w : World) (B : Nat) (e : TypeId) (xs : List Value) : Prop := w.heap[B]? = some (.cells xs.toArray e (0, 0))
theorem Blk.lt {w : World} {B : Nat} {e : TypeId} {xs : List Value} (h : Blk w B e xs) : B < w.heap.size := (Array.getElem?_eq_some_iff.1 h).1
theorem Blk.cell {w : World} {B : Nat} {e : TypeId} {xs : List Value} (h : Blk w B e xs) (j : Nat) : w.cell? ⟨B, j, none⟩ = xs[j]? := by
 unfold Blk at h;simp [World.cell?, h]
theorem Blk.frozen {w : World} {B : Nat} {e : TypeId} {xs : List Value} (h : Blk w B e xs) (j : Nat) : w.frozen? ⟨B, j, none⟩ = false := by
 unfold Blk at h;simp [World.frozen?, h]
theorem Blk.kept {R : Nat → Prop} {w w' : World} {B : Nat} {e : TypeId} {xs : List Value} (h : Blk w B e xs) (hk : Kept R w w') (hr : ¬ R B) : Blk w' B e xs := hk.heap h hr
theorem Blk.same {w w' : World} {B : Nat} {e : TypeId} {xs : List Value} (h : Blk w B e xs) (hk : Same w w') : Blk w' B e xs := hk.heap h id
theorem Blk.new (w : World) (xs : Array Value) (e : TypeId) : Blk (w.alloc (.cells xs e)) w.heap.size e xs.toList := by
 unfold Blk World.alloc;rw [Array.toArray_toList];exact Array.getElem?_push_size
theorem Blk.newL (w : World) (xs : List Value) (e : TypeId) : Blk (w.alloc (.cells xs.toArray e)) w.heap.size e xs := Blk.new w xs.toArray e
theorem Blk.c0 {w : World} {B : Nat} {e : TypeId} {v0 : Value} {t : List Value} (h : Blk w B e (v0 :: t)) : w.cell? ⟨B, 0, none⟩ = some v0 := h.cell 0
theorem Blk.c1 {w : World} {B : Nat} {e : TypeId} {v0 v1 : Value} {t : List Value} (h : Blk w B e (v0 :: v1 :: t)) : w.cell? ⟨B, 1, none⟩ = some v1 := h.cell 1
theorem Blk.c2 {w : World} {B : Nat} {e : TypeId} {v0 v1 v2 : Value} {t : List Value} (h : Blk w B e (v0 :: v1 :: v2 :: t)) : w.cell? ⟨B, 2, none⟩ = some v2 := h.cell 2
theorem Blk.c3 {w : World} {B : Nat} {e : TypeId} {v0 v1 v2 v3 : Value} {t : List Value} (h : Blk w B e (v0 :: v1 :: v2 :: v3 :: t)) : w.cell? ⟨B, 3, none⟩ = some v3 := h.cell 3
theorem Blk.c4 {w : World} {B : Nat} {e : TypeId} {v0 v1 v2 v3 v4 : Value} {t : List Value} (h : Blk w B e (v0 :: v1 :: v2 :: v3 :: v4 :: t)) : w.cell? ⟨B, 4, none⟩ = some v4 := h.cell 4
theorem Blk.c5 {w : World} {B : Nat} {e : TypeId} {v0 v1 v2 v3 v4 v5 : Value} {t : List Value} (h : Blk w B e (v0 :: v1 :: v2 :: v3 :: v4 :: v5 :: t)) : w.cell? ⟨B, 5, none⟩ = some v5 := h.cell 5
theorem Blk.c6 {w : World} {B : Nat} {e : TypeId} {v0 v1 v2 v3 v4 v5 v6 : Value} {t : List Value} (h : Blk w B e (v0 :: v1 :: v2 :: v3 :: v4 :: v5 :: v6 :: t)) : w.cell? ⟨B, 6, none⟩ = some v6 := h.cell 6
theorem Blk.c7 {w : World} {B : Nat} {e : TypeId} {v0 v1 v2 v3 v4 v5 v6 v7 : Value} {t : List Value} (h : Blk w B e (v0 :: v1 :: v2 :: v3 :: v4 :: v5 :: v6 :: v7 :: t)) : w.cell? ⟨B, 7, none⟩ = some v7 := h.cell 7
theorem Blk.c8 {w : World} {B : Nat} {e : TypeId} {v0 v1 v2 v3 v4 v5 v6 v7 v8 : Value} {t : List Value} (h : Blk w B e (v0 :: v1 :: v2 :: v3 :: v4 :: v5 :: v6 :: v7 :: v8 :: t)) : w.cell? ⟨B, 8, none⟩ = some v8 := h.cell 8
theorem Blk.c9 {w : World} {B : Nat} {e : TypeId} {v0 v1 v2 v3 v4 v5 v6 v7 v8 v9 : Value} {t : List Value} (h : Blk w B e (v0 :: v1 :: v2 :: v3 :: v4 :: v5 :: v6 :: v7 :: v8 :: v9 :: t)) : w.cell? ⟨B, 9, none⟩ = some v9 := h.cell 9
theorem Blk.c10 {w : World} {B : Nat} {e : TypeId} {v0 v1 v2 v3 v4 v5 v6 v7 v8 v9 v10 : Value} {t : List Value} (h : Blk w B e (v0 :: v1 :: v2 :: v3 :: v4 :: v5 :: v6 :: v7 :: v8 :: v9 :: v10 :: t)) : w.cell? ⟨B, 10, none⟩ = some v10 := h.cell 10
theorem Blk.c11 {w : World} {B : Nat} {e : TypeId} {v0 v1 v2 v3 v4 v5 v6 v7 v8 v9 v10 v11 : Value} {t : List Value} (h : Blk w B e (v0 :: v1 :: v2 :: v3 :: v4 :: v5 :: v6 :: v7 :: v8 :: v9 :: v10 :: v11 :: t)) : w.cell? ⟨B, 11, none⟩ = some v11 := h.cell 11
theorem Blk.c12 {w : World} {B : Nat} {e : TypeId} {v0 v1 v2 v3 v4 v5 v6 v7 v8 v9 v10 v11 il : Value} {t : List Value} (h : Blk w B e (v0 :: v1 :: v2 :: v3 :: v4 :: v5 :: v6 :: v7 :: v8 :: v9 :: v10 :: v11 :: il :: t)) : w.cell? ⟨B, 12, none⟩ = some il := h.cell 12
theorem Blk.c13 {w : World} {B : Nat} {e : TypeId} {v0 v1 v2 v3 v4 v5 v6 v7 v8 v9 v10 v11 il i4 : Value} {t : List Value} (h : Blk w B e (v0 :: v1 :: v2 :: v3 :: v4 :: v5 :: v6 :: v7 :: v8 :: v9 :: v10 :: v11 :: il :: i4 :: t)) : w.cell? ⟨B, 13, none⟩ = some i4 := h.cell 13
theorem Blk.all2 {w : World} {B : Nat} {e : TypeId} {v0 v1 : Value} (h : Blk w B e [v0, v1]) : w.cell? ⟨B, 0, none⟩ = some v0 ∧ w.cell? ⟨B, 1, none⟩ = some v1 := ⟨h.cell 0, h.cell 1⟩
theorem Blk.all3 {w : World} {B : Nat} {e : TypeId} {v0 v1 v2 : Value} (h : Blk w B e [v0, v1, v2]) : w.cell? ⟨B, 0, none⟩ = some v0 ∧ w.cell? ⟨B, 1, none⟩ = some v1 ∧ w.cell? ⟨B, 2, none⟩ = some v2 := ⟨h.cell 0, h.cell 1, h.cell 2⟩
theorem Blk.all4 {w : World} {B : Nat} {e : TypeId} {v0 v1 v2 v3 : Value} (h : Blk w B e [v0, v1, v2, v3]) : w.cell? ⟨B, 0, none⟩ = some v0 ∧ w.cell? ⟨B, 1, none⟩ = some v1 ∧ w.cell? ⟨B, 2, none⟩ = some v2 ∧ w.cell? ⟨B, 3, none⟩ = some v3 := ⟨h.cell 0, h.cell 1, h.cell 2, h.cell 3⟩
theorem Blk.all14 {w : World} {B : Nat} {e : TypeId} {v0 v1 v2 v3 v4 v5 v6 v7 v8 v9 v10 v11 il i4 : Value} (h : Blk w B e [v0, v1, v2, v3, v4, v5, v6, v7, v8, v9, v10, v11, il, i4]) : w.cell? ⟨B, 0, none⟩ = some v0 ∧ w.cell? ⟨B, 1, none⟩ = some v1 ∧ w.cell? ⟨B, 2, none⟩ = some v2 ∧ w.cell? ⟨B, 3, none⟩ = some v3 ∧ w.cell? ⟨B, 4, none⟩ = some v4 ∧ w.cell? ⟨B, 5, none⟩ = some v5 ∧ w.cell? ⟨B, 6, none⟩ = some v6 ∧ w.cell? ⟨B, 7, none⟩ = some v7 ∧ w.cell? ⟨B, 8, none⟩ = some v8 ∧ w.cell? ⟨B, 9, none⟩ = some v9 ∧ w.cell? ⟨B, 10, none⟩ = some v10 ∧ w.cell? ⟨B, 11, none⟩ = some v11 ∧ w.cell? ⟨B, 12, none⟩ = some il ∧ w.cell? ⟨B, 13, none⟩ = some i4 := ⟨h.cell 0, h.cell 1, h.cell 2, h.cell 3, h.cell 4, h.cell 5, h.cell 6, h.cell 7, h.cell 8, h.cell 9, h.cell 10, h.cell 11, h.cell 12, h.cell 13⟩
theorem Rv (w : World) (xs : List Value) (e : TypeId) : Same w (w.alloc (.cells xs.toArray e)) := kZ0.alloc _
theorem Blk.newA (w : World) (xs : List Value) (e : TypeId) (ys : List Value) (e' : TypeId) : Blk ((w.alloc (.cells xs.toArray e)).alloc (.cells ys.toArray e')) w.heap.size e xs := by
 have h := Blk.newL w xs e;have := Below.heap_alloc (w.alloc (.cells xs.toArray e)) (.cells ys.toArray e') w.heap.size h.lt;unfold Blk at *;rw [this];exact h
theorem Blk.newB (w : World) (xs : List Value) (e : TypeId) (ys : List Value) (e' : TypeId) : Blk ((w.alloc (.cells xs.toArray e)).alloc (.cells ys.toArray e')) (w.heap.size + 1) e' ys := by
 have h := Blk.newL (w.alloc (.cells xs.toArray e)) ys e'
 rwa [World.size_alloc] at h
theorem jao (w : World) (xs : List Value) (e : TypeId) (ys : List Value) (e' : TypeId) : Same w ((w.alloc (.cells xs.toArray e)).alloc (.cells ys.toArray e')) := (kZ0.alloc _).alloc _
theorem new1 (w : World) (xs : List Value) (e : TypeId) : Hid (Same w (w.alloc (.cells xs.toArray e))) ∧ Hid (Blk (w.alloc (.cells xs.toArray e)) w.heap.size e xs) := ⟨Rv w xs e, Blk.newL w xs e⟩
theorem new2 (w : World) (xs : List Value) (e : TypeId) (ys : List Value) (e' : TypeId) : Hid (Same w ((w.alloc (.cells xs.toArray e)).alloc (.cells ys.toArray e'))) ∧ Hid (Blk ((w.alloc (.cells xs.toArray e)).alloc (.cells ys.toArray e')) w.heap.size e xs) ∧ Hid (Blk ((w.alloc (.cells xs.toArray e)).alloc (.cells ys.toArray e')) (w.heap.size + 1) e' ys) := ⟨jao w xs e ys e', Blk.newA w xs e ys e', Blk.newB w xs e ys e'⟩
theorem Blk.drew {w : World} {B : Nat} {e : TypeId} {xs : List Value} (h : Blk w B e xs) : Blk w.drew B e xs := h
theorem Blk.alloc {w : World} {B : Nat} {e : TypeId} {xs : List Value} (h : Blk w B e xs) (o : Obj) : Blk (w.alloc o) B e xs := by
 have := Below.heap_alloc w o B h.lt;unfold Blk;rw [this];exact h
theorem Blk.stored {w : World} {B : Nat} {e : TypeId} {xs : List Value} (h : Blk w B e xs) (j : Nat) (v : Value) : Blk (w.setCell ⟨B, j, none⟩ v) B e (xs.set j v) := by
 unfold Blk at h ⊢;have hl := (Array.getElem?_eq_some_iff.1 h).1;have hg := (Array.getElem?_eq_some_iff.1 h).2;simp [World.setCell, hl, Array.getElem_modify, hg]
theorem Blk.other {w : World} {B : Nat} {e : TypeId} {xs : List Value} (h : Blk w B e xs) {p : Addr} (hp : p.block ≠ B) (v : Value) : Blk (w.setCell p v) B e xs := by
 unfold Blk;rw [Below.heap_setCell _ _ _ _ (fun e => hp e.symm)];exact h
theorem Own.blk {w : World} {base g n : Nat} {e : TypeId} {k : IntKind} {bs : List Int} (h : Own base e k w (Q3 g n n) bs) : Blk w g e (vals k bs) := by
 rcases h.2 with ⟨h, _⟩ | ⟨g', cap, cur, h, _, hg, _, _, hs, ht⟩
 ·cases h
 ·cases h
  have hl : cur.toList.length = bs.length * 1 := by simpa using hs
  rw [List.take_of_length_le (by omega)] at ht;unfold Blk;rw [← ht]
  simpa using hg
theorem Blk.own {w : World} {g : Nat} {e : TypeId} {k : IntKind} {bs : List Int} (h : Blk w g e (vals k bs)) (hm : bs.length ≤ maxLen) : Own 0 e k w (Q3 g bs.length bs.length) bs :=
 ⟨by simp [vals], .inr ⟨g, bs.length, (vals k bs).toArray, rfl, Nat.zero_le _, h, Nat.le_refl _, hm, by simp [vals], by simp only [Nat.mul_one]; exact List.take_of_length_le (by simp [vals])⟩⟩
def lay (xs : List Value) (o : Nat) (vs : List Value) : List Value := xs.take o ++ (vs ++ xs.drop (o + vs.length))
theorem jap (xs : List Value) (o : Nat) (vs : List Value) (h : o + vs.length ≤ xs.length) : (lay xs o vs).length = xs.length := by simp [lay]; omega
theorem Wy (xs : List Value) (o : Nat) (v : Value) (vs : List Value) (h : o + (vs.length + 1) ≤ xs.length) : lay (xs.set o v) (o + 1) vs = lay xs o (v :: vs) := by
 have bg : o < xs.length := by omega
 apply List.ext_getElem?;intro j;unfold lay;simp only [List.getElem?_append, List.length_take, List.length_set, List.getElem?_take, List.getElem?_drop, List.length_cons]
 by_cases h1 : j < o
 ·rw [if_pos (by omega), if_pos (by omega), if_pos (by omega), if_pos h1, List.getElem?_set_ne (by omega)]
 ·by_cases h2 : j = o
  ·subst h2
   rw [if_pos (by omega), if_pos (by omega), if_neg (by omega), if_pos (by omega)]
   have e : j - min j xs.length = 0 := by omega
   simp [bg, e]
  ·by_cases h3 : j < o + 1 + vs.length
   ·rw [if_neg (by omega), if_pos (by omega), if_neg (by omega), if_pos (by omega)]
    have e : j - min o xs.length = (j - min (o + 1) xs.length) + 1 := by omega
    rw [e, List.getElem?_cons_succ]
   ·rw [if_neg (by omega), if_neg (by omega), if_neg (by omega), if_neg (by omega), List.getElem?_set_ne (by omega)]
    congr 1
    omega
theorem jdr (xs : List Value) (o : Nat) (v : Value) (vs : List Value) (h : o + (vs.length + 1) ≤ xs.length) : (lay xs (o + 1) vs).set o v = lay xs o (v :: vs) := by
 rw [← Wy xs o v vs h];unfold lay;rw [List.set_append_left (h := by simp; omega), List.take_set, List.drop_set_of_lt (by omega)]
theorem Yu (xs : List Value) (o : Nat) : lay xs o [] = xs := by simp [lay]
theorem lay_all (xs vs : List Value) (h : vs.length = xs.length) : lay xs 0 vs = vs := by simp [lay, h]
def mF (s e c l : Int) : Int := if ¬ (1 ≤ s ∧ s ≤ 1099511627776) then 1 else if ¬ (1 ≤ e ∧ e ≤ 4294967295) then 2 else if l < 512 ∨ c < l ∨ 1099511627776 < c then 3 else 0
structure Errs (w : World) (a0 a1 a2 : Addr) : Prop where
 c0 : w.cell? ⟨0, 0, none⟩ = some (.iface 188 (.pointer (some a0)))
 c1 : w.cell? ⟨1, 0, none⟩ = some (.iface 188 (.pointer (some a1)))
 c2 : w.cell? ⟨2, 0, none⟩ = some (.iface 188 (.pointer (some a2)))
theorem Errs.same {w w' : World} {a0 a1 a2 : Addr} (h : Errs w a0 a1 a2) (hk : Same w w') : Errs w' a0 a1 a2 := ⟨hk.cellOf h.c0 id, hk.cellOf h.c1 id, hk.cellOf h.c2 id⟩
structure ErrsD (w : World) (a0 a1 a2 : Addr) : Prop where
 errs : Errs w a0 a1 a2
 n01 : a0 ≠ a1
 n02 : a0 ≠ a2
 n12 : a1 ≠ a2
 b0 : ∃ c t, w.heap[a0.block]? = some (.cells c t (0, 0))
 b1 : ∃ c t, w.heap[a1.block]? = some (.cells c t (0, 0))
 b2 : ∃ c t, w.heap[a2.block]? = some (.cells c t (0, 0))
theorem ErrsD.same {w w' : World} {a0 a1 a2 : Addr} (h : ErrsD w a0 a1 a2) (hk : Same w w') : ErrsD w' a0 a1 a2 :=
 ⟨h.errs.same hk, h.n01, h.n02, h.n12, (by obtain ⟨c, t, hb⟩ := h.b0; exact ⟨c, t, hk.heap hb id⟩), (by obtain ⟨c, t, hb⟩ := h.b1; exact ⟨c, t, hk.heap hb id⟩), (by obtain ⟨c, t, hb⟩ := h.b2; exact ⟨c, t, hk.heap hb id⟩)⟩
def jds (a0 a1 a2 : Addr) (k : Int) : Value := if k = 1 then .iface 188 (.pointer (some a0)) else if k = 2 then .iface 188 (.pointer (some a1)) else if k = 3 then .iface 188 (.pointer (some a2)) else .nilIface
theorem mF1 {s e c l : Int} (h : ¬ (1 ≤ s ∧ s ≤ 1099511627776)) : mF s e c l = 1 := by unfold mF; rw [if_pos h]
theorem mF2 {s e c l : Int} (h : 1 ≤ s ∧ s ≤ 1099511627776) (h2 : ¬ (1 ≤ e ∧ e ≤ 4294967295)) : mF s e c l = 2 := by unfold mF; rw [if_neg (not_not_intro h), if_pos h2]
theorem mF3 {s e c l : Int} (h : 1 ≤ s ∧ s ≤ 1099511627776) (h2 : 1 ≤ e ∧ e ≤ 4294967295) (h3 : l < 512 ∨ c < l ∨ 1099511627776 < c) : mF s e c l = 3 := by unfold mF; rw [if_neg (not_not_intro h), if_neg (not_not_intro h2), if_pos h3]
theorem mF0 {s e c l : Int} (h : 1 ≤ s ∧ s ≤ 1099511627776) (h2 : 1 ≤ e ∧ e ≤ 4294967295) (h3 : ¬ (l < 512 ∨ c < l ∨ 1099511627776 < c)) : mF s e c l = 0 := by unfold mF; rw [if_neg (not_not_intro h), if_neg (not_not_intro h2), if_neg h3]
theorem Yv {s e c l : Int} (h : mF s e c l = 0) : (1 ≤ s ∧ s ≤ 1099511627776) ∧ (1 ≤ e ∧ e ≤ 4294967295) ∧ 512 ≤ l ∧ l ≤ c ∧ c ≤ 1099511627776 := by
 unfold mF at h
 split at h
 ·cases h
 ·split at h
  ·cases h
  ·split at h
   ·cases h
   ·omega
theorem jci (s e c l : Int) : mF s e c l = 0 ∨ mF s e c l = 1 ∨ mF s e c l = 2 ∨ mF s e c l = 3 := by
 unfold mF
 split
 ·simp
 ·split
  ·simp
  ·split <;> simp
theorem Wz (s e c l : Int) (w : World) : Calls Tryz.prog 14 #[.agg #[Q1 s, Q1 e, Q1 c, Q1 l]] w fun ex w' => ex = .returned (Q1 (mF s e c l)) ∧ Same w w' := by
 have k1 := fun wx => Qh s 1 1099511627776 wx;have k2 := fun wx => Qh e 1 4294967295 wx;have b0 := Blk.new w #[Q1 s, Q1 e, Q1 c, Q1 l] 40;have aP := hid (Rv w [Q1 s, Q1 e, Q1 c, Q1 l] 40)
 by_cases hs : 1 ≤ s ∧ s ≤ 1099511627776
 ·rw [show inB s 1 1099511627776 = true from by simp [inB, hs.1, hs.2]] at k1
  by_cases he : 1 ≤ e ∧ e ≤ 4294967295
  ·rw [show inB e 1 4294967295 = true from by simp [inB, he.1, he.2]] at k2
   by_cases h3 : l < 512 ∨ c < l ∨ 1099511627776 < c
   ·rw [mF3 hs he h3]
    clear hs he
    by_cases h1 : l < 512
    ·clear h3
     go_enter Tryz.func14, Tryz.ntmps14
     go_wp2_with (first
      | (go_at_call 32; (with_reducible refine (k1 _).mono ?_); rintro ex w1 ⟨rfl, ah⟩; have b1 := b0.same ah; obtain ⟨d0, d1, d2, d3⟩ := b1.all4)
      | (go_at_call 32; (with_reducible refine (k2 _).mono ?_); rintro ex w2 ⟨rfl, aj⟩; have b2 := b1.same aj; obtain ⟨e0, e1, e2, e3⟩ := b2.all4))
     go_ret;exact ⟨rfl, (aP.out.trans ah).trans aj⟩
    ·by_cases h2 : c < l
     ·clear h3
      go_enter Tryz.func14, Tryz.ntmps14
      go_wp2_with (first
       | (go_at_call 32; (with_reducible refine (k1 _).mono ?_); rintro ex w1 ⟨rfl, ah⟩; have b1 := b0.same ah; obtain ⟨d0, d1, d2, d3⟩ := b1.all4)
       | (go_at_call 32; (with_reducible refine (k2 _).mono ?_); rintro ex w2 ⟨rfl, aj⟩; have b2 := b1.same aj; obtain ⟨e0, e1, e2, e3⟩ := b2.all4))
      go_ret;exact ⟨rfl, (aP.out.trans ah).trans aj⟩
     ·have h4 : 1099511627776 < c := by omega
      clear h3
      go_enter Tryz.func14, Tryz.ntmps14
      go_wp2_with (first
       | (go_at_call 32; (with_reducible refine (k1 _).mono ?_); rintro ex w1 ⟨rfl, ah⟩; have b1 := b0.same ah; obtain ⟨d0, d1, d2, d3⟩ := b1.all4)
       | (go_at_call 32; (with_reducible refine (k2 _).mono ?_); rintro ex w2 ⟨rfl, aj⟩; have b2 := b1.same aj; obtain ⟨e0, e1, e2, e3⟩ := b2.all4))
      go_ret;exact ⟨rfl, (aP.out.trans ah).trans aj⟩
   ·rw [mF0 hs he h3]
    have h1 : ¬ l < 512 := by omega
    have h2 : ¬ c < l := by omega
    have h4 : ¬ 1099511627776 < c := by omega
    clear hs he h3
    go_enter Tryz.func14, Tryz.ntmps14
    go_wp2_with (first
     | (go_at_call 32; (with_reducible refine (k1 _).mono ?_); rintro ex w1 ⟨rfl, ah⟩; have b1 := b0.same ah; obtain ⟨d0, d1, d2, d3⟩ := b1.all4)
     | (go_at_call 32; (with_reducible refine (k2 _).mono ?_); rintro ex w2 ⟨rfl, aj⟩; have b2 := b1.same aj; obtain ⟨e0, e1, e2, e3⟩ := b2.all4))
    go_ret;exact ⟨rfl, (aP.out.trans ah).trans aj⟩
  ·rw [mF2 hs he, show inB e 1 4294967295 = false from by simp [inB]; omega] at *
   go_enter Tryz.func14, Tryz.ntmps14
   go_wp2_with (first
    | (go_at_call 32; (with_reducible refine (k1 _).mono ?_); rintro ex w1 ⟨rfl, ah⟩; have b1 := b0.same ah; obtain ⟨d0, d1, d2, d3⟩ := b1.all4)
    | (go_at_call 32; (with_reducible refine (k2 _).mono ?_); rintro ex w2 ⟨rfl, aj⟩; have b2 := b1.same aj; obtain ⟨e0, e1, e2, e3⟩ := b2.all4))
   go_ret;exact ⟨rfl, (aP.out.trans ah).trans aj⟩
 ·rw [mF1 hs, show inB s 1 1099511627776 = false from by simp [inB]; omega] at *
  go_enter Tryz.func14, Tryz.ntmps14
  go_wp2_with (go_at_call 32; (with_reducible refine (k1 _).mono ?_); rintro ex w1 ⟨rfl, ah⟩)
  go_ret;exact ⟨rfl, aP.out.trans ah⟩
theorem TQ (s e c l : Int) (a0 a1 a2 : Addr) (w : World) (hE : Errs w a0 a1 a2) : Calls Tryz.prog 46 #[.agg #[Q1 s, Q1 e, Q1 c, Q1 l]] w fun ex w' => ex = .returned (jds a0 a1 a2 (mF s e c l)) ∧ Same w w' := by
 have aP := hid (Rv w [Q1 s, Q1 e, Q1 c, Q1 l] 40);have v0 := (hE.same aP.out).c0;have v1 := (hE.same aP.out).c1;have v2 := (hE.same aP.out).c2;clear hE
 by_cases hs : 1 ≤ s ∧ s ≤ 1099511627776
 ·have s1 : ¬ s < 1 := by omega
  have s2 : ¬ 1099511627776 < s := by omega
  by_cases he : 1 ≤ e ∧ e ≤ 4294967295
  ·have e1 : ¬ e < 1 := by omega
   have e2 : ¬ 4294967295 < e := by omega
   by_cases h3 : l < 512 ∨ c < l ∨ 1099511627776 < c
   ·rw [mF3 hs he h3]
    clear hs he
    by_cases h1 : l < 512
    ·clear h3
     go_enter Tryz.func46, Tryz.ntmps46
     go_wp2;go_ret;exact ⟨rfl, aP.out⟩
    ·by_cases h2 : c < l
     ·clear h3
      go_enter Tryz.func46, Tryz.ntmps46
      go_wp2;go_ret;exact ⟨rfl, aP.out⟩
     ·have h4 : 1099511627776 < c := by omega
      clear h3
      go_enter Tryz.func46, Tryz.ntmps46
      go_wp2;go_ret;exact ⟨rfl, aP.out⟩
   ·rw [mF0 hs he h3]
    have h1 : ¬ l < 512 := by omega
    have h2 : ¬ c < l := by omega
    have h4 : ¬ 1099511627776 < c := by omega
    clear hs he h3
    go_enter Tryz.func46, Tryz.ntmps46
    go_wp2;go_ret;exact ⟨rfl, aP.out⟩
  ·rw [mF2 hs he]
   clear hs
   by_cases e1 : e < 1
   ·clear he
    go_enter Tryz.func46, Tryz.ntmps46
    go_wp2;go_ret;exact ⟨rfl, aP.out⟩
   ·have e2 : 4294967295 < e := by omega
    clear he
    go_enter Tryz.func46, Tryz.ntmps46
    go_wp2;go_ret;exact ⟨rfl, aP.out⟩
 ·rw [mF1 hs]
  by_cases s1 : s < 1
  ·clear hs
   go_enter Tryz.func46, Tryz.ntmps46
   go_wp2;go_ret;exact ⟨rfl, aP.out⟩
  ·have s2 : 1099511627776 < s := by omega
   clear hs
   go_enter Tryz.func46, Tryz.ntmps46
   go_wp2;go_ret;exact ⟨rfl, aP.out⟩
end Go.Proofs.YtapdfgkbhaoelaaGreatDoor
