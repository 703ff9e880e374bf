import Derived.Test.YtljfcdkhicffcaaGreatRows
import Derived.Test.YtljfcdkhicffcaaGreatProg
import Derived.WalkKit
import Derived.WalkSpells
import Derived.Deep.Draws
import Derived.ProofKit
import Derived.OpenShut
import Derived.ShutString
import Derived.ChangeOld
import Derived.Below
import Derived.Lib.SmallJoins
import Derived.Deep.Slices
import Derived.Deep.SlicePairs
import Derived.WalkLawsBesides
import Derived.Deep.QuietTactic
import Derived.BigQuiet
import Derived.Deep.LoopGhost
namespace Go.Proofs.YtljfcdkhicffcaaGreat
set_option linter.unusedSimpArgs false
set_option linter.unusedVariables false
set_option maxRecDepth 100000
set_option maxHeartbeats 2000000
open Go.RowKit Go.ChangeShapes Go.WideShapes Go.ChangeAt Go
abbrev V (z : Int) : Value := .int .i64 z
abbrev V0 : Value := .slice none 0 0
abbrev Q3 (b o : Nat) : Value := .pointer (some ⟨b, o, none⟩)
abbrev Q4 (b n c : Nat) : Value := .slice (some ⟨b, 0, none⟩) n c
theorem hid {p : Prop} (h : p) : Hid p := h
structure Kept (R : Nat → Prop) (w w' : World) : Prop where
 os : w'.os = w.os
 tape : w'.tape = w.tape
 output : w'.output = w.output
 size : w.heap.size ≤ w'.heap.size
 block : ∀ k, k < w.heap.size → ¬ R k → w'.heap[k]? = w.heap[k]?
abbrev Same : World → World → Prop := Kept (fun _ => False)
theorem Kept.refl (R : Nat → Prop) (w : World) : Kept R w w := ⟨rfl, rfl, rfl, Nat.le_refl _, fun _ _ _ => rfl⟩
theorem kZ0 {R : Nat → Prop} {w : World} : Kept R w w := Kept.refl R w
theorem Kept.trans {R : Nat → Prop} {a b c : World} (h : Kept R a b) (k : Kept R b c) : Kept R a c :=
 ⟨k.os.trans h.os, k.tape.trans h.tape, k.output.trans h.output, Nat.le_trans h.size k.size, fun i hi hr => (k.block i (Nat.lt_of_lt_of_le hi h.size) hr).trans (h.block i hi hr)⟩
theorem Kept.mono {R R' : Nat → Prop} {a b : World} (h : Kept R a b) (hr : ∀ k, k < a.heap.size → R k → R' k) : Kept R' a b :=
 ⟨h.os, h.tape, h.output, h.size, fun i hi hn => h.block i hi (fun hR => hn (hr i hi hR))⟩
theorem Kept.next {R R' : Nat → Prop} {a b c : World} (h : Kept R a b) (k : Kept R' b c) (hr : ∀ i, i < a.heap.size → R' i → R i) : Kept R a c :=
 ⟨k.os.trans h.os, k.tape.trans h.tape, k.output.trans h.output, Nat.le_trans h.size k.size, fun i hi hn => (k.block i (Nat.lt_of_lt_of_le hi h.size) (fun e => hn (hr i hi e))).trans (h.block i hi hn)⟩
theorem Kept.drewN {R : Nat → Prop} {a b : World} (h : Kept R a b) (n : Nat) : Kept R a (b.drewN n) := ⟨h.os, h.tape, h.output, h.size, h.block⟩
theorem Kept.drew {R : Nat → Prop} {a b : World} (h : Kept R a b) : Kept R a b.drew := ⟨h.os, h.tape, h.output, h.size, h.block⟩
theorem Kept.alloc {R : Nat → Prop} {a b : World} (h : Kept R a b) (o : Obj) : Kept R a (b.alloc o) :=
 h.trans ⟨rfl, rfl, rfl, by simp, fun k hk _ => Below.heap_alloc _ _ _ hk⟩
theorem Kept.setCell {R : Nat → Prop} {a b : World} (h : Kept R a b) {p : Addr} (hp : a.heap.size ≤ p.block ∨ R p.block) (u : Value) : Kept R a (b.setCell p u) := by
 refine ⟨h.os, h.tape, h.output, by simpa [World.setCell] using h.size, fun k hk hr => ?_⟩;rw [Below.heap_setCell _ _ _ _ (fun e => by subst e; exact hp.elim (fun h1 => by omega) hr)];exact h.block k hk hr
theorem Kept.grown {R : Nat → Prop} {a b c : World} {row : Option Nat} (h : Kept R a b) (hg : b.grownBy c row) (hr : ∀ k, row = some k → a.heap.size ≤ k ∨ R k) : Kept R a c :=
 ⟨hg.os.trans h.os, hg.tape.trans h.tape, hg.output.trans h.output, Nat.le_trans h.size hg.size, fun k hk hn =>
  (hg.block k (Nat.lt_of_lt_of_le hk h.size) (fun e => (hr k e.symm).elim (fun h1 => by omega) hn)).trans (h.block k hk hn)⟩
theorem Kept.of_grown {R : Nat → Prop} {b c : World} {row : Option Nat} (hg : b.grownBy c row) (hr : ∀ k, row = some k → R k) : Kept R b c :=
 (Kept.refl R b).grown hg (fun k e => .inr (hr k e))
theorem Kept.below {R : Nat → Prop} {a b : World} (h : Kept R a b) {B : Nat} (hB : B ≤ a.heap.size) (hr : ∀ k, k < B → ¬ R k) : Below B a b :=
 ⟨h.os, h.tape, h.output, h.size, fun k hk => h.block k (Nat.lt_of_lt_of_le hk hB) (hr k hk)⟩
theorem Kept.of_below {a b : World} (h : Below a.heap.size a b) : Same a b := ⟨h.os, h.tape, h.output, h.size, fun k hk _ => h.block k hk⟩
theorem Kept.heap {R : Nat → Prop} {a b : World} (h : Kept R a b) {k : Nat} {o : Obj} (hk : a.heap[k]? = some o) (hr : ¬ R k) : b.heap[k]? = some o := by
 rw [h.block k (Array.getElem?_eq_some_iff.1 hk).1 hr]; exact hk
theorem Kept.cell {R : Nat → Prop} {a b : World} (h : Kept R a b) {p : Addr} (hp : p.block < a.heap.size) (hr : ¬ R p.block) : b.cell? p = a.cell? p :=
 World.cell?_of_block (w := a) (h.block p.block hp hr)
theorem Kept.frozen {R : Nat → Prop} {a b : World} (h : Kept R a b) {p : Addr} (hp : p.block < a.heap.size) (hr : ¬ R p.block) : b.frozen? p = a.frozen? p :=
 World.frozen?_of_block (w := a) (h.block p.block hp hr)
theorem Kept.cellOf {R : Nat → Prop} {a b : World} (h : Kept R a b) {p : Addr} {v : Value} (hc : a.cell? p = some v) (hr : ¬ R p.block) : b.cell? p = some v :=
 (h.cell (World.block_lt_of_cell? a p hc) hr).trans hc
theorem Kept.owns {R : Nat → Prop} {w w' : World} (k : Kept R w w') {base : Nat} {e : TypeId} {size : Nat} {v : Value} {n : Nat} {xs : List Value} (h : w.ownsRow base e size v n xs)
  (hr : ∀ b, v.ownBlock = some b → ¬ R b) : w'.ownsRow base e size v n xs := by
 refine ⟨h.1, ?_⟩
 rcases h.2 with hn | ⟨g, cap, cur, rfl, hb, lO, rest⟩
 ·exact .inl hn
 ·exact .inr ⟨g, cap, cur, rfl, hb, k.heap lO (hr g rfl), rest⟩
def vals (k : IntKind) (bs : List Int) : List Value := bs.map (Value.int k)
theorem VO (k : IntKind) (bs : List Int) : (vals k bs).length = bs.length := by simp [vals]
theorem Z9 (k : IntKind) (bs : List Int) (j : Nat) (h : j < bs.length) : (vals k bs)[j]? = some (.int k (bs.getD j 0)) := by
 simp [vals, h, List.getD]
def Own (base : Nat) (e : TypeId) (k : IntKind) (w : World) (v : Value) (bs : List Int) : Prop := w.ownsRow base e 1 v bs.length (vals k bs)
theorem Own.form {base : Nat} {e : TypeId} {k : IntKind} {w : World} {v : Value} {bs : List Int} (h : Own base e k w v bs) :
  (v = V0 ∧ bs = []) ∨ ∃ g cap, v = Q4 g bs.length cap ∧ base ≤ g ∧ g < w.heap.size ∧ bs.length ≤ cap ∧ cap ≤ maxLen := by
 rcases h.2 with ⟨rfl, hn⟩ | ⟨g, cap, cur, rfl, hb, lO, hc, hm, _⟩
 ·exact .inl ⟨rfl, List.length_eq_zero_iff.1 hn⟩
 ·exact .inr ⟨g, cap, rfl, hb, (Array.getElem?_eq_some_iff.1 lO).1, hc, hm⟩
theorem Own.cell {base : Nat} {e : TypeId} {k : IntKind} {w : World} {g n cap : Nat} {bs : List Int} (h : Own base e k w (Q4 g n cap) bs) (hn : n = bs.length) (j : Nat) (hj : j < n) :
  w.cell? ⟨g, j, none⟩ = some (.int k (bs.getD j 0)) := by
 subst hn;have := World.ownsRow.cellAt h j (by omega);rw [this, Z9 k bs j hj]
theorem Own.frozen {base : Nat} {e : TypeId} {k : IntKind} {w : World} {g n cap : Nat} {bs : List Int} (h : Own base e k w (Q4 g n cap) bs) (hn : n = bs.length) (j : Nat) :
  w.frozen? ⟨g, j, none⟩ = false := by
 subst hn;exact World.ownsRow.frozenAt h j
theorem Own.kept {R : Nat → Prop} {base : Nat} {e : TypeId} {k : IntKind} {w w' : World} {v : Value} {bs : List Int} (h : Own base e k w v bs) (hk : Kept R w w') (hr : ∀ b, v.ownBlock = some b → ¬ R b) : Own base e k w' v bs :=
 hk.owns h hr
theorem Own.same {base : Nat} {e : TypeId} {k : IntKind} {w w' : World} {v : Value} {bs : List Int} (h : Own base e k w v bs) (hk : Same w w') : Own base e k w' v bs :=
 hk.owns h (fun _ _ => id)
theorem Own.stored {base : Nat} {e : TypeId} {k : IntKind} {w : World} {g n cap : Nat} {bs : List Int} (h : Own base e k w (Q4 g n cap) bs) (hn : n = bs.length) (j : Nat) (x : Int) :
  Own base e k (w.setCell ⟨g, j, none⟩ (.int k x)) (Q4 g n cap) (bs.set j x) := by
 subst hn;have := (World.ownsRow.stored h j (.int k x)).1;unfold Own;rw [List.length_set]
 have e : vals k (bs.set j x) = (vals k bs).set j (.int k x) := by simp [vals]
 rw [e];exact this
theorem Own.lt {base : Nat} {e : TypeId} {k : IntKind} {w : World} {v : Value} {bs : List Int} (h : Own base e k w v bs) : ∀ b, v.ownBlock = some b → base ≤ b ∧ b < w.heap.size :=
 World.ownsRow.lt h
theorem Own.nil (base : Nat) (e : TypeId) (k : IntKind) (w : World) : Own base e k w (V0) [] := World.ownsRow_nil _ _ _ _
theorem Own.mono {base xp : Nat} {e : TypeId} {k : IntKind} {w : World} {v : Value} {bs : List Int} (h : Own base e k w v bs) (hb : ∀ b, v.ownBlock = some b → xp ≤ b) : Own xp e k w v bs := by
 refine ⟨h.1, ?_⟩
 rcases h.2 with hn | ⟨g, cap, cur, rfl, _, lO, rest⟩
 ·exact .inl hn
 ·exact .inr ⟨g, cap, cur, rfl, hb g rfl, lO, rest⟩
theorem UD {base : Nat} {e : TypeId} {k : IntKind} {w : World} {v : Value} {bs : List Int} (h : Own base e k w v bs) : ∃ aa na ca, v = .slice aa na ca := by
 rcases h.form with ⟨rfl, _⟩ | ⟨g, cap, rfl, _⟩ <;> exact ⟨_, _, _, rfl⟩
theorem jez {w : World} {b off : Nat} {bs : List Int} (hc : ∀ i, i < bs.length → w.cell? ⟨b, off + i, none⟩ = some (.int .u8 (bs.getD i 0))) (j : Nat) (u : Value) (h : (vals .u8 bs)[j]? = some u) : w.cell? ((⟨b, off, none⟩ : Addr).add j) = some u := by
 have hj : j < bs.length := by have := (List.getElem?_eq_some_iff.1 h).1; rwa [VO] at this
 rw [Z9 _ _ _ hj] at h
 have e : (⟨b, off, none⟩ : Addr).add j = ⟨b, off + j, none⟩ := by
  unfold Addr.add
  split
  ·next h => subst h; rfl
  ·rfl
 rw [e, hc j hj];exact h
theorem jcj {k : IntKind} {bs : List Int} (u : Value) (h : u ∈ vals k bs) : u.oneCell' = true := by
 obtain ⟨x, _, rfl⟩ := List.mem_map.1 h;rfl
def marks (k : Int) (n : Nat) : List Int := (List.range n).map fun (i : Nat) => (k + (i : Int)) % 256
theorem Vt (k : Int) (n : Nat) : (marks k n).length = n := by simp [marks]
theorem jfG (k : Int) (n j : Nat) (h : j < n) : (marks k n).getD j 0 = (k + j) % 256 := by simp [marks, h, List.getD]
def part (k : Int) (bs : List Int) (j : Nat) : List Int := marks k j ++ bs.drop j
theorem XT (k : Int) (bs : List Int) (j : Nat) (h : j ≤ bs.length) : (part k bs j).length = bs.length := by simp [part, Vt]; omega
theorem jeP (k : Int) (bs : List Int) : part k bs 0 = bs := by simp [part, marks]
theorem jfH (k : Int) (bs : List Int) : part k bs bs.length = marks k bs.length := by simp [part]
theorem jeQ (k : Int) (bs : List Int) (j : Nat) (h : j < bs.length) : (part k bs j).set j ((k + j) % 256) = part k bs (j + 1) := by
 unfold part;rw [List.set_append_right (h := by simp [Vt]), Vt, Nat.sub_self]
 have e : bs.drop j = bs[j] :: bs.drop (j + 1) := by rw [List.drop_eq_getElem_cons h]
 rw [e, List.set_cons_zero];simp [marks, List.range_succ]
/-! ### Pending writes: rows of two cells, a sector's number and a slice of bytes -/
structure PW where
 sec : Int
 v : Value
 bs : List Int
def U3 : List PW → List Value
 | [] => []
 | p :: ps => .int .i64 p.sec :: p.v :: U3 ps
theorem WA (ps qs : List PW) : U3 (ps ++ qs) = U3 ps ++ U3 qs := by
 induction ps with
 | nil => rfl
 | cons p ps ih => simp [U3, ih]
theorem jck (ps : List PW) (j : Nat) (h : j < ps.length) : (U3 ps)[j * 2]? = some (V ps[j].sec) := by
 induction ps generalizing j with
 | nil => simp at h
 | cons p ps ih =>
  cases j with
  | zero => simp [U3]
  | succ j => have := ih j (by simpa using h); rw [show (j + 1) * 2 = j * 2 + 1 + 1 from by omega]; simpa [U3] using this
theorem jeR (ps : List PW) (j : Nat) (h : j < ps.length) : (U3 ps)[j * 2 + 1]? = some ps[j].v := by
 induction ps generalizing j with
 | nil => simp at h
 | cons p ps ih =>
  cases j with
  | zero => simp [U3]
  | succ j => have := ih j (by simpa using h); rw [show (j + 1) * 2 + 1 = j * 2 + 1 + 1 + 1 from by omega]; simpa [U3] using this
def Apart (v u : Value) : Prop := ∀ b, v.ownBlock = some b → u.ownBlock ≠ some b
theorem Apart.symm {v u : Value} (h : Apart v u) : Apart u v := fun b hb hv => h b hv hb
structure OwnP (base : Nat) (tw tb : TypeId) (w : World) (v : Value) (ps : List PW) : Prop where
 row : w.ownsRow base tw 2 v ps.length (U3 ps)
 data : ∀ p ∈ ps, Own base tb .u8 w p.v p.bs
 out : ∀ u ∈ ps.map PW.v, Apart v u
 each : (ps.map PW.v).Pairwise Apart
def jbi (v : Value) (ps : List PW) (b : Nat) : Prop := v.ownBlock = some b ∨ ∃ p ∈ ps, p.v.ownBlock = some b
theorem OwnP.form {base : Nat} {tw tb : TypeId} {w : World} {v : Value} {ps : List PW} (h : OwnP base tw tb w v ps) :
  (v = V0 ∧ ps = []) ∨ ∃ g cap, v = Q4 g ps.length cap ∧ base ≤ g ∧ g < w.heap.size ∧ ps.length ≤ cap ∧ cap ≤ maxLen := by
 rcases h.row.2 with ⟨rfl, hn⟩ | ⟨g, cap, cur, rfl, hb, lO, hc, hm, _⟩
 ·exact .inl ⟨rfl, List.length_eq_zero_iff.1 hn⟩
 ·exact .inr ⟨g, cap, rfl, hb, (Array.getElem?_eq_some_iff.1 lO).1, hc, hm⟩
theorem OwnP.lt {base : Nat} {tw tb : TypeId} {w : World} {v : Value} {ps : List PW} (h : OwnP base tw tb w v ps) (b : Nat) (hb : jbi v ps b) : base ≤ b ∧ b < w.heap.size := by
 rcases hb with hb | ⟨p, hp, hb⟩
 ·exact World.ownsRow.lt h.row b hb
 ·exact (h.data p hp).lt b hb
theorem OwnP.sec {base : Nat} {tw tb : TypeId} {w : World} {g n cap : Nat} {ps : List PW} (h : OwnP base tw tb w (Q4 g n cap) ps) (hn : n = ps.length) (j : Nat) (hj : j < ps.length) :
  w.cell? ⟨g, j * 2, none⟩ = some (V ps[j].sec) := by
 subst hn;rw [World.ownsRow.cellAt h.row (j * 2) (by omega), jck ps j hj]
theorem OwnP.val {base : Nat} {tw tb : TypeId} {w : World} {g n cap : Nat} {ps : List PW} (h : OwnP base tw tb w (Q4 g n cap) ps) (hn : n = ps.length) (j : Nat) (hj : j < ps.length) :
  w.cell? ⟨g, j * 2 + 1, none⟩ = some ps[j].v := by
 subst hn;rw [World.ownsRow.cellAt h.row (j * 2 + 1) (by omega), jeR ps j hj]
theorem OwnP.frozen {base : Nat} {tw tb : TypeId} {w : World} {g n cap : Nat} {ps : List PW} (h : OwnP base tw tb w (Q4 g n cap) ps) (hn : n = ps.length) (j : Nat) :
  w.frozen? ⟨g, j, none⟩ = false := by
 subst hn;exact World.ownsRow.frozenAt h.row j
theorem OwnP.kept {R : Nat → Prop} {base : Nat} {tw tb : TypeId} {w w' : World} {v : Value} {ps : List PW} (h : OwnP base tw tb w v ps) (hk : Kept R w w') (hr : ∀ b, jbi v ps b → ¬ R b) : OwnP base tw tb w' v ps :=
 ⟨hk.owns h.row (fun b hb => hr b (.inl hb)), fun p hp => (h.data p hp).kept hk (fun b hb => hr b (.inr ⟨p, hp, hb⟩)), h.out, h.each⟩
theorem OwnP.same {base : Nat} {tw tb : TypeId} {w w' : World} {v : Value} {ps : List PW} (h : OwnP base tw tb w v ps) (hk : Same w w') : OwnP base tw tb w' v ps :=
 h.kept hk (fun _ _ => id)
theorem OwnP.nil (base : Nat) (tw tb : TypeId) (w : World) : OwnP base tw tb w (V0) [] :=
 ⟨World.ownsRow_nil _ _ _ _, fun _ h => by simp at h, fun _ h => by simp at h, List.Pairwise.nil⟩
theorem OwnP.setData {base : Nat} {tw tb : TypeId} {w w' : World} {v : Value} {pre post : List PW} {p : PW} {bs : List Int} (h : OwnP base tw tb w v (pre ++ p :: post))
  (hk : Kept (fun b => p.v.ownBlock = some b) w w') (ho : Own base tb .u8 w' p.v bs) : OwnP base tw tb w' v (pre ++ ⟨p.sec, p.v, bs⟩ :: post) := by
 have bJ : (pre ++ (⟨p.sec, p.v, bs⟩ : PW) :: post).map PW.v = (pre ++ p :: post).map PW.v := by simp
 have kr : U3 (pre ++ (⟨p.sec, p.v, bs⟩ : PW) :: post) = U3 (pre ++ p :: post) := by rw [WA, WA]; rfl
 have az : (pre ++ (⟨p.sec, p.v, bs⟩ : PW) :: post).length = (pre ++ p :: post).length := by simp
 have wP := h.each;rw [List.map_append, List.map_cons] at wP;obtain ⟨_, h2, h3⟩ := List.pairwise_append.1 wP;have h4 := List.pairwise_cons.1 h2;refine ⟨?_, fun q hq => ?_, by rw [bJ]; exact h.out, by rw [bJ]; exact h.each⟩
 ·rw [kr, az]
  exact hk.owns h.row (fun b hb e => h.out p.v (by simp) b hb e)
 ·rcases List.mem_append.1 hq with hq | hq
  ·exact (h.data q (by simp [hq])).kept hk (fun b hb e => h3 q.v (List.mem_map_of_mem hq) p.v (by simp) b hb e)
  ·rcases List.mem_cons.1 hq with rfl | hq
   ·exact ho
   ·exact (h.data q (by simp [hq])).kept hk (fun b hb e => h4.1 q.v (List.mem_map_of_mem hq) b e hb)
structure OwnD (base : Nat) (tw tb : TypeId) (w : World) (dv pv : Value) (dur : List Int) (ps : List PW) : Prop where
 dur : Own base tb .u8 w dv dur
 pend : OwnP base tw tb w pv ps
 apart : ∀ b, jbi pv ps b → dv.ownBlock ≠ some b
def jfI (dv pv : Value) (ps : List PW) (b : Nat) : Prop := dv.ownBlock = some b ∨ jbi pv ps b
theorem OwnD.kept {R : Nat → Prop} {base : Nat} {tw tb : TypeId} {w w' : World} {dv pv : Value} {dur : List Int} {ps : List PW} (h : OwnD base tw tb w dv pv dur ps) (hk : Kept R w w') (hr : ∀ b, jfI dv pv ps b → ¬ R b) : OwnD base tw tb w' dv pv dur ps :=
 ⟨h.dur.kept hk (fun b hb => hr b (.inl hb)), h.pend.kept hk (fun b hb => hr b (.inr hb)), h.apart⟩
theorem OwnD.same {base : Nat} {tw tb : TypeId} {w w' : World} {dv pv : Value} {dur : List Int} {ps : List PW} (h : OwnD base tw tb w dv pv dur ps) (hk : Same w w') : OwnD base tw tb w' dv pv dur ps :=
 h.kept hk (fun _ _ => id)
theorem OwnD.lt {base : Nat} {tw tb : TypeId} {w : World} {dv pv : Value} {dur : List Int} {ps : List PW} (h : OwnD base tw tb w dv pv dur ps) (b : Nat) (hb : jfI dv pv ps b) : base ≤ b ∧ b < w.heap.size := by
 rcases hb with hb | hb
 ·exact h.dur.lt b hb
 ·exact h.pend.lt b hb
def Box (w : World) (B : Nat) (x y : Value) : Prop := w.cell? ⟨B, 0, none⟩ = some x ∧ w.cell? ⟨B, 1, none⟩ = some y
theorem Box.new (w : World) (x y : Value) (t : TypeId) : Box (w.alloc (.cells #[x, y] t)) w.heap.size x y := ⟨by simp, by simp⟩
theorem Box.kept {R : Nat → Prop} {w w' : World} {B : Nat} {x y : Value} (h : Box w B x y) (hk : Kept R w w') (hr : ¬ R B) : Box w' B x y :=
 ⟨hk.cellOf h.1 hr, hk.cellOf h.2 hr⟩
theorem Box.same {w w' : World} {B : Nat} {x y : Value} (h : Box w B x y) (hk : Same w w') : Box w' B x y := h.kept hk id
theorem Box.lt {w : World} {B : Nat} {x y : Value} (h : Box w B x y) : B < w.heap.size := World.block_lt_of_cell? w ⟨B, 0, none⟩ h.1
def FBox (w : World) (B : Nat) (x y : Value) : Prop := w.cell? ⟨B, 0, none⟩ = some x ∧ w.cell? ⟨B, 1, none⟩ = some y ∧ w.frozen? ⟨B, 0, none⟩ = false ∧ w.frozen? ⟨B, 1, none⟩ = false
theorem FBox.kept {R : Nat → Prop} {w w' : World} {B : Nat} {x y : Value} (h : FBox w B x y) (hk : Kept R w w') (hr : ¬ R B) : FBox w' B x y := by
 have hl := World.block_lt_of_cell? w ⟨B, 0, none⟩ h.1;exact ⟨hk.cellOf h.1 hr, hk.cellOf h.2.1 hr, (hk.frozen (p := ⟨B, 0, none⟩) hl hr).trans h.2.2.1, (hk.frozen (p := ⟨B, 1, none⟩) hl hr).trans h.2.2.2⟩
theorem FBox.same {w w' : World} {B : Nat} {x y : Value} (h : FBox w B x y) (hk : Same w w') : FBox w' B x y := h.kept hk id
theorem FBox.new (w : World) (x y : Value) (t : TypeId) : FBox (w.alloc (.cells #[x, y] t)) w.heap.size x y := ⟨by simp, by simp, by simp, by simp⟩
theorem FBox.next {w : World} {B : Nat} {x y : Value} (h : FBox w B x y) (o : Obj) : FBox (w.alloc o) B x y := h.same (kZ0.alloc _)
theorem FBox.lt {w : World} {B : Nat} {x y : Value} (h : FBox w B x y) : B < w.heap.size := World.block_lt_of_cell? w ⟨B, 0, none⟩ h.1
theorem FBox.other {w : World} {B : Nat} {x y : Value} (h : FBox w B x y) (a : Addr) (ha : a.block ≠ B) (u : Value) : FBox (w.setCell a u) B x y :=
 h.kept (Kept.setCell (Kept.refl (fun b => b = a.block) w) (p := a) (.inr rfl) u) (fun e => ha e.symm)
theorem XU {base : Nat} {e : TypeId} {w : World} {v : Value} {k : IntKind} {n : Nat} (h : w.ownsRow base e 1 v n (madeCells (Value.int k 0).cells (n * 1)).toList) : Own base e k w v (List.replicate n 0) := by
 unfold Own vals;rw [List.map_replicate, List.length_replicate, ← toList_madeCells_one]
 simpa [Value.cells] using h
theorem OwnP.snoc {base : Nat} {tw tb : TypeId} {w w' : World} {v u : Value} {qs : List PW} {g n cap : Nat} {sec : Int} {bs : List Int} (h : OwnP base tw tb w v qs) (hu : Own base tb .u8 w u bs) (zS : ∀ b, u.ownBlock = some b → ¬ jbi v qs b)
  (hg : w.grownBy w' v.ownBlock) (aX : w'.ownsRow base tw 2 (Q4 g (n + 1) cap) (n + 1) (U3 qs ++ [V sec, u])) (hn : n = qs.length) (bU : v.ownBlock = some g ∨ g = w.heap.size) :
  OwnP base tw tb w' (Q4 g (n + 1) cap) (qs ++ [⟨sec, u, bs⟩]) := by
 have hk : Kept (fun b => v.ownBlock = some b) w w' := Kept.of_grown hg (fun k e => e);have I6 : ∀ b, u.ownBlock = some b → b < w.heap.size := fun b hb => (hu.lt b hb).2
 have Ks : u.ownBlock ≠ some g := fun e => by
  rcases bU with bU | bU
  ·exact zS g e (.inl bU)
  ·have := I6 g e; omega
 have Ig : ∀ p ∈ qs, p.v.ownBlock ≠ some g := fun p hp e => by
  rcases bU with bU | bU
  ·exact h.out p.v (List.mem_map_of_mem hp) g bU e
  ·have := (h.lt g (.inr ⟨p, hp, e⟩)).2; omega
 refine ⟨?_, fun p hp => ?_, fun x hx => ?_, ?_⟩
 ·have e : U3 (qs ++ [(⟨sec, u, bs⟩ : PW)]) = U3 qs ++ [V sec, u] := by rw [WA]; rfl
  rw [e, List.length_append, List.length_singleton, ← hn];exact aX
 ·rcases List.mem_append.1 hp with hp | hp
  ·exact (h.data p hp).kept hk (fun b hb e => h.out p.v (List.mem_map_of_mem hp) b e hb)
  ·simp at hp
   subst hp;exact hu.kept hk (fun b hb e => zS b hb (.inl e))
 ·rw [List.map_append, List.mem_append] at hx
  intro b hb
  have bw : b = g := by simpa [Value.ownBlock] using hb.symm
  subst bw
  rcases hx with hx | hx
  ·obtain ⟨p, hp, rfl⟩ := List.mem_map.1 hx
   exact Ig p hp
  ·simp at hx
   subst hx;exact Ks
 ·rw [List.map_append]
  refine List.pairwise_append.2 ⟨h.each, by simp, fun x hx y hy => ?_⟩;obtain ⟨p, hp, rfl⟩ := List.mem_map.1 hx;simp at hy;subst hy;exact fun b hb bw => zS b bw (.inr ⟨p, hp, hb⟩)
theorem Yh {k : IntKind} {a b : Int} (h : a = b) : Ending.returned (.int k a) = .returned (.int k b) := by rw [h]
def Rd (k : IntKind) (w : World) (v : Value) (bs : List Int) : Prop :=
 bs.length ≤ maxLen ∧ ((bs = [] ∧ ∃ a c, v = .slice a 0 c ∧ (a = none → c = 0)) ∨ ∃ b off c, v = .slice (some ⟨b, off, none⟩) bs.length c ∧ bs.length ≤ c ∧ ∀ i, i < bs.length → w.cell? ⟨b, off + i, none⟩ = some (.int k (bs.getD i 0)))
theorem Rd.kept {R : Nat → Prop} {k : IntKind} {w w' : World} {v : Value} {bs : List Int} (h : Rd k w v bs) (hk : Kept R w w') (hr : ∀ b, v.ownBlock = some b → ¬ R b) : Rd k w' v bs := by
 refine ⟨h.1, ?_⟩
 rcases h.2 with h | ⟨b, off, c, rfl, hl, hc⟩
 ·exact .inl h
 ·exact .inr ⟨b, off, c, rfl, hl, fun i hi => hk.cellOf (hc i hi) (hr b rfl)⟩
theorem Rd.same {k : IntKind} {w w' : World} {v : Value} {bs : List Int} (h : Rd k w v bs) (hk : Same w w') : Rd k w' v bs := h.kept hk (fun _ _ => id)
theorem Rd.form {k : IntKind} {w : World} {v : Value} {bs : List Int} (h : Rd k w v bs) : ∃ a c, v = .slice a bs.length c := by
 rcases h.2 with ⟨rfl, a, c, rfl, _⟩ | ⟨b, off, c, rfl, _⟩ <;> exact ⟨_, _, rfl⟩
theorem Own.rd {base : Nat} {e : TypeId} {k : IntKind} {w : World} {v : Value} {bs : List Int} (h : Own base e k w v bs) : Rd k w v bs := by
 rcases h.form with ⟨rfl, rfl⟩ | ⟨g, cap, rfl, _, _, hc, hm⟩
 ·exact ⟨by simp, .inl ⟨rfl, _, _, rfl, fun _ => rfl⟩⟩
 ·exact ⟨Nat.le_trans hc hm, .inr ⟨g, 0, cap, rfl, hc, fun i hi => by rw [Nat.zero_add]; exact h.cell rfl i hi⟩⟩
def IsB (bs : List Int) : Prop := ∀ x ∈ bs, 0 ≤ x ∧ x ≤ 255
theorem IsB.at {bs : List Int} (h : IsB bs) (i : Nat) (hi : i < bs.length) : 0 ≤ bs.getD i 0 ∧ bs.getD i 0 ≤ 255 := by
 rw [List.getD_eq_getElem?_getD, List.getElem?_eq_getElem hi];exact h _ (List.getElem_mem hi)
structure RdP (w : World) (v : Value) (ps : List PW) : Prop where
 len : ps.length ≤ maxLen
 row : (ps = [] ∧ ∃ a c, v = .slice a 0 c) ∨ ∃ b off c, v = .slice (some ⟨b, off, none⟩) ps.length c ∧ ∀ i (h : i < ps.length), w.cell? ⟨b, off + i * 2, none⟩ = some (V ps[i].sec) ∧ w.cell? ⟨b, off + i * 2 + 1, none⟩ = some ps[i].v
 data : ∀ p ∈ ps, Rd .u8 w p.v p.bs
theorem RdP.kept {R : Nat → Prop} {w w' : World} {v : Value} {ps : List PW} (h : RdP w v ps) (hk : Kept R w w') (hr : ∀ b, jbi v ps b → ¬ R b) : RdP w' v ps := by
 refine ⟨h.len, ?_, fun p hp => (h.data p hp).kept hk (fun b hb => hr b (.inr ⟨p, hp, hb⟩))⟩
 rcases h.row with h | ⟨b, off, c, rfl, hc⟩
 ·exact .inl h
 ·exact .inr ⟨b, off, c, rfl, fun i hi => ⟨hk.cellOf (hc i hi).1 (hr b (.inl rfl)), hk.cellOf (hc i hi).2 (hr b (.inl rfl))⟩⟩
theorem RdP.same {w w' : World} {v : Value} {ps : List PW} (h : RdP w v ps) (hk : Same w w') : RdP w' v ps := h.kept hk (fun _ _ => id)
theorem RdP.form {w : World} {v : Value} {ps : List PW} (h : RdP w v ps) : ∃ a c, v = .slice a ps.length c := by
 rcases h.row with ⟨rfl, a, c, rfl⟩ | ⟨b, off, c, rfl, _⟩ <;> exact ⟨_, _, rfl⟩
theorem OwnP.rd {base : Nat} {tw tb : TypeId} {w : World} {v : Value} {ps : List PW} (h : OwnP base tw tb w v ps) : RdP w v ps := by
 refine ⟨?_, ?_, fun p hp => (h.data p hp).rd⟩
 ·rcases h.form with ⟨rfl, rfl⟩ | ⟨g, cap, rfl, _, _, hc, hm⟩
  ·simp
  ·exact Nat.le_trans hc hm
 ·rcases h.form with ⟨rfl, rfl⟩ | ⟨g, cap, rfl, _, _, hc, hm⟩
  ·exact .inl ⟨rfl, _, _, rfl⟩
  ·exact .inr ⟨g, 0, cap, rfl, fun i hi => ⟨by rw [Nat.zero_add]; exact h.sec rfl i hi, by rw [Nat.zero_add]; exact h.val rfl i hi⟩⟩
structure RdD (w : World) (dv pv : Value) (dur : List Int) (ps : List PW) : Prop where
 dur : Rd .u8 w dv dur
 pend : RdP w pv ps
theorem RdD.kept {R : Nat → Prop} {w w' : World} {dv pv : Value} {dur : List Int} {ps : List PW} (h : RdD w dv pv dur ps) (hk : Kept R w w') (hr : ∀ b, jfI dv pv ps b → ¬ R b) : RdD w' dv pv dur ps :=
 ⟨h.dur.kept hk (fun b hb => hr b (.inl hb)), h.pend.kept hk (fun b hb => hr b (.inr hb))⟩
theorem RdD.same {w w' : World} {dv pv : Value} {dur : List Int} {ps : List PW} (h : RdD w dv pv dur ps) (hk : Same w w') : RdD w' dv pv dur ps := h.kept hk (fun _ _ => id)
theorem OwnD.rd {base : Nat} {tw tb : TypeId} {w : World} {dv pv : Value} {dur : List Int} {ps : List PW} (h : OwnD base tw tb w dv pv dur ps) : RdD w dv pv dur ps := ⟨h.dur.rd, h.pend.rd⟩
theorem Rd.front {k : IntKind} {w : World} {b off c : Nat} {bs : List Int} (h : Rd k w (.slice (some ⟨b, off, none⟩) bs.length c) bs) (m : Nat) (hm : m ≤ bs.length) : Rd k w (.slice (some ⟨b, off, none⟩) m c) (bs.take m) := by
 refine ⟨Nat.le_trans (by simp; omega) h.1, ?_⟩
 rcases h.2 with ⟨hn, a, c', e, _⟩ | ⟨b', Dm, c', e, hl, hc⟩
 ·subst hn
  obtain rfl : m = 0 := by simpa using hm
  exact .inl ⟨by simp, _, _, rfl, fun e => by cases e⟩
 ·cases e
  have el : (bs.take m).length = m := by simp; omega
  refine .inr ⟨b, off, c, by rw [el], by omega, fun i hi => ?_⟩;have := hc i (by omega);rw [this];simp [List.getD, List.getElem?_take, show i < m by omega]
theorem jbj {w : World} {a : Addr} {v : Value} (h : w.cell? (a.add 0) = some v) : ∃ b off, a = ⟨b, off, none⟩ := by
 obtain ⟨b, off, Hu⟩ := a
 have hs : Hu = none := by simpa [Addr.add] using World.cell?_spot h
 subst hs;exact ⟨b, off, rfl⟩
theorem jae (b off i : Nat) : (⟨b, off, none⟩ : Addr).add i = ⟨b, off + i, none⟩ := by
 unfold Addr.add
 split
 ·next h => subst h; rfl
 ·rfl
section
variable {H : Type} {enc : TypeId × Value → H} {w : World} {base : Nat} {spare : Nat → Bool} {held : Bool}
set_option maxRecDepth 100000 in
theorem Xv {t e : TypeId} {k : IntKind} (ht : Tryz.prog.underlying t = some (.slice e)) (he : Tryz.prog.underlying e = some (.int k)) (hc : Tryz.prog.cellsOf e = 1) {fuel : Nat} {v : Value} {x : DataW H × List MemPlace}
  (h : DataW.trod enc Tryz.prog w base spare held fuel t [v] = some x) : ∃ bs, Rd k w v bs ∧ ∀ n ∈ bs, k.min ≤ n ∧ n ≤ k.max := by
 rcases open_ints ht he hc h with ⟨cD, _⟩ | ⟨a, len, cap, zs, cD, _, hl, hm, hz, _, bE, cC⟩
 ·simp at cD
  subst cD;exact ⟨[], ⟨by simp, .inl ⟨rfl, _, _, rfl, fun _ => rfl⟩⟩, fun n hn => by simp at hn⟩
 ·simp at cD
  subst cD
  have Sp : len ≤ zs.length := by rw [hz]; split <;> omega
  refine ⟨zs.take len, ⟨by simp; omega, ?_⟩, fun n hn => by have := cC n (List.mem_of_mem_take hn); simpa [Lit.wf] using this⟩
  by_cases h0 : len = 0
  ·subst h0
   exact .inl ⟨by simp, _, _, rfl, fun h => by simp at h⟩
  ·obtain ⟨b, off, rfl⟩ := jbj (bE 0 (by omega))
   refine .inr ⟨b, off, cap, by simp [Nat.min_eq_left Sp], by simp; omega, fun i hi => ?_⟩
   have QR : i < len := by simp at hi; omega
   have := bE i (by omega)
   simpa [jae, List.getD, List.getElem?_take, QR] using this
end
theorem jeS {cs : Array Value} (h : cs.size = 3) : ∃ c0 c1 c2, cs = #[c0, c1, c2] := by
 obtain ⟨l⟩ := cs
 match l, h with
 | [c0, c1, c2], _ => exact ⟨c0, c1, c2, rfl⟩
section
variable {H : Type} {enc : TypeId × Value → H} {w : World} {base : Nat} {spare : Nat → Bool} {held : Bool}
theorem jfJ {r : Reach} {b0 : Nat} {v : Value} {d : DataW H} {p : List MemPlace} (hv : Value.okWide Tryz.prog w r b0 23 v) (h : DataW.Trod enc Tryz.prog w base spare held 23 v d p) :
  ∃ p f l : Int, v = .agg #[V p, V f, V l] := by
 obtain ⟨cs, rfl, bD⟩ := okWide_struct Tryz.underlying23 hv;obtain ⟨c0, c1, c2, rfl⟩ := jeS (bD.trans (by kernel_rfl));obtain ⟨fuel, hf⟩ := h;obtain ⟨xs, n, _, _, _, dF, hg⟩ := DataW.trod_struct Tryz.underlying23 hf;have g0 : ∃ x, DataW.trod enc Tryz.prog w base spare held n 2 [c0] = some x := ⟨xs[0]'(by rw [dF]; decide), by have h := hg 0 _ rfl; rw [List.getElem?_eq_getElem (by rw [dF]; decide)] at h; exact h⟩;obtain ⟨x0, g0⟩ := g0;obtain ⟨z0, e0, _, _⟩ := DataW.trod_int Tryz.underlying2 g0;simp at e0;subst e0;have g1 : ∃ x, DataW.trod enc Tryz.prog w base spare held n 2 [c1] = some x := ⟨xs[1]'(by rw [dF]; decide), by have h := hg 1 _ rfl; rw [List.getElem?_eq_getElem (by rw [dF]; decide)] at h; exact h⟩;obtain ⟨x1, g1⟩ := g1;obtain ⟨z1, e1, _, _⟩ := DataW.trod_int Tryz.underlying2 g1;simp at e1;subst e1;have g2 : ∃ x, DataW.trod enc Tryz.prog w base spare held n 2 [c2] = some x := ⟨xs[2]'(by rw [dF]; decide), by have h := hg 2 _ rfl; rw [List.getElem?_eq_getElem (by rw [dF]; decide)] at h; exact h⟩;obtain ⟨x2, g2⟩ := g2;obtain ⟨z2, e2, _, _⟩ := DataW.trod_int Tryz.underlying2 g2;simp at e2;subst e2;exact ⟨z0, z1, z2, rfl⟩
end
structure RowK (E : Type) where
 m : Nat
 cells : E → List Value
 len : ∀ p, (cells p).length = m
 v : E → Value
 bs : E → List Int
variable {E : Type}
def RowK.all (K : RowK E) : List E → List Value
 | [] => []
 | p :: ps => K.cells p ++ K.all ps
theorem RowK.all_length (K : RowK E) (ps : List E) : (K.all ps).length = ps.length * K.m := by
 induction ps with
 | nil => simp [RowK.all]
 | cons p ps ih => rw [RowK.all, List.length_append, K.len, ih, List.length_cons, Nat.add_mul, Nat.one_mul, Nat.add_comm]
theorem RowK.all_append (K : RowK E) (ps qs : List E) : K.all (ps ++ qs) = K.all ps ++ K.all qs := by
 induction ps with
 | nil => rfl
 | cons p ps ih => simp only [List.cons_append, RowK.all, ih, List.append_assoc]
theorem RowK.all_at (K : RowK E) (ps : List E) (j i : Nat) (h : j < ps.length) (hi : i < K.m) : (K.all ps)[j * K.m + i]? = (K.cells ps[j])[i]? := by
 induction ps generalizing j with
 | nil => simp at h
 | cons p ps ih =>
  cases j with
  | zero => rw [Nat.zero_mul, Nat.zero_add, RowK.all, List.getElem?_append_left (by rw [K.len]; exact hi)]; rfl
  | succ j =>
   rw [RowK.all, List.getElem?_append_right (by rw [K.len, Nat.add_mul]; omega), K.len, show (j + 1) * K.m + i - K.m = j * K.m + i from by rw [Nat.add_mul]; omega];exact ih j (by simpa using h)
structure OwnR (K : RowK E) (base : Nat) (tw tb : TypeId) (w : World) (v : Value) (ps : List E) : Prop where
 row : w.ownsRow base tw K.m v ps.length (K.all ps)
 data : ∀ p ∈ ps, Own base tb .u8 w (K.v p) (K.bs p)
 out : ∀ u ∈ ps.map K.v, Apart v u
 each : (ps.map K.v).Pairwise Apart
def Uc (K : RowK E) (v : Value) (ps : List E) (b : Nat) : Prop := v.ownBlock = some b ∨ ∃ p ∈ ps, (K.v p).ownBlock = some b
section
variable {K : RowK E} {base : Nat} {tw tb : TypeId} {w w' : World} {v : Value} {ps qs : List E}
theorem OwnR.form (h : OwnR K base tw tb w v ps) :
  (v = V0 ∧ ps = []) ∨ ∃ g cap, v = Q4 g ps.length cap ∧ base ≤ g ∧ g < w.heap.size ∧ ps.length ≤ cap ∧ cap ≤ maxLen := by
 rcases h.row.2 with ⟨rfl, hn⟩ | ⟨g, cap, cur, rfl, hb, lO, hc, hm, _⟩
 ·exact .inl ⟨rfl, List.length_eq_zero_iff.1 hn⟩
 ·exact .inr ⟨g, cap, rfl, hb, (Array.getElem?_eq_some_iff.1 lO).1, hc, hm⟩
theorem OwnR.lt (h : OwnR K base tw tb w v ps) (b : Nat) (hb : Uc K v ps b) : base ≤ b ∧ b < w.heap.size := by
 rcases hb with hb | ⟨p, hp, hb⟩
 ·exact World.ownsRow.lt h.row b hb
 ·exact (h.data p hp).lt b hb
theorem OwnR.cell {g n cap : Nat} (h : OwnR K base tw tb w (Q4 g n cap) ps) (hn : n = ps.length) (j i : Nat) (hj : j < ps.length) (hi : i < K.m) :
  w.cell? ⟨g, j * K.m + i, none⟩ = (K.cells ps[j])[i]? := by
 subst hn;rw [World.ownsRow.cellAt h.row (j * K.m + i) (by have := Nat.mul_le_mul_right K.m (Nat.succ_le_of_lt hj); rw [Nat.succ_mul] at this; omega), K.all_at ps j i hj hi]
theorem OwnR.frozen {g n cap : Nat} (h : OwnR K base tw tb w (Q4 g n cap) ps) (hn : n = ps.length) (j : Nat) : w.frozen? ⟨g, j, none⟩ = false := by
 subst hn;exact World.ownsRow.frozenAt h.row j
theorem OwnR.kept {R : Nat → Prop} (h : OwnR K base tw tb w v ps) (hk : Kept R w w') (hr : ∀ b, Uc K v ps b → ¬ R b) : OwnR K base tw tb w' v ps :=
 ⟨hk.owns h.row (fun b hb => hr b (.inl hb)), fun p hp => (h.data p hp).kept hk (fun b hb => hr b (.inr ⟨p, hp, hb⟩)), h.out, h.each⟩
theorem OwnR.same (h : OwnR K base tw tb w v ps) (hk : Same w w') : OwnR K base tw tb w' v ps := h.kept hk (fun _ _ => id)
theorem OwnR.nil (K : RowK E) (base : Nat) (tw tb : TypeId) (w : World) : OwnR K base tw tb w (V0) [] :=
 ⟨World.ownsRow_nil _ _ _ _, fun _ h => by simp at h, fun _ h => by simp at h, List.Pairwise.nil⟩
theorem OwnR.set {g n cap : Nat} {pre post : List E} {p p' : E} (h : OwnR K base tw tb w (Q4 g n cap) (pre ++ p :: post)) (hn : n = (pre ++ p :: post).length) (i : Nat) (u : Value) (hi : i < K.m)
  (hc : K.cells p' = (K.cells p).set i u) (hv : K.v p' = K.v p) (hb : K.bs p' = K.bs p) (j : Nat) (hj : j = pre.length * K.m + i) :
  OwnR K base tw tb (w.setCell ⟨g, j, none⟩ u) (Q4 g n cap) (pre ++ p' :: post) := by
 subst hn hj;have hk : Kept (fun b => b = g) w (w.setCell ⟨g, pre.length * K.m + i, none⟩ u) := Kept.setCell (Kept.refl (fun b => b = g) w) (p := ⟨g, pre.length * K.m + i, none⟩) (.inr rfl) _
 have bJ : (pre ++ p' :: post).map K.v = (pre ++ p :: post).map K.v := by simp [hv]
 refine ⟨?_, fun q hq => ?_, by rw [bJ]; exact h.out, by rw [bJ]; exact h.each⟩
 ·have hs := (World.ownsRow.stored h.row (pre.length * K.m + i) u).1
  have e : K.all (pre ++ p' :: post) = (K.all (pre ++ p :: post)).set (pre.length * K.m + i) u := by
   rw [K.all_append, K.all_append, List.set_append_right (h := by rw [K.all_length]; omega), K.all_length, Nat.add_sub_cancel_left, RowK.all, RowK.all, List.set_append_left (h := by rw [K.len]; exact hi), hc]
  rw [e]
  simpa using hs
 ·have IC : ∃ q' ∈ pre ++ p :: post, K.v q' = K.v q ∧ K.bs q' = K.bs q := by
   rcases List.mem_append.1 hq with hq | hq
   ·exact ⟨q, by simp [hq], rfl, rfl⟩
   ·rcases List.mem_cons.1 hq with rfl | hq
    ·exact ⟨p, by simp, hv.symm, hb.symm⟩
    ·exact ⟨q, by simp [hq], rfl, rfl⟩
  obtain ⟨q', hm, e1, e2⟩ := IC;have hd := h.data q' hm;rw [e1, e2] at hd;refine hd.kept hk (fun b hb e => ?_);subst e;exact h.out (K.v q) (by rw [← e1]; exact List.mem_map_of_mem hm) b rfl hb
theorem OwnR.setData {pre post : List E} {p p' : E} (h : OwnR K base tw tb w v (pre ++ p :: post)) (hk : Kept (fun b => (K.v p).ownBlock = some b) w w') (hc : K.cells p' = K.cells p) (hv : K.v p' = K.v p) (ho : Own base tb .u8 w' (K.v p) (K.bs p')) :
  OwnR K base tw tb w' v (pre ++ p' :: post) := by
 have bJ : (pre ++ p' :: post).map K.v = (pre ++ p :: post).map K.v := by simp [hv]
 have kr : K.all (pre ++ p' :: post) = K.all (pre ++ p :: post) := by rw [K.all_append, K.all_append, RowK.all, RowK.all, hc]
 have az : (pre ++ p' :: post).length = (pre ++ p :: post).length := by simp
 have wP := h.each;rw [List.map_append, List.map_cons] at wP;obtain ⟨_, h2, h3⟩ := List.pairwise_append.1 wP;have h4 := List.pairwise_cons.1 h2;refine ⟨?_, fun q hq => ?_, by rw [bJ]; exact h.out, by rw [bJ]; exact h.each⟩
 ·rw [kr, az]
  exact hk.owns h.row (fun b hb e => h.out (K.v p) (by simp) b hb e)
 ·rcases List.mem_append.1 hq with hq | hq
  ·exact (h.data q (by simp [hq])).kept hk (fun b hb e => h3 (K.v q) (List.mem_map_of_mem hq) (K.v p) (by simp) b hb e)
  ·rcases List.mem_cons.1 hq with rfl | hq
   ·rw [hv]; exact ho
   ·exact (h.data q (by simp [hq])).kept hk (fun b hb e => h4.1 (K.v q) (List.mem_map_of_mem hq) b e hb)
end
structure MarkK (K : RowK E) where
 on : Int → E → E
 sz : E → Nat
 v : ∀ k p, K.v (on k p) = K.v p
def Uk {K : RowK E} (M : MarkK K) : Int → List E → List E
 | _, [] => []
 | k, p :: ps => M.on k p :: Uk M (k + M.sz p) ps
def Ug {K : RowK E} (M : MarkK K) : Int → List E → Int
 | k, [] => k
 | k, p :: ps => Ug M (k + M.sz p) ps
section
variable {K : RowK E} (M : MarkK K)
theorem Ua (k : Int) (ps : List E) : (Uk M k ps).length = ps.length := by
 induction ps generalizing k with
 | nil => rfl
 | cons p ps ih => simp [Uk, ih]
theorem Vu (k : Int) (ps : List E) : k ≤ Ug M k ps := by
 induction ps generalizing k with
 | nil => exact Int.le_refl _
 | cons p ps ih => have := ih (k + M.sz p); simp only [Ug]; omega
theorem jeT (k : Int) (ps : List E) (p : E) : Ug M k (ps ++ [p]) = Ug M k ps + M.sz p := by
 induction ps generalizing k with
 | nil => rfl
 | cons q ps ih => simp only [List.cons_append, Ug, ih]
theorem jcl (k : Int) (ps qs : List E) : Ug M k (ps ++ qs) = Ug M (Ug M k ps) qs := by
 induction ps generalizing k with
 | nil => rfl
 | cons q ps ih => simp only [List.cons_append, Ug, ih]
theorem jdy (k : Int) (ps : List E) (p : E) : Uk M k (ps ++ [p]) = Uk M k ps ++ [M.on (Ug M k ps) p] := by
 induction ps generalizing k with
 | nil => rfl
 | cons q ps ih => simp only [List.cons_append, Uk, Ug, ih]
theorem jeA (k : Int) (ps : List E) : (Uk M k ps).map K.v = ps.map K.v := by
 induction ps generalizing k with
 | nil => rfl
 | cons q ps ih => simp only [Uk, List.map_cons, ih, M.v]
theorem U4 (k : Int) (ps : List E) (j : Nat) (h : j < ps.length) (h' : j < (Uk M k ps).length) : (Uk M k ps)[j] = M.on (Ug M k (ps.take j)) ps[j] := by
 induction ps generalizing k j with
 | nil => simp at h
 | cons q ps ih =>
  cases j with
  | zero => rfl
  | succ j => simp only [Uk, List.getElem_cons_succ, List.take_succ_cons, Ug]; exact ih _ _ (by simpa using h) _
def Wj (k : Int) (ps : List E) (j : Nat) : List E := Uk M k (ps.take j) ++ ps.drop j
theorem Xw (k : Int) (ps : List E) (j : Nat) : (Wj M k ps j).length = ps.length := by simp [Wj, Ua]; omega
theorem YD (k : Int) (ps : List E) : Wj M k ps 0 = ps := by simp [Wj, Uk]
theorem Zl (k : Int) (ps : List E) : Wj M k ps ps.length = Uk M k ps := by simp [Wj]
theorem jaf (k : Int) (ps : List E) (j : Nat) (h : j < ps.length) : Wj M k ps j = Uk M k (ps.take j) ++ ps[j] :: ps.drop (j + 1) := by
 unfold Wj;rw [List.drop_eq_getElem_cons h]
theorem YE (k : Int) (ps : List E) (j : Nat) (h : j < ps.length) : Wj M k ps (j + 1) = Uk M k (ps.take j) ++ M.on (Ug M k (ps.take j)) ps[j] :: ps.drop (j + 1) := by
 unfold Wj;rw [List.take_succ_eq_append_getElem h, jdy, List.append_assoc];rfl
theorem Wx (k : Int) (ps : List E) (j : Nat) (h : j < ps.length) : Ug M k (ps.take (j + 1)) = Ug M k (ps.take j) + M.sz ps[j] := by
 rw [List.take_succ_eq_append_getElem h, jeT]
theorem Vv (k : Int) (ps : List E) (j : Nat) : Ug M k (ps.take j) ≤ Ug M k ps := by
 have h := jcl M k (ps.take j) (ps.drop j);rw [List.take_append_drop] at h;rw [h];exact Vu M _ _
end
structure RdR (K : RowK E) (w : World) (v : Value) (ps : List E) : Prop where
 max : ps.length ≤ maxLen
 row : (ps = [] ∧ ∃ a c, v = .slice a 0 c) ∨ ∃ b off c, v = .slice (some ⟨b, off, none⟩) ps.length c ∧ ∀ j i, (h : j < ps.length) → i < K.m → w.cell? ⟨b, off + (j * K.m + i), none⟩ = (K.cells ps[j])[i]?
 data : ∀ p ∈ ps, Rd .u8 w (K.v p) (K.bs p)
section
variable {K : RowK E} {w w' : World} {v : Value} {ps : List E}
theorem RdR.kept {R : Nat → Prop} (h : RdR K w v ps) (hk : Kept R w w') (hr : ∀ b, Uc K v ps b → ¬ R b) : RdR K w' v ps := by
 refine ⟨h.max, ?_, fun p hp => (h.data p hp).kept hk (fun b hb => hr b (.inr ⟨p, hp, hb⟩))⟩
 rcases h.row with h | ⟨b, off, c, rfl, hc⟩
 ·exact .inl h
 ·refine .inr ⟨b, off, c, rfl, fun j i hj hi => ?_⟩
  have hl := K.len ps[j];rw [List.getElem?_eq_getElem (by omega)];exact hk.cellOf (by rw [hc j i hj hi, List.getElem?_eq_getElem (by omega)]) (hr b (.inl rfl))
theorem RdR.same (h : RdR K w v ps) (hk : Same w w') : RdR K w' v ps := h.kept hk (fun _ _ => id)
theorem RdR.form (h : RdR K w v ps) : ∃ a c, v = .slice a ps.length c := by
 rcases h.row with ⟨rfl, a, c, rfl⟩ | ⟨b, off, c, rfl, _⟩ <;> exact ⟨_, _, rfl⟩
theorem OwnR.rd {base : Nat} {tw tb : TypeId} (h : OwnR K base tw tb w v ps) : RdR K w v ps := by
 refine ⟨?_, ?_, fun p hp => (h.data p hp).rd⟩
 ·rcases h.form with ⟨rfl, rfl⟩ | ⟨g, cap, rfl, _, _, hc, hm⟩
  ·simp
  ·exact Nat.le_trans hc hm
 ·rcases h.form with ⟨rfl, rfl⟩ | ⟨g, cap, rfl, _, _, hc, hm⟩
  ·exact .inl ⟨rfl, _, _, rfl⟩
  ·exact .inr ⟨g, 0, cap, rfl, fun j i hj hi => by rw [Nat.zero_add]; exact h.cell rfl j i hj hi⟩
end
section
variable {H : Type} {enc : TypeId × Value → H} {w : World} {base : Nat} {spare : Nat → Bool} {held : Bool}
theorem Yi {E : Type} [Inhabited E] (K : RowK E) (Q : E → Prop) {t e : TypeId} (jI : 0 < K.m) (ht : Tryz.prog.underlying t = some (.slice e)) (hc : Tryz.prog.cellsOf e = K.m)
  (he : ∀ (n : Nat) (cs : List Value) (x : DataW H × List MemPlace), cs.length = K.m → DataW.trod enc Tryz.prog w base spare held n e cs = some x → ∃ p : E, cs = K.cells p ∧ Rd .u8 w (K.v p) (K.bs p) ∧ Q p)
  {fuel : Nat} {v : Value} {x : DataW H × List MemPlace} (h : DataW.trod enc Tryz.prog w base spare held fuel t [v] = some x) : ∃ ps : List E, RdR K w v ps ∧ ∀ p ∈ ps, Q p := by
 rcases Deep.open_slice ht h with ⟨cD, _⟩ | ⟨a, len, cap, m', n, D, Pl, cD, hb, hl, hm, I5, _, hx⟩
 ·simp at cD
  subst cD;exact ⟨[], ⟨Nat.zero_le _, .inl ⟨rfl, _, _, rfl⟩, fun p hp => by simp at hp⟩, fun p hp => by simp at hp⟩
 ·simp at cD
  subst cD
  have lN : len ≤ m' := by rw [I5]; split <;> omega
  have each : ∀ i, i < len → ∃ p : E, (∀ j, j < K.m → w.cell? ((a.add (i * K.m)).add j) = (K.cells p)[j]?) ∧ Rd .u8 w (K.v p) (K.bs p) ∧ Q p := fun i hi => by
   obtain ⟨Az, h1, h2⟩ := hx i (by omega);rw [hc] at h1;obtain ⟨_, az, bE⟩ := World.cells?_some h1;obtain ⟨p, rfl, hr, hq⟩ := he _ _ _ (by omega) h2;exact ⟨p, fun j hj => bE j (by omega), hr, hq⟩
  obtain ⟨f, hf⟩ := Deep.choose_lt each;refine ⟨(List.range len).map f, ⟨by simp; omega, ?_, fun p hp => ?_⟩, fun p hp => ?_⟩
  ·by_cases h0 : len = 0
   ·subst h0
    exact .inl ⟨by simp, _, _, rfl⟩
   ·have ha : ∃ b off, a = ⟨b, off, none⟩ := by
     have h1 := (hf 0 (by omega)).1 0 jI;rw [Nat.zero_mul, List.getElem?_eq_getElem (by rw [K.len]; exact jI)] at h1
     have e0 : a.add 0 = a := by cases a; simp [Addr.add]
     rw [e0] at h1;exact jbj (a := a) h1
    obtain ⟨b, off, rfl⟩ := ha;refine .inr ⟨b, off, cap, by simp, fun j i hj hi => ?_⟩
    have O7 : j < len := by simpa using hj
    have h1 := (hf j O7).1 i hi;rw [jae, jae, Nat.add_assoc] at h1
    simpa using h1
  ·obtain ⟨i, hi, rfl⟩ := List.mem_map.1 hp
   exact (hf i (List.mem_range.1 hi)).2.1
  ·obtain ⟨i, hi, rfl⟩ := List.mem_map.1 hp
   exact (hf i (List.mem_range.1 hi)).2.2
end
set_option maxHeartbeats 400000 in
theorem WV {ea eb : TypeId} (base : Nat) (va vb : Value) (bs : List Int) (w : World) (hn : bs.length ≤ 1125899906842624)
  (ha : Own base ea .u8 w va bs) (hb : Own base eb .u8 w vb bs) :
  Calls Tryz.prog 76 #[va, vb] w fun e w' => e = .returned (.bool true) ∧ ∃ n, w' = w.drewN n := by
 by_cases h0 : bs.length = 0
 ·obtain rfl : bs = [] := List.length_eq_zero_iff.1 h0
  obtain ⟨aa, ca, rfl⟩ : ∃ aa ca, va = .slice aa 0 ca := by rcases ha.form with ⟨rfl, _⟩ | ⟨g, cap, rfl, _⟩ <;> exact ⟨_, _, rfl⟩
  obtain ⟨ab, cb, rfl⟩ : ∃ aa ca, vb = .slice aa 0 ca := by rcases hb.form with ⟨rfl, _⟩ | ⟨g, cap, rfl, _⟩ <;> exact ⟨_, _, rfl⟩
  clear ha hb hn h0
  go_enter Tryz.func76, Tryz.ntmps76
  go_wp2;refine wp_loop_rounds 1 ?_;rw [rounds_succ];go_wp2;go_ret;exact ⟨rfl, 0, rfl⟩
 ·obtain ⟨ga, ca, rfl, _, _, _, _⟩ : ∃ g cap, va = Q4 g bs.length cap ∧ base ≤ g ∧ g < w.heap.size ∧ bs.length ≤ cap ∧ cap ≤ maxLen := by
   rcases ha.form with ⟨_, rfl⟩ | h
   ·simp at h0
   ·exact h
  obtain ⟨gb, cb, rfl, _, _, _, _⟩ : ∃ g cap, vb = Q4 g bs.length cap ∧ base ≤ g ∧ g < w.heap.size ∧ bs.length ≤ cap ∧ cap ≤ maxLen := by
   rcases hb.form with ⟨_, rfl⟩ | h
   ·simp at h0
   ·exact h
  have eW : ∀ j, j < bs.length → w.cell? ⟨ga, j, none⟩ = some (.int .u8 (bs.getD j 0)) := fun j hj => ha.cell rfl j hj;have qh : ∀ j, j < bs.length → w.cell? ⟨gb, j, none⟩ = some (.int .u8 (bs.getD j 0)) := fun j hj => hb.cell rfl j hj;clear ha hb;generalize hl : bs.length = len at *
  go_enter Tryz.func76, Tryz.ntmps76
  go_wp2
  go_loopw [5] (fun i wr => ∃ k n : Nat, k ≤ len ∧ i = V k ∧ wr = w.drewN n) (fun i _ => len - (intOf i).toNat)
  case atStart => exact ⟨0, 0, Nat.zero_le _, rfl, rfl⟩
  case round =>
   obtain ⟨k, n, hk, rfl, rfl⟩ := hrel
   by_cases aG : k < len
   ·have h1 := eW k aG
    have h2 := qh k aG;clear eW qh;go_wp2
    go_quiet (fail)
    go_wp2;go_roundw
    case rel => exact ⟨k + 1, _, by omega, by go_num, rfl⟩
    case measure => simp [intOf]; omega
   ·go_wp2
    go_ret;exact ⟨rfl, _, rfl⟩
set_option maxHeartbeats 400000 in
theorem V5 {ea : TypeId} (base : Nat) (va : Value) (bs : List Int) (k0 : Int) (w : World) (hn : bs.length ≤ 1125899906842624) (h0 : 0 ≤ k0) (h1 : k0 ≤ 1125899906842624)
  (ha : Own base ea .u8 w va bs) :
  Calls Tryz.prog 41 #[va, V k0] w fun e w' => e = .returned (V (k0 + bs.length)) ∧ Own base ea .u8 w' va (marks k0 bs.length) ∧ Kept (fun b => va.ownBlock = some b) w w' := by
 by_cases hz : bs.length = 0
 ·obtain rfl : bs = [] := List.length_eq_zero_iff.1 hz
  obtain ⟨aa, ca, rfl⟩ : ∃ aa ca, va = .slice aa 0 ca := by rcases ha.form with ⟨rfl, _⟩ | ⟨g, cap, rfl, _⟩ <;> exact ⟨_, _, rfl⟩
  have HA : Hid (Own base ea .u8 w (.slice aa 0 ca) []) := ha;clear ha hn hz
  go_enter Tryz.func41, Tryz.ntmps41
  go_wp2;refine wp_loop_rounds 1 ?_;rw [rounds_succ];go_wp2;go_ret;exact ⟨by simp, by simpa [marks] using HA.out, kZ0⟩
 ·obtain ⟨g, cap, rfl, hb, aG, _, _⟩ : ∃ g cap, va = Q4 g bs.length cap ∧ base ≤ g ∧ g < w.heap.size ∧ bs.length ≤ cap ∧ cap ≤ maxLen := by
   rcases ha.form with ⟨_, rfl⟩ | h
   ·simp at hz
   ·exact h
  generalize hl : bs.length = len at *;have HL : Hid (bs.length = len) := hl;clear hl
  go_enter Tryz.func41, Tryz.ntmps41
  go_wp2
  go_loopw [1, 5] (fun v i wr => ∃ k : Nat, k ≤ len ∧ i = V k ∧ v = V (k0 + k) ∧ Hid (Own base ea .u8 wr (Q4 g len cap) (part k0 bs k)) ∧ Hid (Kept (fun b => b = g) w wr)) (fun _ i _ => len - (intOf i).toNat)
  case atStart => exact ⟨0, Nat.zero_le _, rfl, by simp, by rw [jeP]; exact ha, kZ0⟩
  case round =>
   obtain ⟨k, hk, rfl, rfl, HO, HK⟩ := hrel
   by_cases aG : k < len
   ·have hf := HO.out.frozen (by rw [XT _ _ _ (by have := HL.out; omega)]; exact HL.out.symm) k
    have hc := HO.out.cell (by rw [XT _ _ _ (by have := HL.out; omega)]; exact HL.out.symm) k aG;clear ha;go_wp2;go_roundw
    case rel =>
     have hl := HL.out;refine ⟨k + 1, by omega, by go_num, by go_num, ?_, HK.out.setCell (.inr rfl) _⟩;have := HO.out.stored (by rw [XT _ _ _ (by omega)]; omega) k ((k0 + k) % 256)
     rwa [jeQ _ _ _ (by omega)] at this
    case measure => simp [intOf]; omega
   ·go_wp2
    go_ret
    obtain rfl : k = len := by omega
    have hl := HL.out;refine ⟨rfl, ?_, HK.out.mono (fun b _ e => by simp [Value.ownBlock, e])⟩;have := HO.out;rw [← hl, jfH, hl] at this;exact this
set_option maxHeartbeats 400000 in
theorem Yt {ea : TypeId} (base : Nat) (va : Value) (n : Nat) (k0 : Int) (w : World) (hn : n ≤ 1125899906842624) (h0 : 0 ≤ k0) (h1 : k0 ≤ 1125899906842624)
  (ha : Own base ea .u8 w va (marks k0 n)) :
  Calls Tryz.prog 79 #[va, V k0] w fun e w' => e = .returned (V (k0 + n)) ∧ w' = w := by
 by_cases hz : n = 0
 ·subst hz
  obtain ⟨aa, ca, rfl⟩ : ∃ aa ca, va = .slice aa 0 ca := by rcases ha.form with ⟨rfl, _⟩ | ⟨g, cap, rfl, _⟩ <;> exact ⟨_, _, rfl⟩
  clear ha hn
  go_enter Tryz.func79, Tryz.ntmps79
  go_wp2;refine wp_loop_rounds 1 ?_;rw [rounds_succ];go_wp2;go_ret;exact ⟨by simp, rfl⟩
 ·obtain ⟨g, cap, rfl⟩ : ∃ g cap, va = Q4 g n cap := by
   rcases ha.form with ⟨_, h⟩ | ⟨g, cap, h, _⟩
   ·have := congrArg List.length h; simp [Vt] at this; omega
   ·exact ⟨g, cap, by rw [h, Vt]⟩
  have hc : ∀ j, j < n → w.cell? ⟨g, j, none⟩ = some (.int .u8 ((k0 + j) % 256)) := fun j hj => by
   rw [ha.cell (Vt _ _).symm j hj, jfG _ _ _ hj]
  clear ha
  go_enter Tryz.func79, Tryz.ntmps79
  go_wp2
  go_loop [1, 5] (fun v i => ∃ k : Nat, k ≤ n ∧ i = V k ∧ v = V (k0 + k)) (fun _ i => n - (intOf i).toNat)
  case atStart => exact ⟨0, Nat.zero_le _, rfl, by simp⟩
  case round =>
   obtain ⟨k, hk, rfl, rfl⟩ := hrel
   by_cases aG : k < n
   ·have h2 := hc k aG
    clear hc;go_wp2;go_round
    case rel => exact ⟨k + 1, by omega, by go_num, by go_num⟩
    case measure => simp [intOf]; omega
   ·go_wp2
    go_ret
    obtain rfl : k = n := by omega
    exact ⟨rfl, rfl⟩
end Go.Proofs.YtljfcdkhicffcaaGreat
