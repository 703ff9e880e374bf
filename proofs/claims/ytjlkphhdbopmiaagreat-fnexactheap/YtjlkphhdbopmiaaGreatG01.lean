import Derived.Test.YtjlkphhdbopmiaaGreatG00
import Derived.WalkKit
import Derived.OrdersHeld
import Derived.Deep.RegionHeld3
namespace Go.Proofs.YtjlkphhdbopmiaaGreat
set_option linter.unusedSimpArgs false
set_option maxRecDepth 100000
set_option maxHeartbeats 4000000
set_option linter.unusedVariables false
open Go.RowKit Go
def Blk (w : World) (B : Nat) (e : TypeId) (xs : List Value) : Prop := w.heap[B]? = some (.cells xs.toArray e (0, 0))
theorem Blk.lt {w : World} {B : Nat} {e : TypeId} {xs : List Value} (h : Blk w B e xs) : B < w.heap.size := (Array.getElem?_eq_some_iff.1 h).1
theorem Blk.cell {w : World} {B : Nat} {e : TypeId} {xs : List Value} (h : Blk w B e xs) (j : Nat) : w.cell? ⟨B, j, none⟩ = xs[j]? := by
 unfold Blk at h
 simp [World.cell?, h]
theorem Blk.frozen {w : World} {B : Nat} {e : TypeId} {xs : List Value} (h : Blk w B e xs) (j : Nat) : w.frozen? ⟨B, j, none⟩ = false := by
 unfold Blk at h
 simp [World.frozen?, h]
theorem Blk.kept {R : Nat → Prop} {w w' : World} {B : Nat} {e : TypeId} {xs : List Value} (h : Blk w B e xs) (hk : Kept R w w') (hr : ¬ R B) : Blk w' B e xs := hk.heap h hr
theorem Blk.same {w w' : World} {B : Nat} {e : TypeId} {xs : List Value} (h : Blk w B e xs) (hk : Same w w') : Blk w' B e xs := hk.heap h id
theorem Blk.new (w : World) (xs : Array Value) (e : TypeId) : Blk (w.alloc (.cells xs e)) w.heap.size e xs.toList := by
 unfold Blk World.alloc
 rw [Array.toArray_toList]
 exact Array.getElem?_push_size
theorem Blk.newL (w : World) (xs : List Value) (e : TypeId) : Blk (w.alloc (.cells xs.toArray e)) w.heap.size e xs := Blk.new w xs.toArray e
theorem Blk.c0 {w : World} {B : Nat} {e : TypeId} {v0 : Value} {t : List Value} (h : Blk w B e (v0 :: t)) : w.cell? ⟨B, 0, none⟩ = some v0 := h.cell 0
theorem Blk.c1 {w : World} {B : Nat} {e : TypeId} {v0 v1 : Value} {t : List Value} (h : Blk w B e (v0 :: v1 :: t)) : w.cell? ⟨B, 1, none⟩ = some v1 := h.cell 1
theorem Blk.c2 {w : World} {B : Nat} {e : TypeId} {v0 v1 v2 : Value} {t : List Value} (h : Blk w B e (v0 :: v1 :: v2 :: t)) : w.cell? ⟨B, 2, none⟩ = some v2 := h.cell 2
theorem Blk.c3 {w : World} {B : Nat} {e : TypeId} {v0 v1 v2 v3 : Value} {t : List Value} (h : Blk w B e (v0 :: v1 :: v2 :: v3 :: t)) : w.cell? ⟨B, 3, none⟩ = some v3 := h.cell 3
theorem Blk.c4 {w : World} {B : Nat} {e : TypeId} {v0 v1 v2 v3 v4 : Value} {t : List Value} (h : Blk w B e (v0 :: v1 :: v2 :: v3 :: v4 :: t)) : w.cell? ⟨B, 4, none⟩ = some v4 := h.cell 4
theorem Blk.c5 {w : World} {B : Nat} {e : TypeId} {v0 v1 v2 v3 v4 v5 : Value} {t : List Value} (h : Blk w B e (v0 :: v1 :: v2 :: v3 :: v4 :: v5 :: t)) : w.cell? ⟨B, 5, none⟩ = some v5 := h.cell 5
theorem Blk.c6 {w : World} {B : Nat} {e : TypeId} {v0 v1 v2 v3 v4 v5 v6 : Value} {t : List Value} (h : Blk w B e (v0 :: v1 :: v2 :: v3 :: v4 :: v5 :: v6 :: t)) : w.cell? ⟨B, 6, none⟩ = some v6 := h.cell 6
theorem Blk.c8 {w : World} {B : Nat} {e : TypeId} {v0 v1 v2 v3 v4 v5 v6 v7 v8 : Value} {t : List Value} (h : Blk w B e (v0 :: v1 :: v2 :: v3 :: v4 :: v5 :: v6 :: v7 :: v8 :: t)) : w.cell? ⟨B, 8, none⟩ = some v8 := h.cell 8
theorem Blk.c9 {w : World} {B : Nat} {e : TypeId} {v0 v1 v2 v3 v4 v5 v6 v7 v8 v9 : Value} {t : List Value} (h : Blk w B e (v0 :: v1 :: v2 :: v3 :: v4 :: v5 :: v6 :: v7 :: v8 :: v9 :: t)) : w.cell? ⟨B, 9, none⟩ = some v9 := h.cell 9
theorem Blk.all2 {w : World} {B : Nat} {e : TypeId} {v0 v1 : Value} (h : Blk w B e [v0, v1]) : w.cell? ⟨B, 0, none⟩ = some v0 ∧ w.cell? ⟨B, 1, none⟩ = some v1 := ⟨h.cell 0, h.cell 1⟩
theorem Blk.all3 {w : World} {B : Nat} {e : TypeId} {v0 v1 v2 : Value} (h : Blk w B e [v0, v1, v2]) : w.cell? ⟨B, 0, none⟩ = some v0 ∧ w.cell? ⟨B, 1, none⟩ = some v1 ∧ w.cell? ⟨B, 2, none⟩ = some v2 := ⟨h.cell 0, h.cell 1, h.cell 2⟩
theorem sameA (w : World) (xs : List Value) (e : TypeId) : Same w (w.alloc (.cells xs.toArray e)) := (Kept.refl _ _).alloc _
theorem Blk.newA (w : World) (xs : List Value) (e : TypeId) (ys : List Value) (e' : TypeId) : Blk ((w.alloc (.cells xs.toArray e)).alloc (.cells ys.toArray e')) w.heap.size e xs := by
 have h := Blk.newL w xs e
 have := Below.heap_alloc (w.alloc (.cells xs.toArray e)) (.cells ys.toArray e') w.heap.size h.lt
 unfold Blk at *
 rw [this]
 exact h
theorem Blk.newB (w : World) (xs : List Value) (e : TypeId) (ys : List Value) (e' : TypeId) : Blk ((w.alloc (.cells xs.toArray e)).alloc (.cells ys.toArray e')) (w.heap.size + 1) e' ys := by
 have h := Blk.newL (w.alloc (.cells xs.toArray e)) ys e'
 rwa [World.size_alloc] at h
theorem sameA2 (w : World) (xs : List Value) (e : TypeId) (ys : List Value) (e' : TypeId) : Same w ((w.alloc (.cells xs.toArray e)).alloc (.cells ys.toArray e')) := ((Kept.refl _ _).alloc _).alloc _
theorem new2 (w : World) (xs : List Value) (e : TypeId) (ys : List Value) (e' : TypeId) : Hid (Same w ((w.alloc (.cells xs.toArray e)).alloc (.cells ys.toArray e'))) ∧ Hid (Blk ((w.alloc (.cells xs.toArray e)).alloc (.cells ys.toArray e')) w.heap.size e xs) ∧ Hid (Blk ((w.alloc (.cells xs.toArray e)).alloc (.cells ys.toArray e')) (w.heap.size + 1) e' ys) := ⟨sameA2 w xs e ys e', Blk.newA w xs e ys e', Blk.newB w xs e ys e'⟩
theorem Blk.drew {w : World} {B : Nat} {e : TypeId} {xs : List Value} (h : Blk w B e xs) : Blk w.drew B e xs := h
theorem Blk.alloc {w : World} {B : Nat} {e : TypeId} {xs : List Value} (h : Blk w B e xs) (o : Obj) : Blk (w.alloc o) B e xs := by
 have := Below.heap_alloc w o B h.lt
 unfold Blk
 rw [this]
 exact h
theorem Blk.stored {w : World} {B : Nat} {e : TypeId} {xs : List Value} (h : Blk w B e xs) (j : Nat) (v : Value) : Blk (w.setCell ⟨B, j, none⟩ v) B e (xs.set j v) := by
 unfold Blk at h ⊢
 have hl := (Array.getElem?_eq_some_iff.1 h).1
 have hg := (Array.getElem?_eq_some_iff.1 h).2
 simp [World.setCell, hl, Array.getElem_modify, hg]
theorem Blk.other {w : World} {B : Nat} {e : TypeId} {xs : List Value} (h : Blk w B e xs) {p : Addr} (hp : p.block ≠ B) (v : Value) : Blk (w.setCell p v) B e xs := by
 unfold Blk
 rw [Below.heap_setCell _ _ _ _ (fun e => hp e.symm)]
 exact h
theorem Own.blk {w : World} {base g n : Nat} {e : TypeId} {k : IntKind} {bs : List Int} (h : Own base e k w (.slice (some ⟨g, 0, none⟩) n n) bs) : Blk w g e (vals k bs) := by
 rcases h.2 with ⟨h, _⟩ | ⟨g', cap, cur, h, _, hg, _, _, hs, ht⟩
 ·cases h
 ·cases h
  have hl : cur.toList.length = bs.length * 1 := by simpa using hs
  rw [List.take_of_length_le (by omega)] at ht
  unfold Blk
  rw [← ht]
  simpa using hg
theorem Blk.own {w : World} {g : Nat} {e : TypeId} {k : IntKind} {bs : List Int} (h : Blk w g e (vals k bs)) (hm : bs.length ≤ maxLen) : Own 0 e k w (.slice (some ⟨g, 0, none⟩) bs.length bs.length) bs :=
 ⟨by simp [vals], .inr ⟨g, bs.length, (vals k bs).toArray, rfl, Nat.zero_le _, h, Nat.le_refl _, hm, by simp [vals], by simp only [Nat.mul_one]; exact List.take_of_length_le (by simp [vals])⟩⟩
def lay (xs : List Value) (o : Nat) (vs : List Value) : List Value := xs.take o ++ (vs ++ xs.drop (o + vs.length))
theorem lay_length (xs : List Value) (o : Nat) (vs : List Value) (h : o + vs.length ≤ xs.length) : (lay xs o vs).length = xs.length := by simp [lay]; omega
theorem lay_cons (xs : List Value) (o : Nat) (v : Value) (vs : List Value) (h : o + (vs.length + 1) ≤ xs.length) : lay (xs.set o v) (o + 1) vs = lay xs o (v :: vs) := by
 have hlt : o < xs.length := by omega
 apply List.ext_getElem?
 intro j
 unfold lay
 simp only [List.getElem?_append, List.length_take, List.length_set, List.getElem?_take, List.getElem?_drop, List.length_cons]
 by_cases h1 : j < o
 ·rw [if_pos (by omega), if_pos (by omega), if_pos (by omega), if_pos h1, List.getElem?_set_ne (by omega)]
 ·by_cases h2 : j = o
  ·subst h2
   rw [if_pos (by omega), if_pos (by omega), if_neg (by omega), if_pos (by omega)]
   have e : j - min j xs.length = 0 := by omega
   simp [hlt, e]
  ·by_cases h3 : j < o + 1 + vs.length
   ·rw [if_neg (by omega), if_pos (by omega), if_neg (by omega), if_pos (by omega)]
    have e : j - min o xs.length = (j - min (o + 1) xs.length) + 1 := by omega
    rw [e, List.getElem?_cons_succ]
   ·rw [if_neg (by omega), if_neg (by omega), if_neg (by omega), if_neg (by omega), List.getElem?_set_ne (by omega)]
    congr 1
    omega
theorem lay_set (xs : List Value) (o : Nat) (v : Value) (vs : List Value) (h : o + (vs.length + 1) ≤ xs.length) : (lay xs (o + 1) vs).set o v = lay xs o (v :: vs) := by
 rw [← lay_cons xs o v vs h]
 unfold lay
 rw [List.set_append_left (h := by simp; omega), List.take_set, List.drop_set_of_lt (by omega)]
theorem lay_nil (xs : List Value) (o : Nat) : lay xs o [] = xs := by simp [lay]
theorem lay_all (xs vs : List Value) (h : vs.length = xs.length) : lay xs 0 vs = vs := by simp [lay, h]
section
variable {P : Program} {ops : Array Oper} {Q : Exit → Act → World → Prop} {md : Region.Mode} {S : World → Prop} {s : Nat}
def wpAnyV (P : Program) (md : Region.Mode) (ops : Array Oper) (Q : Exit → Act → World → Prop) (S : World → Prop) (s : Nat) : Nat → Array Bool → Act → World → Prop
 | 0, listed, a, w => Region.ready md ops listed = [] ∧ Q .normal a w
 | fuel + 1, listed, a, w =>
  (Region.ready md ops listed = [] → Q .normal a w) ∧
  ∀ i ∈ Region.ready md ops listed, wpOp P ops Q i (fun a' w' => (i ≠ s → S w') ∧ wpAnyV P md ops Q S s fuel (listed.setIfInBounds i true) a' w') a w
theorem wpAny_of_V : ∀ (fuel : Nat) (listed : Array Bool) (a : Act) (w : World), wpAnyV P md ops Q S s fuel listed a w → wpAny P md ops Q fuel listed a w
 | 0, _, _, _, h => h
 | fuel + 1, _, _, _, h => ⟨h.1, fun i hi => wpOp_mono (fun a' w' h' => wpAny_of_V fuel _ a' w' h'.2) (h.2 i hi)⟩
def waits (md : Region.Mode) (ops : Array Oper) (s i : Nat) : Bool :=
 match ops[s]? with
 | some o => o.after.any fun e => Region.binds md e && e.on == i
 | none => true
theorem waits_spec {i : Nat} (h : waits md ops s i = true) {os : Oper} (ho : ops[s]? = some os) (hn : ∀ e ∈ os.after, Region.binds md e = true → e.on ≠ i) : False := by
 unfold waits at h
 rw [ho] at h
 obtain ⟨e, he, hb⟩ := Array.any_eq_true'.1 h
 simp only [Bool.and_eq_true, beq_iff_eq] at hb
 exact hn e he hb.1 hb.2
theorem ready_apart {listed : Array Bool} {i j : Nat} (hi : i ∈ Region.ready md ops listed) (hj : j ∈ Region.ready md ops listed) {oj : Oper} (hoj : ops[j]? = some oj) :
  ∀ e ∈ oj.after, Region.binds md e = true → e.on ≠ i := by
 rintro e he hb rfl
 obtain ⟨_, o, ho, hall⟩ := mem_ready.1 hj
 obtain rfl : o = oj := by rw [hoj] at ho; exact (Option.some.inj ho).symm
 have hyes := hall e he hb
 have hno := (mem_ready.1 hi).1
 by_cases hl : e.on < listed.size <;> simp_all
def Loose (md : Region.Mode) (ops : Array Oper) (i : Nat) (oi : Oper) (listed : Array Bool) : Prop :=
 ∀ j oj, ops[j]? = some oj → j ≠ i → listed.getD j true = false → (∀ e ∈ oj.after, Region.binds md e = true → e.on ≠ i) → oi.apart ops oj = true
theorem Loose.on {i j : Nat} {oi : Oper} {listed : Array Bool} (h : Loose md ops i oi listed) (hj : listed.getD j true = false) : Loose md ops i oi (listed.setIfInBounds j true) := fun k ok hk hki hun hno =>
 h k ok hk hki (if e : j = k then e ▸ hj else (getD_set_ne true e) ▸ hun) hno
theorem wpAnyV_first {i : Nat} {oi : Oper} {v : Value} (hi : ops[i]? = some oi) (hsel : ∀ (j : Nat) (o : Oper) cs b, ops[j]? = some o → o.op ≠ .select cs b) (hs : waits md ops s i = true)
  (hQ : ∀ c a w, Q (.panic c) (a.put oi.dst v) w → Q (.panic c) a w) (fuel : Nat) : ∀ (listed : Array Bool) (a : Act) (w : World), Loose md ops i oi listed → i ∈ Region.ready md ops listed → YieldsIf P ops S oi v a → S w →
   wpAnyV P md ops Q S s fuel (listed.setIfInBounds i true) (a.put oi.dst v) w → wpAnyV P md ops Q S s (fuel + 1) listed a w := by
 induction fuel with
 | zero =>
  intro listed a w _ hr hy hS H
  constructor
  ·intro h0; simp [h0] at hr
  ·intro j hj
   by_cases e : j = i
   ·exact e ▸ hy.wpOp hi hS ⟨fun _ => hS, H⟩
   ·have := ready_mono hj e
    simp [H.1] at this
 | succ fuel ih =>
  intro listed a w hl hr hy hS H
  constructor
  ·intro h0; simp [h0] at hr
  ·intro j hj
   by_cases e : j = i
   ·exact e ▸ hy.wpOp hi hS ⟨fun _ => hS, H⟩
   ·obtain ⟨hun, oj, hoj, _⟩ := mem_ready.1 hj
    have hap := ready_apart hr hj hoj
    have hjs : j ≠ s := fun es => waits_spec hs (es ▸ hoj) hap
    refine wpOp_mono ?_ (wpOp_putIf hoj (hl j oj hoj e hun hap) (fun cs b => hsel i oi cs b hi) (fun cs b => hsel j oj cs b hoj) hQ hy (H.2 j (ready_mono hj e)))
    rintro a' w' ⟨hy', hS', hw'⟩
    exact ⟨hS', ih _ a' w' (hl.on hun) (ready_mono hr (Ne.symm e)) hy' (hS' hjs) (by rw [Array.setIfInBounds_comm _ _ e]; exact hw')⟩
theorem wpAnyV_take {i : Nat} {oi : Oper} {v : Value} {fuel : Nat} {listed : Array Bool} {a : Act} {w : World} (d : Option Tmp) (hi : ops[i]? = some oi) (hd : oi.dst = d)
  (hsl : Region.noSelect ops = true) (hf : Region.free md ops listed i = true) (hr : (Region.ready md ops listed).contains i = true) (hs : waits md ops s i = true)
  (hQ : ∀ c a w, Q (.panic c) (a.put d v) w → Q (.panic c) a w) (hy : YieldsIf P ops S oi v a) (hS : S w)
  (h : wpAnyV P md ops Q S s fuel (listed.setIfInBounds i true) (a.put d v) w) : wpAnyV P md ops Q S s (fuel + 1) listed a w := by
 subst hd
 exact wpAnyV_first hi (Region.noSelect_spec hsl) hs hQ fuel listed a w (Region.free_spec hi hf) (by simpa using hr) hy hS h
theorem sA {α : Type} {l : List α} {i : Nat} {a : α} : l.toArray.setIfInBounds i a = (l.set i a).toArray := List.setIfInBounds_toArray ..
theorem s0 {α : Type} {x : α} {xs : List α} {a : α} : (x :: xs).set 0 a = a :: xs := List.set_cons_zero
theorem sS {α : Type} {x : α} {xs : List α} {i : Nat} {a : α} : (x :: xs).set (i + 1) a = x :: xs.set i a := List.set_cons_succ
theorem tk (i d : Nat) {oi : Oper} {v : Value} {fuel : Nat} {listed : Array Bool} {a a' : Act} {w : World} (hS : S w)
  (h : wpAnyV P md ops Q S s fuel (listed.setIfInBounds i true) a' w) (hi : ops[i]? = some oi := by rfl) (hg : Region.wanted oi (yielded ops a.tmps) = true := by rfl) (hd : oi.dst = some d := by rfl)
  (hy : ∀ w, S w → (execOp a.eval oi).run P w = .ok (.value v) w := by intro w hSw; (try dsimp (config := { zetaDelta := true }) only at hSw); go_simp; (try with_reducible rfl))
  (hsl : Region.noSelect ops = true := by kernel_rfl) (hf : Region.free md ops listed i = true := by kernel_rfl) (hr : (Region.ready md ops listed).contains i = true := by kernel_rfl) (hs : waits md ops s i = true := by kernel_rfl)
  (hQ : ∀ c a w, Q (.panic c) (a.put (some d) v) w → Q (.panic c) a w := by exact fun _ _ _ h => h)
  (ha : a.put (some d) v = a' := by first | (simp only [Act.put, sA, s0, sS]; done) | (simp only [Act.put, sA, s0, sS]; rfl) | rfl) : wpAnyV P md ops Q S s (fuel + 1) listed a w :=
 wpAnyV_take (some d) hi hd hsl hf hr hs hQ (Or.inl ⟨hg, hy⟩) hS (ha ▸ h)
theorem tkV (i d : Nat) (v : Value) {oi : Oper} {fuel : Nat} {listed : Array Bool} {a a' : Act} {w : World} (hS : S w)
  (h : wpAnyV P md ops Q S s fuel (listed.setIfInBounds i true) a' w) (hi : ops[i]? = some oi := by rfl) (hg : Region.wanted oi (yielded ops a.tmps) = true := by rfl) (hd : oi.dst = some d := by rfl)
  (hy : ∀ w, S w → (execOp a.eval oi).run P w = .ok (.value v) w := by intro w hSw; (try dsimp (config := { zetaDelta := true }) only at hSw); go_simp; (try omega))
  (hsl : Region.noSelect ops = true := by kernel_rfl) (hf : Region.free md ops listed i = true := by kernel_rfl) (hr : (Region.ready md ops listed).contains i = true := by kernel_rfl) (hs : waits md ops s i = true := by kernel_rfl)
  (hQ : ∀ c a w, Q (.panic c) (a.put (some d) v) w → Q (.panic c) a w := by exact fun _ _ _ h => h)
  (ha : a.put (some d) v = a' := by first | (simp only [Act.put, sA, s0, sS]; done) | (simp only [Act.put, sA, s0, sS]; rfl) | rfl) : wpAnyV P md ops Q S s (fuel + 1) listed a w :=
 wpAnyV_take (some d) hi hd hsl hf hr hs hQ (Or.inl ⟨hg, hy⟩) hS (ha ▸ h)
theorem tkS (i d : Nat) {oi : Oper} {fuel : Nat} {listed : Array Bool} {a a' : Act} {w : World} (hS : S w)
  (h : wpAnyV P md ops Q S s fuel (listed.setIfInBounds i true) a' w) (hi : ops[i]? = some oi := by rfl) (hg : Region.wanted oi (yielded ops a.tmps) = false := by rfl) (hd : oi.dst = some d := by rfl)
  (hsl : Region.noSelect ops = true := by kernel_rfl) (hf : Region.free md ops listed i = true := by kernel_rfl) (hr : (Region.ready md ops listed).contains i = true := by kernel_rfl) (hs : waits md ops s i = true := by kernel_rfl)
  (hQ : ∀ c a w, Q (.panic c) (a.put (some d) undef) w → Q (.panic c) a w := by exact fun _ _ _ h => h)
  (ha : a.put (some d) undef = a' := by first | (simp only [Act.put, sA, s0, sS]; done) | (simp only [Act.put, sA, s0, sS]; rfl) | rfl) : wpAnyV P md ops Q S s (fuel + 1) listed a w :=
 wpAnyV_take (some d) hi hd hsl hf hr hs hQ (Or.inr ⟨hg, rfl⟩) hS (ha ▸ h)
theorem wpAnyV_one {i : Nat} {o : Oper} {fuel : Nat} {listed : Array Bool} {a : Act} {w : World} (hr : Region.ready md ops listed = [i]) (ho : ops[i]? = some o)
  (h : ∀ K' : Act → World → Prop, Shut (∀ a w, (i ≠ s → S w) → wpAnyV P md ops Q S s fuel (listed.setIfInBounds i true) a w → K' a w) → if Region.wanted o (yielded ops a.tmps) = true then Oper.wp P o a w K' Q else K' (a.put o.dst undef) w) :
  wpAnyV P md ops Q S s (fuel + 1) listed a w := by
 constructor
 ·intro h0; simp [hr] at h0
 ·intro j hj
  rw [hr] at hj
  obtain rfl : j = i := by simpa using hj
  exact wpOp_step ho (fun K' hK => h K' (fun a w hS hW => hK a w ⟨hS, hW⟩))
theorem wpAnyV_two {i j : Nat} {o o' : Oper} {fuel : Nat} {listed : Array Bool} {a : Act} {w : World} (hr : Region.ready md ops listed = [i, j]) (ho : ops[i]? = some o) (ho' : ops[j]? = some o')
  (h : ∀ K' : Act → World → Prop, Shut (∀ a w, (i ≠ s → S w) → wpAnyV P md ops Q S s fuel (listed.setIfInBounds i true) a w → K' a w) → if Region.wanted o (yielded ops a.tmps) = true then Oper.wp P o a w K' Q else K' (a.put o.dst undef) w)
  (h' : ∀ K' : Act → World → Prop, Shut (∀ a w, (j ≠ s → S w) → wpAnyV P md ops Q S s fuel (listed.setIfInBounds j true) a w → K' a w) → if Region.wanted o' (yielded ops a.tmps) = true then Oper.wp P o' a w K' Q else K' (a.put o'.dst undef) w) :
  wpAnyV P md ops Q S s (fuel + 1) listed a w := by
 constructor
 ·intro h0; simp [hr] at h0
 ·intro k hk
  rw [hr] at hk
  simp only [List.mem_cons, List.not_mem_nil, or_false] at hk
  rcases hk with rfl | rfl
  ·exact wpOp_step ho (fun K' hK => h K' (fun a w hS hW => hK a w ⟨hS, hW⟩))
  ·exact wpOp_step ho' (fun K' hK => h' K' (fun a w hS hW => hK a w ⟨hS, hW⟩))
theorem wpAnyV_done {fuel : Nat} {listed : Array Bool} {a : Act} {w : World} (hr : Region.ready md ops listed = []) (h : Q .normal a w) : wpAnyV P md ops Q S s fuel listed a w := by
 cases fuel with
 | zero => exact ⟨hr, h⟩
 | succ n => exact ⟨fun _ => h, by rw [hr]; simp⟩
theorem wp_region_V {id : Nat} {a : Act} {w : World} (S : World → Prop) (s n : Nat) (hn : ops.size = n) (hm : P.follows .mixedOrders = true) (h : wpAnyV P .any ops Q S s n (Array.replicate n false) a w.drew) : (Code.region id ops true).wp P Q a w := by
 subst hn
 exact wp_region_any hm (wpAny_of_V _ _ _ _ h)
end
def minLog (p : Int) : Int := if inB p 1 16 = true then 9 * p + 24 else -1
def geoF (p f l : Int) : Int := if inB p 1 16 = false then 1 else if inB f 3 16 = false then 2 else if inB l (minLog p) 800 = false then 3 else 0
theorem inB_yes {v a b : Int} (h : inB v a b = true) : a ≤ v ∧ v ≤ b := by simpa [inB] using h
theorem specMinLog_any (p : Int) (w : World) : Calls Tryz.prog 58 #[.int .i64 p] w fun e w' => e = .returned (.int .i64 (minLog p)) ∧ Same w w' := by
 have k1 := fun wx => l4In_any p 1 16 wx
 unfold minLog
 cases h : inB p 1 16 with
 | false =>
  rw [h] at k1
  go_enter Tryz.func58, Tryz.ntmps58
  go_wp2_with fail
  refine (k1 _).mono ?_
  rintro e w1 ⟨rfl, hk1⟩
  go_wp2
  go_ret
  exact ⟨rfl, hk1⟩
 | true =>
  rw [h] at k1
  obtain ⟨h1, h2⟩ := inB_yes h
  have hw1 : IntKind.i64.wrap (9 * p) = 9 * p := by rw [IntKind.wrap_i64]; omega
  have hw2 : IntKind.i64.wrap (9 * p + 24) = 9 * p + 24 := by rw [IntKind.wrap_i64]; omega
  go_enter Tryz.func58, Tryz.ntmps58
  go_wp2_with fail
  refine (k1 _).mono ?_
  rintro e w1 ⟨rfl, hk1⟩
  go_wp2
  go_ret
  exact ⟨by first | rfl | trivial, hk1⟩
theorem specGeo_any (p f l : Int) (w : World) : Calls Tryz.prog 34 #[.agg #[.int .i64 p, .int .i64 f, .int .i64 l]] w fun e w' => e = .returned (.int .i64 (geoF p f l)) ∧ Same w w' := by
 have HK0 := hid (sameA w [.int .i64 p, .int .i64 f, .int .i64 l] 37)
 have b0 := Blk.newL w [.int .i64 p, .int .i64 f, .int .i64 l] 37
 have k1 := fun wx => l4In_any p 1 16 wx
 have k2 := fun wx => l4In_any f 3 16 wx
 have k3 := fun wx => specMinLog_any p wx
 have k4 := fun wx => l4In_any l (minLog p) 800 wx
 unfold geoF
 generalize minLog p = ml at k3 k4 ⊢
 cases h1 : inB p 1 16 with
 | false =>
  rw [h1] at k1
  go_enter Tryz.func34, Tryz.ntmps34
  go_wp2_with fail
  refine (k1 _).mono ?_
  rintro e w1 ⟨rfl, hk1⟩
  go_wp2
  go_ret
  exact ⟨rfl, HK0.out.trans hk1⟩
 | true =>
  rw [h1] at k1
  go_enter Tryz.func34, Tryz.ntmps34
  go_wp2_with fail
  refine (k1 _).mono ?_
  rintro e w1 ⟨rfl, hk1⟩
  have b1 := b0.same hk1
  have HK1 := hid (HK0.out.trans hk1)
  obtain ⟨c0, c1, c2⟩ := b1.all3
  clear hk1
  cases h2 : inB f 3 16 with
  | false =>
   rw [h2] at k2
   go_wp2_with fail
   refine (k2 _).mono ?_
   rintro e w2 ⟨rfl, hk2⟩
   have HK2 := hid (HK1.out.trans hk2)
   go_wp2
   go_ret
   exact ⟨rfl, HK2.out⟩
  | true =>
   rw [h2] at k2
   go_wp2_with fail
   refine (k2 _).mono ?_
   rintro e w2 ⟨rfl, hk2⟩
   have b2 := b1.same hk2
   have HK2 := hid (HK1.out.trans hk2)
   obtain ⟨d0, d1, d2⟩ := b2.all3
   clear hk2
   let Y1 : World → Prop := fun wx : World => wx.cell? ⟨w.heap.size, 0, none⟩ = some (.int .i64 p) ∧ wx.cell? ⟨w.heap.size, 2, none⟩ = some (.int .i64 l)
   have hS : Y1 w2.drew := ⟨d0, d2⟩
   go_wp2_with fail
   refine wp_region_V Y1 99 7 rfl (by kernel_rfl) ?_
   refine tk 0 11 hS ?_
   refine tk 1 12 hS ?_
   refine tk 2 13 hS ?_
   refine tk 3 14 hS ?_
   refine wpAnyV_one (i := 4) (by kernel_rfl) rfl (fun K hK => ?_)
   go_simp
   refine (k3 _).mono ?_
   rintro e w3 ⟨rfl, hk3⟩
   have HK23 : Hid (Same w2 w3) := (Kept.refl _ _).drew.trans hk3
   have HK3 := hid (HK2.out.trans HK23.out)
   have hS : Y1 w3 := ⟨HK23.out.cellOf d0 id, HK23.out.cellOf d2 id⟩
   go_wp2_with fail
   refine hK.out _ _ (fun _ => hS) ?_
   clear hK K hk3
   try simp only [Act.put, sA, s0, sS]
   refine wpAnyV_one (i := 5) (by kernel_rfl) rfl (fun K hK => ?_)
   go_simp
   refine (k4 _).mono ?_
   rintro e w4 ⟨rfl, hk4⟩
   have HK4 := hid (HK3.out.trans hk4)
   have hS : Y1 w4 := ⟨hk4.cellOf hS.1 id, hk4.cellOf hS.2 id⟩
   go_wp2_with fail
   refine hK.out _ _ (fun _ => hS) ?_
   clear hK K hk4
   try simp only [Act.put, sA, s0, sS]
   refine tk 6 17 hS ?_
   refine wpAnyV_done (by kernel_rfl) ?_
   cases h3 : inB l ml 800 with
   | false =>
    go_wp2
    go_ret
    exact ⟨rfl, HK4.out⟩
   | true =>
    go_wp2
    go_ret
    exact ⟨rfl, HK4.out⟩
structure Row where
 e : TypeId
 m : Nat
 v : Value
 n : Nat
 xs : List Value
def FootL (rs : List Row) (b : Nat) : Prop := ∃ r ∈ rs, r.v.ownBlock = some b
structure OwnL (w : World) (rs : List Row) : Prop where
 own : ∀ r ∈ rs, w.ownsRow 0 r.e r.m r.v r.n r.xs
 apart : rs.Pairwise (fun r s => Apart r.v s.v)
theorem OwnL.kept {R : Nat → Prop} {w w' : World} {rs : List Row} (h : OwnL w rs) (hk : Kept R w w') (hr : ∀ b, FootL rs b → ¬ R b) : OwnL w' rs :=
 ⟨fun r hm => hk.owns (h.own r hm) (fun b hb => hr b ⟨r, hm, hb⟩), h.apart⟩
theorem OwnL.same {w w' : World} {rs : List Row} (h : OwnL w rs) (hk : Same w w') : OwnL w' rs := h.kept hk (fun _ _ => id)
theorem OwnL.lt {w : World} {rs : List Row} (h : OwnL w rs) (b : Nat) (hb : FootL rs b) : b < w.heap.size := by
 obtain ⟨r, hm, hr⟩ := hb
 exact (World.ownsRow.lt (h.own r hm) b hr).2
theorem OwnL.nil (w : World) : OwnL w [] := ⟨fun r hr => absurd hr (by simp), List.Pairwise.nil⟩
theorem FootL_one (r : Row) (b : Nat) : FootL [r] b ↔ r.v.ownBlock = some b := by simp [FootL]
theorem OwnL.append {w : World} {rs ss : List Row} (h : OwnL w rs) (h' : OwnL w ss) (hd : ∀ b, FootL rs b → ¬ FootL ss b) : OwnL w (rs ++ ss) := by
 refine ⟨fun r hr => ?_, List.pairwise_append.2 ⟨h.apart, h'.apart, fun r hr s hs b hb hs' => hd b ⟨r, hr, hb⟩ ⟨s, hs, hs'⟩⟩⟩
 rcases List.mem_append.1 hr with hr | hr
 ·exact h.own r hr
 ·exact h'.own r hr
theorem OwnL.left {w : World} {rs ss : List Row} (h : OwnL w (rs ++ ss)) : OwnL w rs := ⟨fun r hr => h.own r (List.mem_append_left _ hr), (List.pairwise_append.1 h.apart).1⟩
theorem OwnL.right {w : World} {rs ss : List Row} (h : OwnL w (rs ++ ss)) : OwnL w ss := ⟨fun r hr => h.own r (List.mem_append_right _ hr), (List.pairwise_append.1 h.apart).2.1⟩
theorem OwnL.cut {w : World} {rs ss : List Row} (h : OwnL w (rs ++ ss)) (b : Nat) (hr : FootL rs b) : ¬ FootL ss b := by
 obtain ⟨r, hm, hb⟩ := hr
 rintro ⟨s, hs, hb'⟩
 exact (List.pairwise_append.1 h.apart).2.2 r hm s hs b hb hb'
def ints (e : TypeId) (k : IntKind) (v : Value) (bs : List Int) : Row := ⟨e, 1, v, bs.length, vals k bs⟩
theorem OwnL.one {w : World} {e : TypeId} {k : IntKind} {v : Value} {bs : List Int} (h : Own 0 e k w v bs) : OwnL w [ints e k v bs] :=
 ⟨fun r hr => by rw [List.mem_singleton.1 hr]; exact h, List.pairwise_singleton _ _⟩
theorem footL_ints (e : TypeId) (k : IntKind) (v : Value) (bs : List Int) (b : Nat) : FootL [ints e k v bs] b ↔ v.ownBlock = some b := FootL_one _ _
structure BS where
 e : TypeId
 a : Option Addr
 c : Nat
 bs : List Int
def BS.v (x : BS) : Value := .slice x.a x.bs.length x.c
def BS.rows (x : BS) : List Row := [ints x.e .u8 x.v x.bs]
def BS.marked (x : BS) (k : Int) : BS := ⟨x.e, x.a, x.c, marks k x.bs.length⟩
structure FR where
 e : TypeId
 a : Option Addr
 n : Nat
 c : Nat
 bs : List Int
def FR.v (x : FR) : Value := .slice x.a x.n x.c
def FR.rows (m : Nat) (x : FR) : List Row := [⟨x.e, m, x.v, x.n, vals .i64 x.bs⟩]
def marksI (k : Int) (n : Nat) : List Int := (List.range n).map fun (i : Nat) => k + (i : Int)
def FR.marked (x : FR) (k : Int) : FR := ⟨x.e, x.a, x.n, x.c, marksI k x.bs.length⟩
theorem Tryz.infoByte' : (Tryz.prog.info? 5).map (fun i => (i.zero, i.size, i.bytes)) = some (some (.int .u8 0), 1, 1) := by kernel_rfl
def fillUp (bs : List Int) (k : Nat) : List Int := bs.take k ++ List.replicate (bs.length - k) 0
theorem fillUp_length (bs : List Int) (k : Nat) (h : k ≤ bs.length) : (fillUp bs k).length = bs.length := by simp [fillUp]; omega
theorem fillUp_zero (bs : List Int) : fillUp bs 0 = List.replicate bs.length 0 := by simp [fillUp]
theorem fillUp_all (bs : List Int) : fillUp bs bs.length = bs := by simp [fillUp]
theorem fillUp_step (bs : List Int) (k : Nat) (h : k < bs.length) : (fillUp bs k).set k (bs.getD k 0) = fillUp bs (k + 1) := by
 unfold fillUp
 have e : bs.length - k = (bs.length - (k + 1)) + 1 := by omega
 have e2 : bs.getD k 0 = bs[k] := by simp [h, List.getD]
 rw [e2, List.set_append_right (h := by simp; omega), List.length_take, Nat.min_eq_left (Nat.le_of_lt h), Nat.sub_self, e, List.replicate_succ, List.set_cons_zero, List.take_succ_eq_append_getElem h, List.append_assoc]
 rfl
theorem toByteS_any (v : Value) (bs : List Int) (w : World) (hn : bs.length ≤ 1099511627776) (hv : Rd .u8 w v bs) :
  Calls Tryz.prog 22 #[v] w fun e w' => ∃ g, e = .returned (.slice (some ⟨g, 0, none⟩) bs.length bs.length) ∧ w.heap.size ≤ g ∧ Own 0 5 .u8 w' (.slice (some ⟨g, 0, none⟩) bs.length bs.length) bs ∧ Same w w' := by
 obtain ⟨i0, hi, hz0, hz1, hz2⟩ := info_parts Tryz.infoByte'
 rcases hv.2 with ⟨rfl, a, c, rfl, _⟩ | ⟨b, off, c, rfl, _, hc⟩
 ·clear hv hn
  go_enter Tryz.func22, Tryz.ntmps22
  go_wp2_with (at_make; refine wpList_make_full _ rfl (.tmp 6) (.tmp 6) 22 rfl 0 5 i0 (.int .u8 0) 1 Tryz.underlying22 hi hz0 hz1 .i64 .i64 _ _ 0 rfl rfl (by simp) (by simp) (by simp) (by simp) (Nat.zero_le _) ?_; intro w1 hown1 hgrow1; have HO : Hid (Own 0 5 .u8 w1 (.slice (some ⟨w.heap.size, 0, none⟩) 0 0) []) := own_made (n := 0) (by simpa using hown1); have HK : Hid (Same w w1) := Kept.of_grown hgrow1 (fun k e => by cases e); clear hown1 hgrow1)
  refine wp_loop_rounds 1 ?_
  rw [rounds_succ]
  go_wp2
  go_ret
  exact ⟨w.heap.size, rfl, Nat.le_refl _, HO.out, HK.out⟩
 ·have HC : Hid (∀ i, i < bs.length → w.cell? ⟨b, off + i, none⟩ = some (.int .u8 (bs.getD i 0))) := hc
  clear hc hv
  generalize hl : bs.length = len at hn ⊢
  have HL : Hid (bs.length = len) := hl
  clear hl
  go_enter Tryz.func22, Tryz.ntmps22
  go_wp2_with (at_make; refine wpList_make_full _ rfl (.tmp 6) (.tmp 6) 22 rfl 0 5 i0 (.int .u8 0) 1 Tryz.underlying22 hi hz0 hz1 .i64 .i64 _ _ len rfl rfl (by simp) (by simp) (by rw [hz2]; omega) (by unfold maxLen; omega) (Nat.zero_le _) ?_; intro w1 hown1 hgrow1; have HO : Hid (Own 0 5 .u8 w1 (.slice (some ⟨w.heap.size, 0, none⟩) len len) (List.replicate len 0)) := own_made (by simpa using hown1); have HK : Hid (Same w w1) := Kept.of_grown hgrow1 (fun k e => by cases e); clear hown1 hgrow1)
  go_loopw [4] (fun i wr => ∃ (k : Nat), k ≤ len ∧ i = .int .i64 k ∧ Hid (Own 0 5 .u8 wr (.slice (some ⟨w.heap.size, 0, none⟩) len len) (fillUp bs k)) ∧ Hid (Same w wr)) (fun i _ => len - (intOf i).toNat)
  case atStart => exact ⟨0, Nat.zero_le _, rfl, by rw [fillUp_zero, HL.out]; exact HO, HK⟩
  case round =>
   obtain ⟨k, hk, rfl, HOr, HKr⟩ := hrel
   by_cases hlt : k < len
   ·have hlp : k < bs.length := by rw [HL.out]; exact hlt
    have q1 := HKr.out.cellOf (HC.out k hlp) id
    have q2 := HOr.out.frozen (by rw [fillUp_length _ _ (by have := HL.out; omega)]; exact HL.out.symm) k
    have q3 := HOr.out.cell (by rw [fillUp_length _ _ (by have := HL.out; omega)]; exact HL.out.symm) k hlt
    go_wp2
    go_roundw
    case rel =>
     have h := HOr.out.stored (by rw [fillUp_length _ _ (by have := HL.out; omega)]; exact HL.out.symm) k (bs.getD k 0)
     rw [fillUp_step _ _ hlp] at h
     refine ⟨k + 1, by omega, by go_num, ?_, ?_⟩
     ·simpa [hlp, List.getD, Hid] using h
     ·exact HKr.out.setCell (.inl (Nat.le_refl _)) _
    case measure => simp [intOf]; omega
   ·go_wp2
    go_ret
    obtain rfl : k = len := by omega
    have h := HOr.out
    have h2 := HL.out
    rw [← h2, fillUp_all, h2] at h
    exact ⟨w.heap.size, rfl, Nat.le_refl _, h, HKr.out⟩
def RdF (m : Nat) (w : World) (x : FR) : Prop :=
 x.n ≤ maxLen ∧ x.bs.length = x.n * m ∧ (x.n = 0 ∨ ∃ b off, x.a = some ⟨b, off, none⟩ ∧ x.n ≤ x.c ∧ ∀ i, i < x.n * m → w.cell? ⟨b, off + i, none⟩ = some (.int .i64 (x.bs.getD i 0)))
theorem RdF.kept {R : Nat → Prop} {m : Nat} {w w' : World} {x : FR} (h : RdF m w x) (hk : Kept R w w') (hr : ∀ b, x.v.ownBlock = some b → ¬ R b) : RdF m w' x := by
 refine ⟨h.1, h.2.1, ?_⟩
 rcases h.2.2 with h | ⟨b, off, he, hle, hc⟩
 ·exact .inl h
 ·exact .inr ⟨b, off, he, hle, fun i hi => hk.cellOf (hc i hi) (hr b (by simp [FR.v, he, Value.ownBlock]))⟩
theorem RdF.same {m : Nat} {w w' : World} {x : FR} (h : RdF m w x) (hk : Same w w') : RdF m w' x := h.kept hk (fun _ _ => id)
def OwnF (m : Nat) (e : TypeId) (w : World) (g n c : Nat) (bs : List Int) : Prop := w.ownsRow 0 e m (.slice (some ⟨g, 0, none⟩) n c) n (vals .i64 bs)
theorem OwnF.cell {m : Nat} {e : TypeId} {w : World} {g n c : Nat} {bs : List Int} (h : OwnF m e w g n c bs) (j : Nat) (hj : j < n * m) : w.cell? ⟨g, j, none⟩ = some (.int .i64 (bs.getD j 0)) := by
 have h1 := h.1
 rw [vals_length] at h1
 rw [World.ownsRow.cellAt h j hj, vals_at .i64 bs j (by omega)]
theorem OwnF.frozen {m : Nat} {e : TypeId} {w : World} {g n c : Nat} {bs : List Int} (h : OwnF m e w g n c bs) (j : Nat) : w.frozen? ⟨g, j, none⟩ = false := World.ownsRow.frozenAt h j
theorem OwnF.stored {m : Nat} {e : TypeId} {w : World} {g n c : Nat} {bs : List Int} (h : OwnF m e w g n c bs) (j : Nat) (x : Int) : OwnF m e (w.setCell ⟨g, j, none⟩ (.int .i64 x)) g n c (bs.set j x) := by
 have := (World.ownsRow.stored h j (.int .i64 x)).1
 unfold OwnF
 have e : vals .i64 (bs.set j x) = (vals .i64 bs).set j (.int .i64 x) := by simp [vals]
 rw [e]
 exact this
theorem OwnF.same {m : Nat} {e : TypeId} {w w' : World} {g n c : Nat} {bs : List Int} (h : OwnF m e w g n c bs) (hk : Same w w') : OwnF m e w' g n c bs := hk.owns h (fun _ _ => id)
theorem OwnF.out {m : Nat} {e : TypeId} {w : World} {g n c : Nat} {bs : List Int} (h : OwnF m e w g n c bs) : OwnL w (FR.rows m ⟨e, some ⟨g, 0, none⟩, n, c, bs⟩) :=
 ⟨fun r hr => by rw [List.mem_singleton.1 hr]; exact h, List.pairwise_singleton _ _⟩
theorem RdF.some {m : Nat} {w : World} {x : FR} (h : RdF m w x) (h0 : 0 < x.n) : ∃ b off, x.a = some ⟨b, off, none⟩ ∧ x.n ≤ x.c := by
 rcases h.2.2 with h1 | ⟨b, off, he, hle, _⟩
 ·omega
 ·exact ⟨b, off, he, hle⟩
theorem Rd.at {w : World} {a : Option Addr} {n c : Nat} {zs : List Int} (h : Rd .i64 w (.slice a n c) zs) {k : Nat} (hk : k < zs.length) : ∃ b off, a = some ⟨b, off, none⟩ ∧ w.cell? ⟨b, off + k, none⟩ = some (.int .i64 (zs.getD k 0)) := by
 rcases h.2 with ⟨hnil, _⟩ | ⟨b, off, c', h, _, hc⟩
 ·rw [hnil] at hk; simp at hk
 ·cases h; exact ⟨b, off, rfl, hc k hk⟩
theorem pageCount_any (x : Int) (w : World) : Calls Tryz.prog 75 #[.int .i64 x] w fun e w' => e = .returned (.bool (inB x 1 16)) ∧ w' = w := by
 unfold inB
 by_cases h : 1 ≤ x
 ·by_cases h2 : x ≤ 16
  ·go_enter Tryz.func75, Tryz.ntmps75
   go_wp2
   go_ret
   exact ⟨by simp [h, h2], rfl⟩
  ·go_enter Tryz.func75, Tryz.ntmps75
   go_wp2
   go_ret
   exact ⟨by simp [h]; try omega, rfl⟩
 ·go_enter Tryz.func75, Tryz.ntmps75
  go_wp2
  go_ret
  exact ⟨by rw [show decide (1 ≤ x) = false from by simp; omega]; rfl, rfl⟩
theorem implMinLog_any (p : Int) (w : World) : Calls Tryz.prog 76 #[.int .i64 p] w fun e w' => e = .returned (.int .i64 (minLog p)) ∧ Same w w' := by
 have k1 := fun wx => pageCount_any p wx
 unfold minLog
 cases h : inB p 1 16 with
 | false =>
  rw [h] at k1
  go_enter Tryz.func76, Tryz.ntmps76
  go_wp2_with fail
  refine (k1 _).mono ?_
  rintro e w1 ⟨rfl, rfl⟩
  go_wp2
  go_ret
  exact ⟨rfl, Kept.refl _ _⟩
 | true =>
  rw [h] at k1
  obtain ⟨h1, h2⟩ := inB_yes h
  have hw1 : IntKind.i64.wrap (9 * p) = 9 * p := by rw [IntKind.wrap_i64]; omega
  have hw2 : IntKind.i64.wrap (9 * p + 24) = 9 * p + 24 := by rw [IntKind.wrap_i64]; omega
  go_enter Tryz.func76, Tryz.ntmps76
  go_wp2_with fail
  refine (k1 _).mono ?_
  rintro e w1 ⟨rfl, rfl⟩
  go_wp2
  go_ret
  exact ⟨by first | rfl | trivial, Kept.refl _ _⟩
theorem implGeo_any (p f l : Int) (w : World) : Calls Tryz.prog 64 #[.agg #[.int .i64 p, .int .i64 f, .int .i64 l]] w fun e w' => e = .returned (.int .i64 (geoF p f l)) ∧ Same w w' := by
 have HK0 := hid (sameA w [.int .i64 p, .int .i64 f, .int .i64 l] 37)
 have b0 := Blk.newL w [.int .i64 p, .int .i64 f, .int .i64 l] 37
 have k1 := fun wx => pageCount_any p wx
 have k3 := fun wx => implMinLog_any p wx
 obtain ⟨R, hR⟩ : ∃ R, geoF p f l = R := ⟨_, rfl⟩
 rw [hR]
 unfold geoF at hR
 generalize minLog p = ml at k3 hR
 cases h1 : inB p 1 16 with
 | false =>
  rw [h1] at k1 hR
  rw [if_pos rfl] at hR
  subst hR
  go_enter Tryz.func64, Tryz.ntmps64
  go_wp2_with fail
  refine (k1 _).mono ?_
  rintro e w1 ⟨rfl, rfl⟩
  go_wp2
  go_ret
  exact ⟨rfl, HK0.out⟩
 | true =>
  rw [h1] at k1 hR
  rw [if_neg (by simp)] at hR
  obtain ⟨c0, c1, c2⟩ := b0.all3
  by_cases h2 : f < 3
  ·rw [if_pos (by simp [inB]; omega)] at hR
   subst hR
   go_enter Tryz.func64, Tryz.ntmps64
   go_wp2_with fail
   refine (k1 _).mono ?_
   rintro e w1 ⟨rfl, rfl⟩
   go_wp2
   go_ret
   exact ⟨rfl, HK0.out⟩
  by_cases h3 : 16 < f
  ·rw [if_pos (by simp [inB]; omega)] at hR
   subst hR
   go_enter Tryz.func64, Tryz.ntmps64
   go_wp2_with fail
   refine (k1 _).mono ?_
   rintro e w1 ⟨rfl, rfl⟩
   go_wp2
   go_ret
   exact ⟨rfl, HK0.out⟩
  rw [if_neg (by simp [inB]; omega)] at hR
  go_enter Tryz.func64, Tryz.ntmps64
  go_wp2_with fail
  refine (k1 _).mono ?_
  rintro e w1 ⟨rfl, rfl⟩
  generalize w.alloc (.cells #[.int .i64 p, .int .i64 f, .int .i64 l] 37) = wa at c0 c1 c2 HK0 ⊢
  clear b0
  go_wp2_with fail
  let Y1 : World → Prop := fun wx : World => wx.cell? ⟨w.heap.size, 0, none⟩ = some (.int .i64 p) ∧ wx.cell? ⟨w.heap.size, 2, none⟩ = some (.int .i64 l)
  have hS : Y1 wa.drew := ⟨c0, c2⟩
  refine wp_region_V Y1 99 12 rfl (by kernel_rfl) ?_
  refine tk 0 18 hS ?_
  refine tk 1 19 hS ?_
  refine tk 2 20 hS ?_
  refine tk 3 21 hS ?_
  refine wpAnyV_one (i := 4) (by kernel_rfl) rfl (fun K hK => ?_)
  go_simp
  refine (k3 _).mono ?_
  rintro e w3 ⟨rfl, hk3⟩
  have HK23 : Hid (Same wa w3) := (Kept.refl _ _).drew.trans hk3
  have HK3 := hid (HK0.out.trans HK23.out)
  have hS : Y1 w3 := ⟨HK23.out.cellOf c0 id, HK23.out.cellOf c2 id⟩
  refine hK.out _ _ (fun _ => hS) ?_
  clear hK K hk3
  try simp only [Act.put, sA, s0, sS]
  by_cases h4 : l < ml
  ·rw [if_pos (by simp [inB]; omega)] at hR
   subst hR
   refine tkV 5 23 (.bool true) hS ?_
   refine tk 6 24 hS ?_
   refine tkS 7 25 hS ?_
   refine tkS 8 26 hS ?_
   refine tkS 9 27 hS ?_
   refine tk 10 28 hS ?_
   refine tk 11 17 hS ?_
   refine wpAnyV_done (by kernel_rfl) ?_
   go_wp2
   go_ret
   exact ⟨rfl, HK3.out⟩
  ·by_cases h5 : 800 < l
   ·rw [if_pos (by simp [inB]; omega)] at hR
    subst hR
    refine tkV 5 23 (.bool false) hS ?_
    refine tk 6 24 hS ?_
    refine tk 7 25 hS ?_
    refine tk 8 26 hS ?_
    refine tkV 9 27 (.bool true) hS ?_
    refine tk 10 28 hS ?_
    refine tk 11 17 hS ?_
    refine wpAnyV_done (by kernel_rfl) ?_
    go_wp2
    go_ret
    exact ⟨rfl, HK3.out⟩
   ·rw [if_neg (by simp [inB]; omega)] at hR
    subst hR
    refine tkV 5 23 (.bool false) hS ?_
    refine tk 6 24 hS ?_
    refine tk 7 25 hS ?_
    refine tk 8 26 hS ?_
    refine tkV 9 27 (.bool false) hS ?_
    refine tk 10 28 hS ?_
    refine tk 11 17 hS ?_
    refine wpAnyV_done (by kernel_rfl) ?_
    go_wp2
    go_ret
    exact ⟨rfl, HK3.out⟩
def dskN (p f l : Int) : Int := if geoF p f l = 0 then 2 + l + p * 8 else -1
def pgSec (p f l g : Int) : Int := if geoF p f l = 0 then (if inB g 0 (p - 1) = true then 2 + l + g * 8 else -1) else -1
theorem geo_good {p f l : Int} (hq : geoF p f l = 0) : 1 ≤ p ∧ p ≤ 16 ∧ 9 * p + 24 ≤ l ∧ l ≤ 800 := by
 unfold geoF at hq
 cases h1 : inB p 1 16 with
 | false => rw [h1, if_pos rfl] at hq; cases hq
 | true =>
  rw [h1, if_neg (by simp)] at hq
  cases h2 : inB f 3 16 with
  | false => rw [h2, if_pos rfl] at hq; cases hq
  | true =>
   rw [h2, if_neg (by simp)] at hq
   cases h3 : inB l (minLog p) 800 with
   | false => rw [h3, if_pos rfl] at hq; cases hq
   | true =>
    obtain ⟨a, b⟩ := inB_yes h1
    obtain ⟨c, d⟩ := inB_yes h3
    have hml : minLog p = 9 * p + 24 := if_pos h1
    rw [hml] at c
    exact ⟨a, b, c, d⟩
theorem pgSec_yes {p f l g : Int} (hq : geoF p f l = 0) (h1 : 0 ≤ g) (h2 : g < p) : pgSec p f l g = 2 + l + g * 8 := by
 unfold pgSec
 rw [if_pos hq, if_pos (by simp [inB]; omega)]
theorem firstSec_any (p f l : Int) (hl : 0 ≤ l ∧ l ≤ 800) (w : World) : Calls Tryz.prog 65 #[.agg #[.int .i64 p, .int .i64 f, .int .i64 l]] w fun e w' => e = .returned (.int .i64 (2 + l)) ∧ Same w w' := by
 have HK0 := hid (sameA w [.int .i64 p, .int .i64 f, .int .i64 l] 37)
 have b0 := Blk.newL w [.int .i64 p, .int .i64 f, .int .i64 l] 37
 obtain ⟨c0, c1, c2⟩ := b0.all3
 obtain ⟨h1, h2⟩ := hl
 have q1 : IntKind.i64.wrap (2 + l) = 2 + l := by rw [IntKind.wrap_i64]; omega
 go_enter Tryz.func65, Tryz.ntmps65
 go_wp2
 go_ret
 exact ⟨rfl, HK0.out⟩
theorem specDskN_any (p f l : Int) (w : World) : Calls Tryz.prog 37 #[.agg #[.int .i64 p, .int .i64 f, .int .i64 l]] w fun e w' => e = .returned (.int .i64 (dskN p f l)) ∧ Same w w' := by
 have HK0 := hid (sameA w [.int .i64 p, .int .i64 f, .int .i64 l] 37)
 have b0 := Blk.newL w [.int .i64 p, .int .i64 f, .int .i64 l] 37
 have k0 := fun wx => specGeo_any p f l wx
 obtain ⟨R, hR⟩ : ∃ R, dskN p f l = R := ⟨_, rfl⟩
 rw [hR]
 unfold dskN at hR
 obtain ⟨q, hq⟩ : ∃ q, geoF p f l = q := ⟨_, rfl⟩
 rw [hq] at k0 hR
 by_cases h0 : q = 0
 case neg =>
  rw [if_neg h0] at hR
  subst hR
  clear hq
  go_enter Tryz.func37, Tryz.ntmps37
  go_wp2_with fail
  refine (k0 _).mono ?_
  rintro e w1 ⟨rfl, hk1⟩
  go_wp2
  go_ret
  exact ⟨rfl, HK0.out.trans hk1⟩
 subst h0
 rw [if_pos rfl] at hR
 obtain ⟨h1, h2, h3, h4⟩ := geo_good hq
 clear hq
 have q1 : IntKind.i64.wrap (2 + l) = 2 + l := by rw [IntKind.wrap_i64]; omega
 have q2 : IntKind.i64.wrap (p * 8) = p * 8 := by rw [IntKind.wrap_i64]; omega
 have q3 : IntKind.i64.wrap (2 + l + p * 8) = 2 + l + p * 8 := by rw [IntKind.wrap_i64]; omega
 subst hR
 go_enter Tryz.func37, Tryz.ntmps37
 go_wp2_with fail
 refine (k0 _).mono ?_
 rintro e w1 ⟨rfl, hk1⟩
 have HK1 := hid (HK0.out.trans hk1)
 obtain ⟨d0, d1, d2⟩ := (b0.same hk1).all3
 clear hk1
 go_wp2
 go_ret
 exact ⟨rfl, HK1.out⟩
theorem implDskN_any (p f l : Int) (w : World) : Calls Tryz.prog 63 #[.agg #[.int .i64 p, .int .i64 f, .int .i64 l]] w fun e w' => e = .returned (.int .i64 (dskN p f l)) ∧ Same w w' := by
 have HK0 := hid (sameA w [.int .i64 p, .int .i64 f, .int .i64 l] 37)
 have b0 := Blk.newL w [.int .i64 p, .int .i64 f, .int .i64 l] 37
 have k0 := fun wx => implGeo_any p f l wx
 obtain ⟨R, hR⟩ : ∃ R, dskN p f l = R := ⟨_, rfl⟩
 rw [hR]
 unfold dskN at hR
 obtain ⟨q, hq⟩ : ∃ q, geoF p f l = q := ⟨_, rfl⟩
 rw [hq] at k0 hR
 by_cases h0 : q = 0
 case neg =>
  rw [if_neg h0] at hR
  subst hR
  clear hq
  go_enter Tryz.func63, Tryz.ntmps63
  go_wp2_with fail
  refine (k0 _).mono ?_
  rintro e w1 ⟨rfl, hk1⟩
  go_wp2
  go_ret
  exact ⟨rfl, HK0.out.trans hk1⟩
 subst h0
 rw [if_pos rfl] at hR
 obtain ⟨h1, h2, h3, h4⟩ := geo_good hq
 clear hq
 have q2 : IntKind.i64.wrap (p * 8) = p * 8 := by rw [IntKind.wrap_i64]; omega
 have q3 : IntKind.i64.wrap (2 + l + p * 8) = 2 + l + p * 8 := by rw [IntKind.wrap_i64]; omega
 have k1 := fun wx => firstSec_any p f l ⟨by omega, h4⟩ wx
 subst hR
 go_enter Tryz.func63, Tryz.ntmps63
 go_wp2_with fail
 refine (k0 _).mono ?_
 rintro e w1 ⟨rfl, hk1⟩
 have HK1 := hid (HK0.out.trans hk1)
 obtain ⟨d0, d1, d2⟩ := (b0.same hk1).all3
 clear hk1
 go_wp2_with fail
 let Y1 : World → Prop := fun wx : World => wx.cell? ⟨w.heap.size, 0, none⟩ = some (.int .i64 p) ∧ wx.cell? ⟨w.heap.size, 1, none⟩ = some (.int .i64 f) ∧ wx.cell? ⟨w.heap.size, 2, none⟩ = some (.int .i64 l)
 have hS : Y1 w1.drew := ⟨d0, d1, d2⟩
 refine wp_region_V Y1 99 7 rfl (by kernel_rfl) ?_
 refine tk 0 6 hS ?_
 refine tk 2 8 hS ?_
 refine tk 3 9 hS ?_
 refine tk 4 10 hS ?_
 refine wpAnyV_one (i := 1) (by kernel_rfl) rfl (fun K hK => ?_)
 go_simp
 refine (k1 _).mono ?_
 rintro e w2 ⟨rfl, hk2⟩
 have HK2 := hid (HK1.out.trans ((Kept.refl _ _).drew.trans hk2))
 have hS : Y1 w2 := ⟨hk2.cellOf d0 id, hk2.cellOf d1 id, hk2.cellOf d2 id⟩
 refine hK.out _ _ (fun _ => hS) ?_
 clear hK K hk2
 try simp only [Act.put, sA, s0, sS]
 refine tk 5 11 hS ?_
 refine tk 6 2 hS ?_
 refine wpAnyV_done (by kernel_rfl) ?_
 go_wp2
 go_ret
 exact ⟨rfl, HK2.out⟩
theorem specPgSec_any (p f l g : Int) (w : World) : Calls Tryz.prog 39 #[.agg #[.int .i64 p, .int .i64 f, .int .i64 l], .int .i64 g] w fun e w' => e = .returned (.int .i64 (pgSec p f l g)) ∧ Same w w' := by
 have HK0 := hid (sameA w [.int .i64 p, .int .i64 f, .int .i64 l] 37)
 have b0 := Blk.newL w [.int .i64 p, .int .i64 f, .int .i64 l] 37
 have k0 := fun wx => specGeo_any p f l wx
 obtain ⟨R, hR⟩ : ∃ R, pgSec p f l g = R := ⟨_, rfl⟩
 rw [hR]
 unfold pgSec at hR
 obtain ⟨q, hq⟩ : ∃ q, geoF p f l = q := ⟨_, rfl⟩
 rw [hq] at k0 hR
 by_cases h0 : q = 0
 case neg =>
  rw [if_neg h0] at hR
  subst hR
  clear hq
  go_enter Tryz.func39, Tryz.ntmps39
  go_wp2_with fail
  refine (k0 _).mono ?_
  rintro e w1 ⟨rfl, hk1⟩
  go_wp2
  go_ret
  exact ⟨rfl, HK0.out.trans hk1⟩
 subst h0
 rw [if_pos rfl] at hR
 obtain ⟨h1, h2, h3, h4⟩ := geo_good hq
 clear hq
 have q0 : IntKind.i64.wrap (p - 1) = p - 1 := by rw [IntKind.wrap_i64]; omega
 have k1 := fun wx => l4In_any g 0 (p - 1) wx
 cases hb : inB g 0 (p - 1) with
 | false =>
  rw [hb] at k1 hR
  rw [if_neg (by simp)] at hR
  subst hR
  go_enter Tryz.func39, Tryz.ntmps39
  go_wp2_with fail
  refine (k0 _).mono ?_
  rintro e w1 ⟨rfl, hk1⟩
  have HK1 := hid (HK0.out.trans hk1)
  obtain ⟨d0, d1, d2⟩ := (b0.same hk1).all3
  clear hk1
  go_wp2_with fail
  refine (k1 _).mono ?_
  rintro e w2 ⟨rfl, hk2⟩
  have HK2 := hid (HK1.out.trans hk2)
  clear hk2
  go_wp2
  go_ret
  exact ⟨rfl, HK2.out⟩
 | true =>
  rw [hb] at k1 hR
  rw [if_pos rfl] at hR
  obtain ⟨g1, g2⟩ := inB_yes hb
  clear hb
  have q1 : IntKind.i64.wrap (2 + l) = 2 + l := by rw [IntKind.wrap_i64]; omega
  have q2 : IntKind.i64.wrap (g * 8) = g * 8 := by rw [IntKind.wrap_i64]; omega
  have q3 : IntKind.i64.wrap (2 + l + g * 8) = 2 + l + g * 8 := by rw [IntKind.wrap_i64]; omega
  subst hR
  go_enter Tryz.func39, Tryz.ntmps39
  go_wp2_with fail
  refine (k0 _).mono ?_
  rintro e w1 ⟨rfl, hk1⟩
  have HK1 := hid (HK0.out.trans hk1)
  have b1 := b0.same hk1
  obtain ⟨d0, d1, d2⟩ := b1.all3
  clear hk1
  go_wp2_with fail
  refine (k1 _).mono ?_
  rintro e w2 ⟨rfl, hk2⟩
  have HK2 := hid (HK1.out.trans hk2)
  obtain ⟨e0, e1, e2⟩ := (b1.same hk2).all3
  clear hk2
  go_wp2
  go_ret
  exact ⟨rfl, HK2.out⟩
theorem implPgSec_any (p f l g : Int) (w : World) : Calls Tryz.prog 47 #[.agg #[.int .i64 p, .int .i64 f, .int .i64 l], .int .i64 g] w fun e w' => e = .returned (.int .i64 (pgSec p f l g)) ∧ Same w w' := by
 have HK0 := hid (sameA w [.int .i64 p, .int .i64 f, .int .i64 l] 37)
 have b0 := Blk.newL w [.int .i64 p, .int .i64 f, .int .i64 l] 37
 have k0 := fun wx => implGeo_any p f l wx
 obtain ⟨R, hR⟩ : ∃ R, pgSec p f l g = R := ⟨_, rfl⟩
 rw [hR]
 unfold pgSec at hR
 obtain ⟨q, hq⟩ : ∃ q, geoF p f l = q := ⟨_, rfl⟩
 rw [hq] at k0 hR
 by_cases h0 : q = 0
 case neg =>
  rw [if_neg h0] at hR
  subst hR
  clear hq
  go_enter Tryz.func47, Tryz.ntmps47
  go_wp2_with fail
  refine (k0 _).mono ?_
  rintro e w1 ⟨rfl, hk1⟩
  go_wp2
  go_ret
  exact ⟨rfl, HK0.out.trans hk1⟩
 subst h0
 rw [if_pos rfl] at hR
 obtain ⟨h1, h2, h3, h4⟩ := geo_good hq
 clear hq
 by_cases g1 : g < 0
 ·rw [if_neg (by simp [inB]; omega)] at hR
  subst hR
  go_enter Tryz.func47, Tryz.ntmps47
  go_wp2_with fail
  refine (k0 _).mono ?_
  rintro e w1 ⟨rfl, hk1⟩
  have HK1 := hid (HK0.out.trans hk1)
  obtain ⟨d0, d1, d2⟩ := (b0.same hk1).all3
  clear hk1
  go_wp2
  go_ret
  exact ⟨rfl, HK1.out⟩
 by_cases g2 : p ≤ g
 ·rw [if_neg (by simp [inB]; omega)] at hR
  subst hR
  go_enter Tryz.func47, Tryz.ntmps47
  go_wp2_with fail
  refine (k0 _).mono ?_
  rintro e w1 ⟨rfl, hk1⟩
  have HK1 := hid (HK0.out.trans hk1)
  obtain ⟨d0, d1, d2⟩ := (b0.same hk1).all3
  clear hk1
  go_wp2
  go_ret
  exact ⟨rfl, HK1.out⟩
 rw [if_pos (by simp [inB]; omega)] at hR
 have q2 : IntKind.i64.wrap (g * 8) = g * 8 := by rw [IntKind.wrap_i64]; omega
 have q3 : IntKind.i64.wrap (2 + l + g * 8) = 2 + l + g * 8 := by rw [IntKind.wrap_i64]; omega
 have k1 := fun wx => firstSec_any p f l ⟨by omega, h4⟩ wx
 subst hR
 go_enter Tryz.func47, Tryz.ntmps47
 go_wp2_with fail
 refine (k0 _).mono ?_
 rintro e w1 ⟨rfl, hk1⟩
 have HK1 := hid (HK0.out.trans hk1)
 obtain ⟨d0, d1, d2⟩ := (b0.same hk1).all3
 clear hk1
 go_wp2_with fail
 refine (k1 _).mono ?_
 rintro e w2 ⟨rfl, hk2⟩
 have HK2 := hid (HK1.out.trans hk2)
 clear hk2
 go_wp2
 go_ret
 exact ⟨rfl, HK2.out⟩
end Go.Proofs.YtjlkphhdbopmiaaGreat
