import Derived.Test.YtaeikeglaobeeaaGreatG00
import Derived.WalkKit
import Derived.OrdersHeld
import Derived.Deep.RegionHeld3
import Derived.Deep.MidRow
import Derived.Deep.WholeRow
import Derived.Laws.BitsAllLaws
import Derived.Tactics
import Derived.Tactics2
import Derived.Defers
import Derived.Laws.Pointers
import Derived.Laws.LoneSync
import Derived.RegionTactic
import Derived.RegionCalls
import Derived.Deep.AppendLies
import Derived.Deep.DeepCutAuto
namespace Go.Proofs.YtaeikeglaobeeaaGreat
set_option linter.unusedSimpArgs false
set_option maxRecDepth 100000
set_option maxHeartbeats 4000000
set_option linter.unusedVariables false
open Go.RowKit Go
def Blk (w : World) (B : Nat) (e : TypeId) (xs : List Value) : Prop := w.heap[B]? = some (.cells xs.toArray e (0, 0))
theorem Blk.lt {w : World} {B : Nat} {e : TypeId} {xs : List Value} (h : Blk w B e xs) : B < w.heap.size := (Array.getElem?_eq_some_iff.1 h).1
theorem Blk.cell {w : World} {B : Nat} {e : TypeId} {xs : List Value} (h : Blk w B e xs) (j : Nat) : w.cell? ⟨B, j, none⟩ = xs[j]? := by
 unfold Blk at h
 simp [World.cell?, h]
theorem Blk.frozen {w : World} {B : Nat} {e : TypeId} {xs : List Value} (h : Blk w B e xs) (j : Nat) : w.frozen? ⟨B, j, none⟩ = false := by
 unfold Blk at h
 simp [World.frozen?, h]
theorem Blk.kept {R : Nat → Prop} {w w' : World} {B : Nat} {e : TypeId} {xs : List Value} (h : Blk w B e xs) (hk : Kept R w w') (hr : ¬ R B) : Blk w' B e xs := hk.heap h hr
theorem Blk.same {w w' : World} {B : Nat} {e : TypeId} {xs : List Value} (h : Blk w B e xs) (hk : Same w w') : Blk w' B e xs := hk.heap h id
theorem Blk.new (w : World) (xs : Array Value) (e : TypeId) : Blk (w.alloc (.cells xs e)) w.heap.size e xs.toList := by
 unfold Blk World.alloc
 rw [Array.toArray_toList]
 exact Array.getElem?_push_size
theorem Blk.newL (w : World) (xs : List Value) (e : TypeId) : Blk (w.alloc (.cells xs.toArray e)) w.heap.size e xs := Blk.new w xs.toArray e
theorem Blk.c0 {w : World} {B : Nat} {e : TypeId} {v0 : Value} {t : List Value} (h : Blk w B e (v0 :: t)) : w.cell? ⟨B, 0, none⟩ = some v0 := h.cell 0
theorem Blk.c1 {w : World} {B : Nat} {e : TypeId} {v0 v1 : Value} {t : List Value} (h : Blk w B e (v0 :: v1 :: t)) : w.cell? ⟨B, 1, none⟩ = some v1 := h.cell 1
theorem Blk.c2 {w : World} {B : Nat} {e : TypeId} {v0 v1 v2 : Value} {t : List Value} (h : Blk w B e (v0 :: v1 :: v2 :: t)) : w.cell? ⟨B, 2, none⟩ = some v2 := h.cell 2
theorem Blk.c3 {w : World} {B : Nat} {e : TypeId} {v0 v1 v2 v3 : Value} {t : List Value} (h : Blk w B e (v0 :: v1 :: v2 :: v3 :: t)) : w.cell? ⟨B, 3, none⟩ = some v3 := h.cell 3
theorem Blk.c4 {w : World} {B : Nat} {e : TypeId} {v0 v1 v2 v3 v4 : Value} {t : List Value} (h : Blk w B e (v0 :: v1 :: v2 :: v3 :: v4 :: t)) : w.cell? ⟨B, 4, none⟩ = some v4 := h.cell 4
theorem Blk.c5 {w : World} {B : Nat} {e : TypeId} {v0 v1 v2 v3 v4 v5 : Value} {t : List Value} (h : Blk w B e (v0 :: v1 :: v2 :: v3 :: v4 :: v5 :: t)) : w.cell? ⟨B, 5, none⟩ = some v5 := h.cell 5
theorem Blk.c6 {w : World} {B : Nat} {e : TypeId} {v0 v1 v2 v3 v4 v5 v6 : Value} {t : List Value} (h : Blk w B e (v0 :: v1 :: v2 :: v3 :: v4 :: v5 :: v6 :: t)) : w.cell? ⟨B, 6, none⟩ = some v6 := h.cell 6
theorem Blk.c7 {w : World} {B : Nat} {e : TypeId} {v0 v1 v2 v3 v4 v5 v6 v7 : Value} {t : List Value} (h : Blk w B e (v0 :: v1 :: v2 :: v3 :: v4 :: v5 :: v6 :: v7 :: t)) : w.cell? ⟨B, 7, none⟩ = some v7 := h.cell 7
theorem Blk.c8 {w : World} {B : Nat} {e : TypeId} {v0 v1 v2 v3 v4 v5 v6 v7 v8 : Value} {t : List Value} (h : Blk w B e (v0 :: v1 :: v2 :: v3 :: v4 :: v5 :: v6 :: v7 :: v8 :: t)) : w.cell? ⟨B, 8, none⟩ = some v8 := h.cell 8
theorem Blk.c9 {w : World} {B : Nat} {e : TypeId} {v0 v1 v2 v3 v4 v5 v6 v7 v8 v9 : Value} {t : List Value} (h : Blk w B e (v0 :: v1 :: v2 :: v3 :: v4 :: v5 :: v6 :: v7 :: v8 :: v9 :: t)) : w.cell? ⟨B, 9, none⟩ = some v9 := h.cell 9
theorem Blk.c10 {w : World} {B : Nat} {e : TypeId} {v0 v1 v2 v3 v4 v5 v6 v7 v8 v9 v10 : Value} {t : List Value} (h : Blk w B e (v0 :: v1 :: v2 :: v3 :: v4 :: v5 :: v6 :: v7 :: v8 :: v9 :: v10 :: t)) : w.cell? ⟨B, 10, none⟩ = some v10 := h.cell 10
theorem Blk.c11 {w : World} {B : Nat} {e : TypeId} {v0 v1 v2 v3 v4 v5 v6 v7 v8 v9 v10 v11 : Value} {t : List Value} (h : Blk w B e (v0 :: v1 :: v2 :: v3 :: v4 :: v5 :: v6 :: v7 :: v8 :: v9 :: v10 :: v11 :: t)) : w.cell? ⟨B, 11, none⟩ = some v11 := h.cell 11
theorem Blk.c12 {w : World} {B : Nat} {e : TypeId} {v0 v1 v2 v3 v4 v5 v6 v7 v8 v9 v10 v11 v12 : Value} {t : List Value} (h : Blk w B e (v0 :: v1 :: v2 :: v3 :: v4 :: v5 :: v6 :: v7 :: v8 :: v9 :: v10 :: v11 :: v12 :: t)) : w.cell? ⟨B, 12, none⟩ = some v12 := h.cell 12
theorem Blk.c13 {w : World} {B : Nat} {e : TypeId} {v0 v1 v2 v3 v4 v5 v6 v7 v8 v9 v10 v11 v12 v13 : Value} {t : List Value} (h : Blk w B e (v0 :: v1 :: v2 :: v3 :: v4 :: v5 :: v6 :: v7 :: v8 :: v9 :: v10 :: v11 :: v12 :: v13 :: t)) : w.cell? ⟨B, 13, none⟩ = some v13 := h.cell 13
theorem Blk.all2 {w : World} {B : Nat} {e : TypeId} {v0 v1 : Value} (h : Blk w B e [v0, v1]) : w.cell? ⟨B, 0, none⟩ = some v0 ∧ w.cell? ⟨B, 1, none⟩ = some v1 := ⟨h.cell 0, h.cell 1⟩
theorem Blk.all4 {w : World} {B : Nat} {e : TypeId} {v0 v1 v2 v3 : Value} (h : Blk w B e [v0, v1, v2, v3]) : w.cell? ⟨B, 0, none⟩ = some v0 ∧ w.cell? ⟨B, 1, none⟩ = some v1 ∧ w.cell? ⟨B, 2, none⟩ = some v2 ∧ w.cell? ⟨B, 3, none⟩ = some v3 := ⟨h.cell 0, h.cell 1, h.cell 2, h.cell 3⟩
theorem Blk.all14 {w : World} {B : Nat} {e : TypeId} {v0 v1 v2 v3 v4 v5 v6 v7 v8 v9 v10 v11 v12 v13 : Value} (h : Blk w B e [v0, v1, v2, v3, v4, v5, v6, v7, v8, v9, v10, v11, v12, v13]) : w.cell? ⟨B, 0, none⟩ = some v0 ∧ w.cell? ⟨B, 1, none⟩ = some v1 ∧ w.cell? ⟨B, 2, none⟩ = some v2 ∧ w.cell? ⟨B, 3, none⟩ = some v3 ∧ w.cell? ⟨B, 4, none⟩ = some v4 ∧ w.cell? ⟨B, 5, none⟩ = some v5 ∧ w.cell? ⟨B, 6, none⟩ = some v6 ∧ w.cell? ⟨B, 7, none⟩ = some v7 ∧ w.cell? ⟨B, 8, none⟩ = some v8 ∧ w.cell? ⟨B, 9, none⟩ = some v9 ∧ w.cell? ⟨B, 10, none⟩ = some v10 ∧ w.cell? ⟨B, 11, none⟩ = some v11 ∧ w.cell? ⟨B, 12, none⟩ = some v12 ∧ w.cell? ⟨B, 13, none⟩ = some v13 := ⟨h.cell 0, h.cell 1, h.cell 2, h.cell 3, h.cell 4, h.cell 5, h.cell 6, h.cell 7, h.cell 8, h.cell 9, h.cell 10, h.cell 11, h.cell 12, h.cell 13⟩
theorem sameA (w : World) (xs : List Value) (e : TypeId) : Same w (w.alloc (.cells xs.toArray e)) := (Kept.refl _ _).alloc _
theorem Blk.newA (w : World) (xs : List Value) (e : TypeId) (ys : List Value) (e' : TypeId) : Blk ((w.alloc (.cells xs.toArray e)).alloc (.cells ys.toArray e')) w.heap.size e xs := by
 have h := Blk.newL w xs e
 have := Below.heap_alloc (w.alloc (.cells xs.toArray e)) (.cells ys.toArray e') w.heap.size h.lt
 unfold Blk at *
 rw [this]
 exact h
theorem Blk.newB (w : World) (xs : List Value) (e : TypeId) (ys : List Value) (e' : TypeId) : Blk ((w.alloc (.cells xs.toArray e)).alloc (.cells ys.toArray e')) (w.heap.size + 1) e' ys := by
 have h := Blk.newL (w.alloc (.cells xs.toArray e)) ys e'
 rwa [World.size_alloc] at h
theorem sameA2 (w : World) (xs : List Value) (e : TypeId) (ys : List Value) (e' : TypeId) : Same w ((w.alloc (.cells xs.toArray e)).alloc (.cells ys.toArray e')) := ((Kept.refl _ _).alloc _).alloc _
theorem new1 (w : World) (xs : List Value) (e : TypeId) : Hid (Same w (w.alloc (.cells xs.toArray e))) ∧ Hid (Blk (w.alloc (.cells xs.toArray e)) w.heap.size e xs) := ⟨sameA w xs e, Blk.newL w xs e⟩
theorem new2 (w : World) (xs : List Value) (e : TypeId) (ys : List Value) (e' : TypeId) : Hid (Same w ((w.alloc (.cells xs.toArray e)).alloc (.cells ys.toArray e'))) ∧ Hid (Blk ((w.alloc (.cells xs.toArray e)).alloc (.cells ys.toArray e')) w.heap.size e xs) ∧ Hid (Blk ((w.alloc (.cells xs.toArray e)).alloc (.cells ys.toArray e')) (w.heap.size + 1) e' ys) := ⟨sameA2 w xs e ys e', Blk.newA w xs e ys e', Blk.newB w xs e ys e'⟩
theorem Blk.drew {w : World} {B : Nat} {e : TypeId} {xs : List Value} (h : Blk w B e xs) : Blk w.drew B e xs := h
theorem Blk.alloc {w : World} {B : Nat} {e : TypeId} {xs : List Value} (h : Blk w B e xs) (o : Obj) : Blk (w.alloc o) B e xs := by
 have := Below.heap_alloc w o B h.lt
 unfold Blk
 rw [this]
 exact h
theorem Blk.stored {w : World} {B : Nat} {e : TypeId} {xs : List Value} (h : Blk w B e xs) (j : Nat) (v : Value) : Blk (w.setCell ⟨B, j, none⟩ v) B e (xs.set j v) := by
 unfold Blk at h ⊢
 have hl := (Array.getElem?_eq_some_iff.1 h).1
 have hg := (Array.getElem?_eq_some_iff.1 h).2
 simp [World.setCell, hl, Array.getElem_modify, hg]
theorem Blk.other {w : World} {B : Nat} {e : TypeId} {xs : List Value} (h : Blk w B e xs) {p : Addr} (hp : p.block ≠ B) (v : Value) : Blk (w.setCell p v) B e xs := by
 unfold Blk
 rw [Below.heap_setCell _ _ _ _ (fun e => hp e.symm)]
 exact h
theorem Own.blk {w : World} {base g n : Nat} {e : TypeId} {k : IntKind} {bs : List Int} (h : Own base e k w (.slice (some ⟨g, 0, none⟩) n n) bs) : Blk w g e (vals k bs) := by
 rcases h.2 with ⟨h, _⟩ | ⟨g', cap, cur, h, _, hg, _, _, hs, ht⟩
 ·cases h
 ·cases h
  have hl : cur.toList.length = bs.length * 1 := by simpa using hs
  rw [List.take_of_length_le (by omega)] at ht
  unfold Blk
  rw [← ht]
  simpa using hg
theorem Blk.own {w : World} {g : Nat} {e : TypeId} {k : IntKind} {bs : List Int} (h : Blk w g e (vals k bs)) (hm : bs.length ≤ maxLen) : Own 0 e k w (.slice (some ⟨g, 0, none⟩) bs.length bs.length) bs :=
 ⟨by simp [vals], .inr ⟨g, bs.length, (vals k bs).toArray, rfl, Nat.zero_le _, h, Nat.le_refl _, hm, by simp [vals], by simp only [Nat.mul_one]; exact List.take_of_length_le (by simp [vals])⟩⟩
def lay (xs : List Value) (o : Nat) (vs : List Value) : List Value := xs.take o ++ (vs ++ xs.drop (o + vs.length))
theorem lay_length (xs : List Value) (o : Nat) (vs : List Value) (h : o + vs.length ≤ xs.length) : (lay xs o vs).length = xs.length := by simp [lay]; omega
theorem lay_cons (xs : List Value) (o : Nat) (v : Value) (vs : List Value) (h : o + (vs.length + 1) ≤ xs.length) : lay (xs.set o v) (o + 1) vs = lay xs o (v :: vs) := by
 have hlt : o < xs.length := by omega
 apply List.ext_getElem?
 intro j
 unfold lay
 simp only [List.getElem?_append, List.length_take, List.length_set, List.getElem?_take, List.getElem?_drop, List.length_cons]
 by_cases h1 : j < o
 ·rw [if_pos (by omega), if_pos (by omega), if_pos (by omega), if_pos h1, List.getElem?_set_ne (by omega)]
 ·by_cases h2 : j = o
  ·subst h2
   rw [if_pos (by omega), if_pos (by omega), if_neg (by omega), if_pos (by omega)]
   have e : j - min j xs.length = 0 := by omega
   simp [hlt, e]
  ·by_cases h3 : j < o + 1 + vs.length
   ·rw [if_neg (by omega), if_pos (by omega), if_neg (by omega), if_pos (by omega)]
    have e : j - min o xs.length = (j - min (o + 1) xs.length) + 1 := by omega
    rw [e, List.getElem?_cons_succ]
   ·rw [if_neg (by omega), if_neg (by omega), if_neg (by omega), if_neg (by omega), List.getElem?_set_ne (by omega)]
    congr 1
    omega
theorem lay_set (xs : List Value) (o : Nat) (v : Value) (vs : List Value) (h : o + (vs.length + 1) ≤ xs.length) : (lay xs (o + 1) vs).set o v = lay xs o (v :: vs) := by
 rw [← lay_cons xs o v vs h]
 unfold lay
 rw [List.set_append_left (h := by simp; omega), List.take_set, List.drop_set_of_lt (by omega)]
theorem lay_nil (xs : List Value) (o : Nat) : lay xs o [] = xs := by simp [lay]
theorem lay_all (xs vs : List Value) (h : vs.length = xs.length) : lay xs 0 vs = vs := by simp [lay, h]
section
variable {P : Program} {ops : Array Oper} {Q : Exit → Act → World → Prop} {md : Region.Mode} {S : World → Prop} {s : Nat}
def wpAnyV (P : Program) (md : Region.Mode) (ops : Array Oper) (Q : Exit → Act → World → Prop) (S : World → Prop) (s : Nat) : Nat → Array Bool → Act → World → Prop
 | 0, listed, a, w => Region.ready md ops listed = [] ∧ Q .normal a w
 | fuel + 1, listed, a, w =>
  (Region.ready md ops listed = [] → Q .normal a w) ∧
  ∀ i ∈ Region.ready md ops listed, wpOp P ops Q i (fun a' w' => (i ≠ s → S w') ∧ wpAnyV P md ops Q S s fuel (listed.setIfInBounds i true) a' w') a w
theorem wpAny_of_V : ∀ (fuel : Nat) (listed : Array Bool) (a : Act) (w : World), wpAnyV P md ops Q S s fuel listed a w → wpAny P md ops Q fuel listed a w
 | 0, _, _, _, h => h
 | fuel + 1, _, _, _, h => ⟨h.1, fun i hi => wpOp_mono (fun a' w' h' => wpAny_of_V fuel _ a' w' h'.2) (h.2 i hi)⟩
def waits (md : Region.Mode) (ops : Array Oper) (s i : Nat) : Bool :=
 match ops[s]? with
 | some o => o.after.any fun e => Region.binds md e && e.on == i
 | none => true
theorem waits_spec {i : Nat} (h : waits md ops s i = true) {os : Oper} (ho : ops[s]? = some os) (hn : ∀ e ∈ os.after, Region.binds md e = true → e.on ≠ i) : False := by
 unfold waits at h
 rw [ho] at h
 obtain ⟨e, he, hb⟩ := Array.any_eq_true'.1 h
 simp only [Bool.and_eq_true, beq_iff_eq] at hb
 exact hn e he hb.1 hb.2
theorem ready_apart {listed : Array Bool} {i j : Nat} (hi : i ∈ Region.ready md ops listed) (hj : j ∈ Region.ready md ops listed) {oj : Oper} (hoj : ops[j]? = some oj) :
  ∀ e ∈ oj.after, Region.binds md e = true → e.on ≠ i := by
 rintro e he hb rfl
 obtain ⟨_, o, ho, hall⟩ := mem_ready.1 hj
 obtain rfl : o = oj := by rw [hoj] at ho; exact (Option.some.inj ho).symm
 have hyes := hall e he hb
 have hno := (mem_ready.1 hi).1
 by_cases hl : e.on < listed.size <;> simp_all
def Loose (md : Region.Mode) (ops : Array Oper) (i : Nat) (oi : Oper) (listed : Array Bool) : Prop :=
 ∀ j oj, ops[j]? = some oj → j ≠ i → listed.getD j true = false → (∀ e ∈ oj.after, Region.binds md e = true → e.on ≠ i) → oi.apart ops oj = true
theorem Loose.on {i j : Nat} {oi : Oper} {listed : Array Bool} (h : Loose md ops i oi listed) (hj : listed.getD j true = false) : Loose md ops i oi (listed.setIfInBounds j true) := fun k ok hk hki hun hno =>
 h k ok hk hki (if e : j = k then e ▸ hj else (getD_set_ne true e) ▸ hun) hno
theorem wpAnyV_first {i : Nat} {oi : Oper} {v : Value} (hi : ops[i]? = some oi) (hsel : ∀ (j : Nat) (o : Oper) cs b, ops[j]? = some o → o.op ≠ .select cs b) (hs : waits md ops s i = true)
  (hQ : ∀ c a w, Q (.panic c) (a.put oi.dst v) w → Q (.panic c) a w) (fuel : Nat) : ∀ (listed : Array Bool) (a : Act) (w : World), Loose md ops i oi listed → i ∈ Region.ready md ops listed → YieldsIf P ops S oi v a → S w →
   wpAnyV P md ops Q S s fuel (listed.setIfInBounds i true) (a.put oi.dst v) w → wpAnyV P md ops Q S s (fuel + 1) listed a w := by
 induction fuel with
 | zero =>
  intro listed a w _ hr hy hS H
  constructor
  ·intro h0; simp [h0] at hr
  ·intro j hj
   by_cases e : j = i
   ·exact e ▸ hy.wpOp hi hS ⟨fun _ => hS, H⟩
   ·have := ready_mono hj e
    simp [H.1] at this
 | succ fuel ih =>
  intro listed a w hl hr hy hS H
  constructor
  ·intro h0; simp [h0] at hr
  ·intro j hj
   by_cases e : j = i
   ·exact e ▸ hy.wpOp hi hS ⟨fun _ => hS, H⟩
   ·obtain ⟨hun, oj, hoj, _⟩ := mem_ready.1 hj
    have hap := ready_apart hr hj hoj
    have hjs : j ≠ s := fun es => waits_spec hs (es ▸ hoj) hap
    refine wpOp_mono ?_ (wpOp_putIf hoj (hl j oj hoj e hun hap) (fun cs b => hsel i oi cs b hi) (fun cs b => hsel j oj cs b hoj) hQ hy (H.2 j (ready_mono hj e)))
    rintro a' w' ⟨hy', hS', hw'⟩
    exact ⟨hS', ih _ a' w' (hl.on hun) (ready_mono hr (Ne.symm e)) hy' (hS' hjs) (by rw [Array.setIfInBounds_comm _ _ e]; exact hw')⟩
theorem wpAnyV_take {i : Nat} {oi : Oper} {v : Value} {fuel : Nat} {listed : Array Bool} {a : Act} {w : World} (d : Option Tmp) (hi : ops[i]? = some oi) (hd : oi.dst = d)
  (hsl : Region.noSelect ops = true) (hf : Region.free md ops listed i = true) (hr : (Region.ready md ops listed).contains i = true) (hs : waits md ops s i = true)
  (hQ : ∀ c a w, Q (.panic c) (a.put d v) w → Q (.panic c) a w) (hy : YieldsIf P ops S oi v a) (hS : S w)
  (h : wpAnyV P md ops Q S s fuel (listed.setIfInBounds i true) (a.put d v) w) : wpAnyV P md ops Q S s (fuel + 1) listed a w := by
 subst hd
 exact wpAnyV_first hi (Region.noSelect_spec hsl) hs hQ fuel listed a w (Region.free_spec hi hf) (by simpa using hr) hy hS h
theorem sA {α : Type} {l : List α} {i : Nat} {a : α} : l.toArray.setIfInBounds i a = (l.set i a).toArray := List.setIfInBounds_toArray ..
theorem s0 {α : Type} {x : α} {xs : List α} {a : α} : (x :: xs).set 0 a = a :: xs := List.set_cons_zero
theorem sS {α : Type} {x : α} {xs : List α} {i : Nat} {a : α} : (x :: xs).set (i + 1) a = x :: xs.set i a := List.set_cons_succ
theorem tk (i d : Nat) {oi : Oper} {v : Value} {fuel : Nat} {listed : Array Bool} {a a' : Act} {w : World} (hS : S w)
  (h : wpAnyV P md ops Q S s fuel (listed.setIfInBounds i true) a' w) (hi : ops[i]? = some oi := by rfl) (hg : Region.wanted oi (yielded ops a.tmps) = true := by rfl) (hd : oi.dst = some d := by rfl)
  (hy : ∀ w, S w → (execOp a.eval oi).run P w = .ok (.value v) w := by intro w hSw; (try dsimp (config := { zetaDelta := true }) only at hSw); go_simp; (try with_reducible rfl))
  (hsl : Region.noSelect ops = true := by kernel_rfl) (hf : Region.free md ops listed i = true := by kernel_rfl) (hr : (Region.ready md ops listed).contains i = true := by kernel_rfl) (hs : waits md ops s i = true := by kernel_rfl)
  (hQ : ∀ c a w, Q (.panic c) (a.put (some d) v) w → Q (.panic c) a w := by exact fun _ _ _ h => h)
  (ha : a.put (some d) v = a' := by first | (simp only [Act.put, sA, s0, sS]; done) | (simp only [Act.put, sA, s0, sS]; rfl) | rfl) : wpAnyV P md ops Q S s (fuel + 1) listed a w :=
 wpAnyV_take (some d) hi hd hsl hf hr hs hQ (Or.inl ⟨hg, hy⟩) hS (ha ▸ h)
theorem tkV (i d : Nat) (v : Value) {oi : Oper} {fuel : Nat} {listed : Array Bool} {a a' : Act} {w : World} (hS : S w)
  (h : wpAnyV P md ops Q S s fuel (listed.setIfInBounds i true) a' w) (hi : ops[i]? = some oi := by rfl) (hg : Region.wanted oi (yielded ops a.tmps) = true := by rfl) (hd : oi.dst = some d := by rfl)
  (hy : ∀ w, S w → (execOp a.eval oi).run P w = .ok (.value v) w := by intro w hSw; (try dsimp (config := { zetaDelta := true }) only at hSw); go_simp; (try omega))
  (hsl : Region.noSelect ops = true := by kernel_rfl) (hf : Region.free md ops listed i = true := by kernel_rfl) (hr : (Region.ready md ops listed).contains i = true := by kernel_rfl) (hs : waits md ops s i = true := by kernel_rfl)
  (hQ : ∀ c a w, Q (.panic c) (a.put (some d) v) w → Q (.panic c) a w := by exact fun _ _ _ h => h)
  (ha : a.put (some d) v = a' := by first | (simp only [Act.put, sA, s0, sS]; done) | (simp only [Act.put, sA, s0, sS]; rfl) | rfl) : wpAnyV P md ops Q S s (fuel + 1) listed a w :=
 wpAnyV_take (some d) hi hd hsl hf hr hs hQ (Or.inl ⟨hg, hy⟩) hS (ha ▸ h)
theorem tkS (i d : Nat) {oi : Oper} {fuel : Nat} {listed : Array Bool} {a a' : Act} {w : World} (hS : S w)
  (h : wpAnyV P md ops Q S s fuel (listed.setIfInBounds i true) a' w) (hi : ops[i]? = some oi := by rfl) (hg : Region.wanted oi (yielded ops a.tmps) = false := by rfl) (hd : oi.dst = some d := by rfl)
  (hsl : Region.noSelect ops = true := by kernel_rfl) (hf : Region.free md ops listed i = true := by kernel_rfl) (hr : (Region.ready md ops listed).contains i = true := by kernel_rfl) (hs : waits md ops s i = true := by kernel_rfl)
  (hQ : ∀ c a w, Q (.panic c) (a.put (some d) undef) w → Q (.panic c) a w := by exact fun _ _ _ h => h)
  (ha : a.put (some d) undef = a' := by first | (simp only [Act.put, sA, s0, sS]; done) | (simp only [Act.put, sA, s0, sS]; rfl) | rfl) : wpAnyV P md ops Q S s (fuel + 1) listed a w :=
 wpAnyV_take (some d) hi hd hsl hf hr hs hQ (Or.inr ⟨hg, rfl⟩) hS (ha ▸ h)
theorem wpAnyV_one {i : Nat} {o : Oper} {fuel : Nat} {listed : Array Bool} {a : Act} {w : World} (hr : Region.ready md ops listed = [i]) (ho : ops[i]? = some o)
  (h : ∀ K' : Act → World → Prop, Shut (∀ a w, (i ≠ s → S w) → wpAnyV P md ops Q S s fuel (listed.setIfInBounds i true) a w → K' a w) → if Region.wanted o (yielded ops a.tmps) = true then Oper.wp P o a w K' Q else K' (a.put o.dst undef) w) :
  wpAnyV P md ops Q S s (fuel + 1) listed a w := by
 constructor
 ·intro h0; simp [hr] at h0
 ·intro j hj
  rw [hr] at hj
  obtain rfl : j = i := by simpa using hj
  exact wpOp_step ho (fun K' hK => h K' (fun a w hS hW => hK a w ⟨hS, hW⟩))
theorem wpAnyV_done {fuel : Nat} {listed : Array Bool} {a : Act} {w : World} (hr : Region.ready md ops listed = []) (h : Q .normal a w) : wpAnyV P md ops Q S s fuel listed a w := by
 cases fuel with
 | zero => exact ⟨hr, h⟩
 | succ n => exact ⟨fun _ => h, by rw [hr]; simp⟩
theorem wp_region_V {id : Nat} {a : Act} {w : World} (S : World → Prop) (s n : Nat) (hn : ops.size = n) (hm : P.follows .mixedOrders = true) (h : wpAnyV P .any ops Q S s n (Array.replicate n false) a w.drew) : (Code.region id ops true).wp P Q a w := by
 subst hn
 exact wp_region_any hm (wpAny_of_V _ _ _ _ h)
end
def lows (v : Int) : Nat → List Int
 | 0 => []
 | k + 1 => (v / 256 ^ k % 256) :: lows v k
theorem lows_length (v : Int) (k : Nat) : (lows v k).length = k := by
 induction k with
 | zero => rfl
 | succ k ih => simp [lows, ih]
def numB (v n : Int) : List Int := if n < 1 ∨ 8 < n ∨ v < 0 ∨ v / 256 ^ n.toNat ≠ 0 then [] else lows v n.toNat
theorem numB_length (v n : Int) : (numB v n).length ≤ 8 := by
 unfold numB
 split
 ·simp
 ·rw [lows_length]; omega
theorem pow_step (v : Int) (k : Nat) : v / 256 ^ k / 256 = v / 256 ^ (k + 1) := by
 rw [Int.ediv_ediv_of_nonneg (Int.le_of_lt (Int.pow_pos (by decide))), Int.pow_succ]
theorem lows_step (v : Int) (n k : Nat) (h : k < n) : (List.replicate (n - k) 0 ++ lows v k).set (n - k - 1) (v / 256 ^ k % 256) = List.replicate (n - (k + 1)) 0 ++ lows v (k + 1) := by
 have e : n - k = (n - (k + 1)) + 1 := by omega
 rw [e, List.replicate_succ', List.append_assoc, Nat.add_sub_cancel, List.set_append_right (h := by simp)]
 simp [lows]
theorem made_length (v : Int) (n k : Nat) (h : k ≤ n) : (List.replicate (n - k) 0 ++ lows v k).length = n := by simp [lows_length]; omega
theorem Own.empty (w : World) (e : TypeId) : Own 0 e .u8 (w.alloc (Obj.cells #[] e)) (.slice (some ⟨w.heap.size, 0, none⟩) 0 0) [] :=
 ⟨by simp [vals], .inr ⟨w.heap.size, 0, #[], rfl, Nat.zero_le _, by unfold World.alloc; exact Array.getElem?_push_size, Nat.le_refl _, Nat.zero_le _, by simp [vals]⟩⟩
theorem specPut_yes (v n : Int) (w : World) (hi0 : IsI v) (h1 : 1 ≤ n) (h2 : n ≤ 8) (h3 : 0 ≤ v) :
  Calls Tryz.prog 82 #[.int .i64 v, .int .i64 n] w fun e w' => ∃ a c, e = .returned (.slice a (numB v n).length c) ∧ (∀ b, (Value.slice a (numB v n).length c).ownBlock = some b → w.heap.size ≤ b) ∧
   Own 0 5 .u8 w' (.slice a (numB v n).length c) (numB v n) ∧ Same w w' := by
 obtain ⟨n, rfl⟩ : ∃ m : Nat, n = m := ⟨n.toNat, by omega⟩
 obtain ⟨i0, hi, hz0, hz1, hz2⟩ := info_parts Tryz.infoByte'
 obtain ⟨hv1, hv2⟩ := hi0
 have h1' : ¬ (n : Int) < 1 := by omega
 have h2' : ¬ (8 : Int) < n := by omega
 have h3' : ¬ v < 0 := by omega
 go_enter Tryz.func82, Tryz.ntmps82
 go_wp2_with (at_make; refine wpList_make_full _ rfl (.tmp 18) (.tmp 18) 22 rfl 0 5 i0 (.int .u8 0) 1 Tryz.underlying22 hi hz0 hz1 .i64 .i64 _ _ n rfl rfl (by simp) (by simp) (by rw [hz2]; omega) (by unfold maxLen; omega) (Nat.zero_le _) ?_; intro w1 hown1 hgrow1; have HO : Hid (Own 0 5 .u8 w1 (.slice (some ⟨w.heap.size, 0, none⟩) n n) (List.replicate n 0)) := own_made (by simpa using hown1); have HK : Hid (Same w w1) := Kept.of_grown hgrow1 (fun k e => by cases e); clear hown1 hgrow1)
 go_loopw [0, 6] (fun x i wr => ∃ (k : Nat), k ≤ n ∧ x = .int .i64 (v / 256 ^ k) ∧ i = .int .i64 ((n : Int) - k - 1) ∧ Hid (Own 0 5 .u8 wr (.slice (some ⟨w.heap.size, 0, none⟩) n n) (List.replicate (n - k) 0 ++ lows v k)) ∧ Hid (Same w wr)) (fun _ i _ => (intOf i + 1).toNat)
 case atStart => exact ⟨0, Nat.zero_le _, by simp, by simp, by simpa [lows] using HO, HK⟩
 case round =>
  obtain ⟨k, hk, rfl, rfl, HOr, HKr⟩ := hrel
  by_cases hlt : k < n
  ·obtain ⟨j, rfl⟩ : ∃ j : Nat, n = k + 1 + j := ⟨n - k - 1, by omega⟩
   have ej : ((k + 1 + j : Nat) : Int) - k - 1 = j := by omega
   have hlen := made_length v (k + 1 + j) k hk
   have q2 := HOr.out.frozen hlen.symm j
   have q3 := HOr.out.cell hlen.symm j (by omega)
   have hx0 : 0 ≤ v / 256 ^ k := Int.ediv_nonneg h3 (Int.le_of_lt (Int.pow_pos (by decide)))
   have hx1 : v / 256 ^ k ≤ v := Int.ediv_le_self _ h3
   have hst := pow_step v k
   have HST : Hid (v / 256 ^ k / 256 = v / 256 ^ (k + 1)) := hst
   have hls := lows_step v (k + 1 + j) k hlt
   have HLS := (show Hid (_ = _) from hls)
   clear hls hst
   rw [ej]
   generalize hx : v / 256 ^ k = x at *
   clear hx
   go_wp2
   go_roundw
   case rel =>
    have h := HOr.out.stored hlen.symm j (x % 256)
    have e2 := HLS.out
    rw [show k + 1 + j - k - 1 = j from by omega] at e2
    rw [e2] at h
    exact ⟨k + 1, by omega, by rw [HST.out], by go_num, h, HKr.out.setCell (.inl (Nat.le_refl _)) _⟩
   case measure => simp [intOf]
  ·obtain rfl : k = n := by omega
   have ej : ((k : Nat) : Int) - k - 1 = -1 := by omega
   have hx0 : 0 ≤ v / 256 ^ k := Int.ediv_nonneg h3 (Int.le_of_lt (Int.pow_pos (by decide)))
   have hx1 : v / 256 ^ k ≤ v := Int.ediv_le_self _ h3
   rw [ej]
   by_cases hz : v / 256 ^ k = 0
   ·have hnum : numB v k = lows v k := by unfold numB; rw [if_neg (by simp only [Int.toNat_natCast]; omega)]; simp
    have HN : Hid (numB v k = lows v k) := hnum
    rw [hz]
    clear hz hnum hx0 hx1
    go_wp2
    go_ret
    rw [HN.out, lows_length]
    refine ⟨_, _, rfl, fun b hb => ?_, ?_, HKr.out⟩
    ·simp [Value.ownBlock] at hb; omega
    ·have h := HOr.out; rw [Nat.sub_self, List.replicate_zero, List.nil_append] at h; exact h
   ·have hnum : numB v k = [] := by unfold numB; rw [if_pos (by simp only [Int.toNat_natCast]; omega)]
    have HN : Hid (numB v k = []) := hnum
    clear hnum
    generalize hx : v / 256 ^ k = x at *
    clear hx
    go_wp2
    go_ret
    rw [HN.out]
    refine ⟨some ⟨wr.heap.size, 0, none⟩, 0, rfl, fun b hb => ?_, Own.empty _ _, HKr.out.alloc _⟩
    have := HKr.out.size
    simp [Value.ownBlock] at hb; omega
theorem specPut_no (v n : Int) (w : World) (h : n < 1 ∨ 8 < n ∨ v < 0) :
  Calls Tryz.prog 82 #[.int .i64 v, .int .i64 n] w fun e w' => e = .returned (.slice (some ⟨w.heap.size, 0, none⟩) 0 0) ∧ w' = w.alloc (Obj.cells #[] 5) := by
 rcases h with h | h
 ·go_enter Tryz.func82, Tryz.ntmps82
  go_wp2
  go_ret
  exact ⟨rfl, rfl⟩
 ·by_cases h1 : n < 1
  ·go_enter Tryz.func82, Tryz.ntmps82
   go_wp2
   go_ret
   exact ⟨rfl, rfl⟩
  ·rcases h with h | h
   ·go_enter Tryz.func82, Tryz.ntmps82
    go_wp2
    go_ret
    exact ⟨rfl, rfl⟩
   ·by_cases h2 : 8 < n
    ·go_enter Tryz.func82, Tryz.ntmps82
     go_wp2
     go_ret
     exact ⟨rfl, rfl⟩
    ·go_enter Tryz.func82, Tryz.ntmps82
     go_wp2
     go_ret
     exact ⟨rfl, rfl⟩
theorem specPut_any (v n : Int) (w : World) (hi0 : IsI v) (hi1 : IsI n) :
  Calls Tryz.prog 82 #[.int .i64 v, .int .i64 n] w fun e w' => ∃ a c, e = .returned (.slice a (numB v n).length c) ∧ (∀ b, (Value.slice a (numB v n).length c).ownBlock = some b → w.heap.size ≤ b) ∧
   Own 0 5 .u8 w' (.slice a (numB v n).length c) (numB v n) ∧ Same w w' := by
 by_cases h : n < 1 ∨ 8 < n ∨ v < 0
 ·refine (specPut_no v n w h).mono ?_
  rintro e w' ⟨rfl, rfl⟩
  have e : numB v n = [] := by unfold numB; rw [if_pos (by omega)]
  rw [e]
  exact ⟨some ⟨w.heap.size, 0, none⟩, 0, rfl, fun b hb => by simp [Value.ownBlock] at hb; omega, Own.empty _ _, (Kept.refl _ _).alloc _⟩
 ·exact specPut_yes v n w hi0 (by omega) (by omega) (by omega)
theorem pow8 (n : Nat) : (2 : Int) ^ (8 * n) = 256 ^ n := by
 induction n with
 | zero => rfl
 | succ n ih => rw [Nat.mul_succ, Int.pow_add, ih, Int.pow_succ]; rfl
theorem writeNumber_any (g o n c : Nat) (t : TypeId) (xs : List Value) (v : Int) (w : World) (hb : Blk w g t xs) (ho : o + n ≤ xs.length) (h0 : 0 ≤ v) (hi : v ≤ 9223372036854775807) (hn : n ≤ 1099511627776) :
  Calls Tryz.prog 77 #[.slice (some ⟨g, o, none⟩) n c, .int .i64 v] w fun e w' => e = .returned (.tuple #[]) ∧ Blk w' g t (lay xs o (vals .u8 (lows v n))) ∧ Kept (fun b => b = g) w w' := by
 have HB := (show Hid (Blk w g t xs) from hb)
 clear hb
 go_enter Tryz.func77, Tryz.ntmps77
 go_wp2
 go_loopw [1, 4] (fun x i wr => ∃ k : Nat, k ≤ n ∧ x = .int .i64 (v / 256 ^ k) ∧ i = .int .i64 ((n : Int) - k - 1) ∧ Hid (Blk wr g t (lay xs (o + (n - k)) (vals .u8 (lows v k)))) ∧ Hid (Kept (fun b => b = g) w wr)) (fun _ i _ => (intOf i + 1).toNat)
 case atStart => exact ⟨0, Nat.zero_le _, by simp, by simp, by simpa [lows, vals, lay_nil] using HB, Kept.refl _ _⟩
 case round =>
  obtain ⟨k, hk, rfl, rfl, HBr, HKr⟩ := hrel
  by_cases hlt : k < n
  ·obtain ⟨j, rfl⟩ : ∃ j : Nat, n = k + 1 + j := ⟨n - k - 1, by omega⟩
   have ej : ((k + 1 + j : Nat) : Int) - k - 1 = j := by omega
   have el : (lay xs (o + (k + 1 + j - k)) (vals .u8 (lows v k))).length = xs.length := lay_length _ _ _ (by rw [vals_length, lows_length]; omega)
   have q2 := HBr.out.frozen (o + j)
   have q3 := HBr.out.cell (o + j)
   rw [List.getElem?_eq_getElem (by rw [el]; omega)] at q3
   have hx0 : 0 ≤ v / 256 ^ k := Int.ediv_nonneg h0 (Int.le_of_lt (Int.pow_pos (by decide)))
   have hx1 : v / 256 ^ k ≤ v := Int.ediv_le_self _ h0
   have HST : Hid (v / 256 ^ k / 256 = v / 256 ^ (k + 1)) := pow_step v k
   have HLS : Hid ((lay xs (o + j + 1) (vals .u8 (lows v k))).set (o + j) (.int .u8 (v / 256 ^ k % 256)) = lay xs (o + j) (vals .u8 (lows v (k + 1)))) := lay_set xs (o + j) _ (vals .u8 (lows v k)) (by rw [vals_length, lows_length]; omega)
   rw [ej]
   obtain ⟨z, hz⟩ : ∃ z, (lay xs (o + (k + 1 + j - k)) (vals .u8 (lows v k)))[o + j]'(by rw [el]; omega) = z := ⟨_, rfl⟩
   rw [hz] at q3
   clear hz el
   generalize hx : v / 256 ^ k = x at *
   clear hx
   go_wp2
   go_roundw
   case rel =>
    have h := HBr.out.stored (o + j) (.int .u8 (x % 256))
    rw [show o + (k + 1 + j - k) = o + j + 1 from by omega, HLS.out] at h
    refine ⟨k + 1, by omega, by rw [← HST.out], by go_num, ?_, Kept.setCell (R := fun b => b = g) HKr.out (.inr rfl) _⟩
    rw [show o + (k + 1 + j - (k + 1)) = o + j from by omega]
    exact h
   case measure => simp [intOf]
  ·obtain rfl : k = n := by omega
   have ej : ((k : Nat) : Int) - k - 1 = -1 := by omega
   rw [ej]
   generalize hx : v / 256 ^ k = x at *
   go_wp2
   go_end0
   have h := HBr.out
   rw [Nat.sub_self] at h
   exact ⟨rfl, h, HKr.out⟩
/-! ### Numbers -/
theorem num_lows (v : Nat) (k : Nat) : num (lows (v : Int) k) = ((v % 256 ^ k : Nat) : Int) := by
 induction k with
 | zero => simp [lows, num, Nat.mod_one]
 | succ k ih =>
  have e : lows (v : Int) (k + 1) = ((v : Int) / 256 ^ k % 256) :: lows (v : Int) k := rfl
  rw [e, num_cons, lows_length, ih, Nat.pow_succ, Nat.mod_mul]
  have e2 : ((v : Int) / 256 ^ k % 256) = ((v / 256 ^ k % 256 : Nat) : Int) := by simp
  rw [e2]
  have e3 : (256 : Int) ^ k = ((256 ^ k : Nat) : Int) := by simp
  rw [e3, ← Int.natCast_mul, ← Int.natCast_add, Nat.mul_comm, Nat.add_comm]
theorem getN_numB (v n : Int) (hv : IsI v) (h : numB v n ≠ []) : getN (numB v n) = v ∧ ((numB v n).length : Int) = n := by
 unfold numB at h ⊢
 split at h
 ·exact absurd rfl h
 ·rename_i hc
  rw [if_neg hc]
  have hn : 1 ≤ n ∧ n ≤ 8 ∧ 0 ≤ v ∧ v / 256 ^ n.toNat = 0 := by omega
  obtain ⟨h1, h2, h3, h4⟩ := hn
  obtain ⟨m, rfl⟩ : ∃ m : Nat, v = m := ⟨v.toNat, by omega⟩
  have hnum : num (lows (m : Int) n.toNat) = m := by
   rw [num_lows]
   have h5 : ((m / 256 ^ n.toNat : Nat) : Int) = 0 := by rw [← h4]; simp
   have h6 : m / 256 ^ n.toNat = 0 := by omega
   have h7 : m < 256 ^ n.toNat := by
    rcases (Nat.div_eq_zero_iff.1 h6) with h | h
    ·exact absurd h (Nat.ne_of_gt (Nat.pow_pos (by decide)))
    ·exact h
   rw [Nat.mod_eq_of_lt h7]
  have hl := lows_length (m : Int) n.toNat
  refine ⟨?_, by rw [hl]; omega⟩
  unfold getN
  rw [hnum, hl, if_neg (by have := hv.2; omega)]
def le : List Int → Nat
 | [] => 0
 | b :: bs => b.toNat ^^^ 256 * le bs
theorem lows_isB (v : Int) (k : Nat) : IsB (lows v k) := by
 induction k with
 | zero => intro y hy; simp [lows] at hy
 | succ k ih =>
  intro y hy
  simp only [lows, List.mem_cons] at hy
  rcases hy with rfl | hy
  ·omega
  ·exact ih y hy
theorem numB_isB (v n : Int) : IsB (numB v n) := by
 unfold numB
 split
 ·intro y hy; simp at hy
 ·exact lows_isB _ _
theorem addr_add (B o j : Nat) : (⟨B, o, none⟩ : Addr).add j = ⟨B, o + j, none⟩ := by unfold Addr.add; split <;> simp_all
theorem Blk.loads {P : Program} {w : World} {B : Nat} {e : TypeId} {xs : List Value} (h : Blk w B e xs) (o n : Nat) (hn : o + n ≤ xs.length) : (loadCellsFrom ⟨B, o, none⟩ 0 n #[]).run P w = .ok ((xs.drop o).take n).toArray w := by
 have hl : ((xs.drop o).take n).length = n := by simp; omega
 have := run_loadCells_list (P := P) w ⟨B, o, none⟩ ((xs.drop o).take n) (fun j v hv => by
  rw [addr_add, h.cell]
  have hj : j < n := by have := (List.getElem?_eq_some_iff.1 hv).1; omega
  rw [List.getElem?_take_of_lt hj, List.getElem?_drop] at hv
  exact hv)
 simpa [loadCells, hl] using this
theorem Blk.setCells {B : Nat} {e : TypeId} : ∀ (vs : List Value) (o : Nat) {w : World} {xs : List Value}, Blk w B e xs → o + vs.length ≤ xs.length → Blk (w.setCells B o vs) B e (lay xs o vs)
 | [], o, w, xs, h, _ => by rw [lay_nil]; exact h
 | v :: vs, o, w, xs, h, hl => by
  simp only [List.length_cons] at hl
  have := Blk.setCells vs (o + 1) (h.stored o v) (by rw [List.length_set]; omega)
  rw [lay_cons _ _ _ _ hl] at this
  exact this
theorem Kept.setCells {R : Nat → Prop} {a : World} {B : Nat} (hB : a.heap.size ≤ B ∨ R B) : ∀ (vs : List Value) (o : Nat) {b : World}, Kept R a b → Kept R a (b.setCells B o vs)
 | [], _, _, h => h
 | v :: vs, o, b, h => Kept.setCells hB vs (o + 1) (h.setCell (p := ⟨B, o, none⟩) hB v)
theorem Blk.range {w : World} {B : Nat} {e : TypeId} {xs : List Value} (h : Blk w B e xs) (o : Nat) (cs : List Value) (hc : ∀ j v, cs[j]? = some v → xs[o + j]? = some v) : w.rangeAt B o cs := fun j v hv => by
 rw [h.cell]
 exact hc j v hv
theorem Blk.rangeAll {w : World} {B : Nat} {e : TypeId} {xs : List Value} (h : Blk w B e xs) : w.rangeAt B 0 xs := h.range 0 xs (fun j v hv => by rw [Nat.zero_add]; exact hv)
theorem Blk.there {w : World} {B : Nat} {e : TypeId} {xs : List Value} (h : Blk w B e xs) (o n : Nat) (hn : o + n ≤ xs.length) : w.there B o n := fun j hj => ⟨by rw [h.cell, List.getElem?_eq_getElem (by omega)]; rfl, h.frozen _⟩
theorem Kept.ranges {w w' : World} {b o : Nat} {cs : List Value} (hk : Same w w') (h : w.rangeAt b o cs) : w'.rangeAt b o cs := fun j v hv => hk.cellOf (h j v hv) id
theorem Blk.rd {w : World} {B : Nat} {e : TypeId} {bs : List Int} (h : Blk w B e (vals .u8 bs)) (o n c : Nat) (hn : o + n ≤ bs.length) (hc : n ≤ c) (hm : bs.length ≤ maxLen) : Rd .u8 w (.slice (some ⟨B, o, none⟩) n c) ((bs.drop o).take n) := by
 have hl : ((bs.drop o).take n).length = n := by simp; omega
 refine ⟨by omega, .inr ⟨B, o, c, by rw [hl], by omega, fun i hi => ?_⟩⟩
 rw [h.cell, vals_at _ _ _ (by omega)]
 simp [List.getD, List.getElem?_take, show i < n by omega]
theorem run_arrayP (w : World) (ad : Option Addr) (c : Nat) : (Instr.arrayAt 180 (.slice ad 4096 c)).run Tryz.prog w = .ok (.pointer ad) w := by
 simp [Instr.arrayAt, run_underlying Tryz.underlying180]
theorem page_info : (Tryz.prog.info? 180).map (·.size) = some 4096 := by kernel_rfl
theorem rd_range {w : World} {b off c : Nat} {bs : List Int} (h : Rd .u8 w (.slice (some ⟨b, off, none⟩) bs.length c) bs) (hn : 0 < bs.length) : w.rangeAt b off (vals .u8 bs) := fun j v hv => by
 have hj : j < bs.length := by have := (List.getElem?_eq_some_iff.1 hv).1; rwa [vals_length] at this
 rcases h.2 with ⟨h0, _⟩ | ⟨b', o', c', e, _, hc⟩
 ·rw [h0] at hn
  simp at hn
 ·cases e
  rw [hc j hj, ← hv, vals_at _ _ _ hj]
theorem rd_some {w : World} {a : Option Addr} {n c : Nat} {bs : List Int} (h : Rd .u8 w (.slice a n c) bs) (hn : 0 < bs.length) : ∃ b off, a = some ⟨b, off, none⟩ ∧ bs.length ≤ c := by
 rcases h.2 with ⟨h0, _⟩ | ⟨b', o', c', e, hl, hc⟩
 ·rw [h0] at hn
  simp at hn
 ·cases e
  exact ⟨_, _, rfl, hl⟩
def takeB (bs : List Int) (o n : Nat) : List Int := (List.range n).map (fun i => bs.getD (o + i) 0)
theorem takeB_length (bs : List Int) (o n : Nat) : (takeB bs o n).length = n := by simp [takeB]
theorem getD_over (bs : List Int) (i : Nat) (h : bs.length ≤ i) : bs.getD i 0 = 0 := by simp [List.getD, List.getElem?_eq_none h]
theorem getD_isB {bs : List Int} (h : IsB bs) (i : Nat) : 0 ≤ bs.getD i 0 ∧ bs.getD i 0 ≤ 255 := by
 by_cases hi : i < bs.length
 ·exact h.at i hi
 ·rw [getD_over _ _ (by omega)]; omega
theorem takeB_isB {bs : List Int} (h : IsB bs) (o n : Nat) : IsB (takeB bs o n) := fun y hy => by
 obtain ⟨i, _, rfl⟩ := List.mem_map.1 hy
 exact getD_isB h _
def tkUp (bs : List Int) (o n k : Nat) : List Int := takeB bs o k ++ List.replicate (n - k) 0
theorem tkUp_length (bs : List Int) (o n k : Nat) (h : k ≤ n) : (tkUp bs o n k).length = n := by simp [tkUp, takeB_length]; omega
theorem tkUp_step (bs : List Int) (o n k : Nat) (h : k < n) : (tkUp bs o n k).set k (bs.getD (o + k) 0) = tkUp bs o n (k + 1) := by
 unfold tkUp
 rw [List.set_append_right _ _ (by simp [takeB_length]), takeB_length, Nat.sub_self, show n - k = (n - (k + 1)) + 1 from by omega, List.replicate_succ, List.set_cons_zero]
 simp [takeB, List.range_succ]
theorem tkUp_skip (bs : List Int) (o n k : Nat) (h : k < n) (hb : bs.length ≤ o + k) : tkUp bs o n k = tkUp bs o n (k + 1) := by
 rw [← tkUp_step _ _ _ _ h]
 unfold tkUp
 rw [List.set_append_right _ _ (by simp [takeB_length]), takeB_length, Nat.sub_self, show n - k = (n - (k + 1)) + 1 from by omega, List.replicate_succ, List.set_cons_zero, getD_over _ _ hb]
theorem tkUp_zero (bs : List Int) (o n : Nat) : tkUp bs o n 0 = List.replicate n 0 := by simp [tkUp, takeB]
theorem tkUp_all (bs : List Int) (o n : Nat) : tkUp bs o n n = takeB bs o n := by simp [tkUp]
theorem l4Take_any (P : Nat) (v : Value) (bs : List Int) (o n : Nat) (w : World) (hn : n ≤ 1048576) (ho : o ≤ 1099511627776) (hl : bs.length ≤ 1099511627776) (hp : Blk w P 46 [v, .int .i64 o]) (hv : Rd .u8 w v bs) :
  Calls Tryz.prog 20 #[.pointer (some ⟨P, 0, none⟩), .int .i64 n] w fun e w' => ∃ g, e = .returned (.slice (some ⟨g, 0, none⟩) n n) ∧ w.heap.size ≤ g ∧ Own 0 5 .u8 w' (.slice (some ⟨g, 0, none⟩) n n) (takeB bs o n) ∧ Blk w' P 46 [v, .int .i64 ((o + n : Nat) : Int)] ∧ Kept (fun b => b = P) w w' := by
 obtain ⟨i0, hi, hz0, hz1, hz2⟩ := info_parts Tryz.infoByte'
 obtain ⟨a, c, rfl⟩ := hv.form
 have HV := (show Hid (Rd .u8 w (.slice a bs.length c) bs) from hv)
 have HP := (show Hid (Blk w P 46 [.slice a bs.length c, .int .i64 o]) from hp)
 have hPw := hp.lt
 clear hv hp
 go_enter Tryz.func20, Tryz.ntmps20
 go_wp2_with (at_make; refine wpList_make_full _ rfl (.tmp 7) (.tmp 7) 22 rfl 0 5 i0 (.int .u8 0) 1 Tryz.underlying22 hi hz0 hz1 .i64 .i64 _ _ n rfl rfl (by simp) (by simp) (by rw [hz2]; omega) (by unfold maxLen; omega) (Nat.zero_le _) ?_; intro w1 hown1 hgrow1; have HO : Hid (Own 0 5 .u8 w1 (.slice (some ⟨w.heap.size, 0, none⟩) n n) (List.replicate n 0)) := own_made (by simpa using hown1); have HK : Hid (Same w w1) := Kept.of_grown hgrow1 (fun k e => by cases e); clear hown1 hgrow1)
 go_loopw [6] (fun i wr => ∃ (k : Nat), k ≤ n ∧ i = .int .i64 k ∧ Hid (Own 0 5 .u8 wr (.slice (some ⟨w.heap.size, 0, none⟩) n n) (tkUp bs o n k)) ∧ Hid (Same w wr)) (fun i _ => n - (intOf i).toNat)
 case atStart => exact ⟨0, Nat.zero_le _, rfl, by rw [tkUp_zero]; exact HO, HK⟩
 case round =>
  obtain ⟨k, hk, rfl, HOr, HKr⟩ := hrel
  by_cases hlt : k < n
  ·let Y2 : World → Prop := fun wx : World => wx.cell? ⟨P, 0, none⟩ = some (.slice a bs.length c) ∧ wx.cell? ⟨P, 1, none⟩ = some (.int .i64 o)
   have hS : Y2 wr.drew := ⟨(HP.out.same HKr.out.drew).cell 0, (HP.out.same HKr.out.drew).cell 1⟩
   go_wp2_with fail
   refine wp_region_V Y2 99 12 rfl (by kernel_rfl) ?_
   refine tk 0 14 hS ?_
   refine tk 1 15 hS ?_
   refine tk 2 16 hS ?_
   refine tk 3 17 hS ?_
   refine tk 4 18 hS ?_
   refine tk 5 19 hS ?_
   refine tk 6 20 hS ?_
   refine tk 7 21 hS ?_
   refine tk 8 22 hS ?_
   refine tk 9 23 hS ?_
   refine tk 10 24 hS ?_
   refine tk 11 25 hS ?_
   refine wpAnyV_done (by kernel_rfl) ?_
   rw [show IntKind.i64.wrap ((o : Int) + (k : Int)) = ((o + k : Nat) : Int) from by rw [IntKind.wrap_i64]; omega]
   clear hS
   by_cases hin : o + k < bs.length
   ·rw [show decide (((o + k : Nat) : Int) < (bs.length : Int)) = true from by simp; omega]
    obtain ⟨b, off, rfl, _⟩ := rd_some HV.out (by omega)
    have hsrc : w.cell? ⟨b, off + (o + k), none⟩ = some (.int .u8 (bs.getD (o + k) 0)) := by
     rcases HV.out.2 with ⟨rfl, _⟩ | ⟨b', o', c', he, _, hc⟩
     ·simp at hin
     ·injection he with he1
      injection he1 with he1
      injection he1 with e1 e2
      subst e1 e2
      exact hc _ hin
    let Y1 : World → Prop := fun wx : World => wx.cell? ⟨P, 0, none⟩ = some (.slice (some ⟨b, off, none⟩) bs.length c) ∧ wx.cell? ⟨P, 1, none⟩ = some (.int .i64 o) ∧ wx.cell? ⟨b, off + (o + k), none⟩ = some (.int .u8 (bs.getD (o + k) 0))
    have hS : Y1 wr.drew.drew := ⟨(HP.out.same HKr.out.drew.drew).cell 0, (HP.out.same HKr.out.drew.drew).cell 1, HKr.out.drew.drew.cellOf hsrc id⟩
    have HL : Hid (n = (tkUp bs o n k).length) := (tkUp_length _ _ _ _ hk).symm
    have HO2 := (show Hid (Own 0 5 .u8 wr.drew.drew (.slice (some ⟨w.heap.size, 0, none⟩) n n) (tkUp bs o n k)) from HOr.out.same (Kept.refl _ _).drew.drew)
    have q2 := HO2.out.frozen HL.out k
    have q3 := HO2.out.cell HL.out k hlt
    have hwr : IntKind.i64.wrap ((o : Int) + (k : Int)) = (o : Int) + (k : Int) := by rw [IntKind.wrap_i64]; omega
    have hw1 : 0 ≤ (o : Int) + (k : Int) := by omega
    have hw2 : (o : Int) + (k : Int) < (bs.length : Int) := by omega
    have hw3 : ((o : Int) + (k : Int)).toNat = o + k := by omega
    go_wp2_with fail
    refine wp_region_V Y1 15 16 rfl (by kernel_rfl) ?_
    refine tk 0 26 hS ?_
    refine tk 1 27 hS ?_
    refine tk 2 28 hS ?_
    refine tk 3 29 hS ?_
    refine tk 4 30 hS ?_
    refine tk 5 31 hS ?_
    refine tk 6 32 hS ?_
    refine tk 7 33 hS ?_
    refine tk 8 34 hS ?_
    refine tk 9 35 hS ?_
    refine tk 10 36 hS ?_
    refine tk 11 37 hS ?_
    refine tkV 12 38 (.pointer (some ⟨b, off + (o + k), none⟩)) hS ?_
    refine tk 13 39 hS ?_
    refine tk 14 40 hS ?_
    refine wpAnyV_one (i := 15) (by kernel_rfl) rfl (fun K hK => ?_)
    go_simp
    refine hK.out _ _ (fun h => absurd rfl h) ?_
    clear hK K
    refine wpAnyV_done (by kernel_rfl) ?_
    try simp only [Act.put, sA, s0, sS]
    have h := HOr.out.stored HL.out k (bs.getD (o + k) 0)
    rw [tkUp_step _ _ _ _ hlt] at h
    have HO3 := (show Hid (Own 0 5 .u8 (wr.setCell ⟨w.heap.size, k, none⟩ (.int .u8 (bs.getD (o + k) 0))).drew.drew (.slice (some ⟨w.heap.size, 0, none⟩) n n) (tkUp bs o n (k + 1))) from h.same (Kept.refl _ _).drew.drew)
    have HK3 := (show Hid (Same w (wr.setCell ⟨w.heap.size, k, none⟩ (.int .u8 (bs.getD (o + k) 0))).drew.drew) from (HKr.out.setCell (.inl (Nat.le_refl _)) _).drew.drew)
    clear h hS q2 q3 hsrc HO2 HL
    go_wp2
    go_roundw
    case rel => exact ⟨k + 1, by omega, by go_num, by simpa [hin, List.getD, Hid] using HO3, by simpa [hin, List.getD, Hid] using HK3⟩
    case measure => simp [intOf]; omega
   ·rw [show decide (((o + k : Nat) : Int) < (bs.length : Int)) = false from by simp; omega]
    go_wp2
    go_roundw
    case rel => exact ⟨k + 1, by omega, by go_num, by rw [← tkUp_skip _ _ _ _ hlt (by omega)]; exact HOr.out.same (Kept.refl _ _).drew, HKr.out.drew⟩
    case measure => simp [intOf]; omega
  ·obtain rfl : k = n := by omega
   have hb := HP.out.same HKr.out
   have d0 := hb.cell 0
   have d1 := hb.cell 1
   have f1 := hb.frozen 1
   simp only [List.getElem?_cons_zero, List.getElem?_cons_succ] at d0 d1
   go_wp2
   go_ret
   have hO := HOr.out
   rw [tkUp_all] at hO
   have hz := HKr.out.size
   have hb2 := hb.stored 1 (.int .i64 ((o : Int) + (k : Int)))
   refine ⟨w.heap.size, rfl, Nat.le_refl _, hO.kept (Kept.setCell (R := fun b => b = P) (Kept.refl _ _) (.inr rfl) _) (fun b hb' e => ?_), ?_, ?_⟩
   ·have : w.heap.size = b := by simpa [Value.ownBlock] using hb'
    omega
   ·rw [Int.natCast_add]
    exact hb2
   ·exact Kept.setCell (R := fun b => b = P) (HKr.out.mono (fun _ _ e => absurd e id)) (.inr rfl) _
theorem l4Number_any (P : Nat) (v : Value) (bs : List Int) (o n : Nat) (w : World) (hB : IsB bs) (hn : n ≤ 1048576) (ho : o ≤ 1099511627776) (hl : bs.length ≤ 1099511627776) (hp : Blk w P 46 [v, .int .i64 o]) (hv : Rd .u8 w v bs) :
  Calls Tryz.prog 18 #[.pointer (some ⟨P, 0, none⟩), .int .i64 n] w fun e w' => e = .returned (.int .i64 (getN (takeB bs o n))) ∧ Blk w' P 46 [v, .int .i64 ((o + n : Nat) : Int)] ∧ Kept (fun b => b = P) w w' := by
 have h1 := l4Take_any P v bs o n w hn ho hl hp hv
 have hTB := takeB_isB hB o n
 have hTL := takeB_length bs o n
 go_enter Tryz.func18, Tryz.ntmps18
 go_wp2_with fail
 refine h1.mono ?_
 rintro e w1 ⟨g, rfl, hg, ho1, hb1, hk1⟩
 have HB1 := (show Hid (Blk w1 P 46 [v, .int .i64 ((o + n : Nat) : Int)]) from hb1)
 have HK1 := (show Hid (Kept (fun b => b = P) w w1) from hk1)
 have HO1 := (show Hid (Own 0 5 .u8 w1 (.slice (some ⟨g, 0, none⟩) n n) (takeB bs o n)) from ho1)
 clear ho1 hb1 hk1 h1
 go_wp2_with fail
 refine (specGet_any _ (takeB bs o n) w1 hTB (by rw [hTL]; omega) HO1.out.rd).mono ?_
 rintro e w2 ⟨rfl, hk2⟩
 go_wp2
 go_ret
 exact ⟨rfl, HB1.out.same hk2, HK1.out.trans (hk2.mono (fun _ _ e => absurd e id))⟩
theorem takeB_pad (bs : List Int) (o n : Nat) : takeB bs o n = padB (bs.drop o) n := by
 unfold takeB padB
 apply List.ext_getElem
 ·simp; omega
 ·intro j h1 h2
  simp only [List.length_map, List.length_range] at h1
  rw [List.getElem_map, List.getElem_range]
  by_cases h : j < (bs.drop o).length
  ·rw [List.getElem_append_left (by rw [List.length_take]; omega), List.getElem_take, List.getElem_drop]
   simp only [List.length_drop] at h
   simp [List.getD, List.getElem?_eq_getElem (show o + j < bs.length by omega)]
  ·rw [List.getElem_append_right (by rw [List.length_take]; omega), List.getElem_replicate]
   simp only [List.length_drop] at h
   exact getD_over bs (o + j) (by omega)
theorem Rd.old {k : IntKind} {w wy : World} {v : Value} {bs : List Int} (h : Rd k w v bs) (hk : Kept (fun b => w.heap.size ≤ b) w wy) : Rd k wy v bs := by
 refine ⟨h.1, ?_⟩
 rcases h.2 with h2 | ⟨b, off, c, e, h3, hx⟩
 ·exact .inl h2
 ·refine .inr ⟨b, off, c, e, h3, fun i hi => hk.cellOf (hx i hi) ?_⟩
  have h5 := World.block_lt_of_cell? w _ (hx i hi)
  simp only at h5 ⊢
  omega
structure RS (wx : World) (B0 P : Nat) (v : Value) (bs rs : List Int) (lim : Nat) : Prop where
 at_ : ∃ o : Nat, o ≤ lim ∧ rs = bs.drop o ∧ Blk wx P 46 [v, .int .i64 (o : Int)]
 rd : ∀ wy, Kept (fun b => B0 ≤ b) wx wy → Rd .u8 wy v bs
 le : B0 ≤ P
theorem RS.keep {F : Nat → Prop} {wx wy : World} {B0 P : Nat} {v : Value} {bs rs : List Int} {lim : Nat} (h : RS wx B0 P v bs rs lim) (hk : Kept F wx wy) (hP : ¬ F P) (hF : ∀ b, b < wx.heap.size → F b → B0 ≤ b) : RS wy B0 P v bs rs lim := by
 obtain ⟨⟨o, h1, h2, h3⟩, h4, h5⟩ := h
 exact ⟨⟨o, h1, h2, h3.kept hk hP⟩, fun wz hz => h4 wz ((hk.mono hF).trans hz), h5⟩
theorem RS.same {wx wy : World} {B0 P : Nat} {v : Value} {bs rs : List Int} {lim : Nat} (h : RS wx B0 P v bs rs lim) (hk : Same wx wy) : RS wy B0 P v bs rs lim := h.keep hk id (fun _ _ e => e.elim)
theorem RS.lt {wx : World} {B0 P : Nat} {v : Value} {bs rs : List Int} {lim : Nat} (h : RS wx B0 P v bs rs lim) : P < wx.heap.size := by
 obtain ⟨⟨o, h1, h2, h3⟩, h4, h5⟩ := h
 exact h3.lt
theorem RS.isB {wx : World} {B0 P : Nat} {v : Value} {bs rs : List Int} {lim : Nat} (h : RS wx B0 P v bs rs lim) (hB : IsB bs) : IsB rs := by
 obtain ⟨⟨o, h1, h2, h3⟩, h4, h5⟩ := h
 rw [h2]
 exact fun y hy => hB y (List.mem_of_mem_drop hy)
theorem RS.on {wx wy : World} {B0 P : Nat} {v : Value} {bs : List Int} {lim o n : Nat} (h4 : ∀ wy, Kept (fun b => B0 ≤ b) wx wy → Rd .u8 wy v bs) (h5 : B0 ≤ P) (hb : Blk wy P 46 [v, .int .i64 ((o + n : Nat) : Int)]) (ho : o ≤ lim) (hk : Kept (fun b => b = P) wx wy) : RS wy B0 P v bs ((bs.drop o).drop n) (lim + n) :=
 ⟨⟨o + n, by omega, by rw [List.drop_drop], hb⟩, fun wz hz => h4 wz ((hk.mono (fun b _ e => by omega)).trans hz), h5⟩
theorem l4Num_rs {w : World} {B0 P : Nat} {v : Value} {bs rs : List Int} {lim : Nat} (n : Nat) (hB : IsB bs) (hn : n ≤ 8) (hm : lim ≤ 1000000) (hl : bs.length ≤ 1099511627776) (h : RS w B0 P v bs rs lim) :
  Calls Tryz.prog 18 #[.pointer (some ⟨P, 0, none⟩), .int .i64 n] w fun e w' => e = .returned (.int .i64 (nS rs n)) ∧ RS w' B0 P v bs (rs.drop n) (lim + n) ∧ Kept (fun b => b = P) w w' := by
 obtain ⟨⟨o, h1, rfl, h3⟩, h4, h5⟩ := h
 refine (l4Number_any P v bs o n w hB (by omega) (by omega) hl h3 (h4 w (Kept.refl _ _))).mono ?_
 rintro e w' ⟨rfl, hb, hk⟩
 exact ⟨by rw [takeB_pad]; rfl, RS.on h4 h5 hb h1 hk, hk⟩
theorem l4Take_rs {w : World} {B0 P : Nat} {v : Value} {bs rs : List Int} {lim : Nat} (n : Nat) (hn : n ≤ 65536) (hm : lim ≤ 1000000) (hl : bs.length ≤ 1099511627776) (h : RS w B0 P v bs rs lim) :
  Calls Tryz.prog 20 #[.pointer (some ⟨P, 0, none⟩), .int .i64 n] w fun e w' => ∃ g, e = .returned (.slice (some ⟨g, 0, none⟩) n n) ∧ w.heap.size ≤ g ∧ Own 0 5 .u8 w' (.slice (some ⟨g, 0, none⟩) n n) (padB rs n) ∧ RS w' B0 P v bs (rs.drop n) (lim + n) ∧ Kept (fun b => b = P) w w' := by
 obtain ⟨⟨o, h1, rfl, h3⟩, h4, h5⟩ := h
 refine (l4Take_any P v bs o n w (by omega) (by omega) hl h3 (h4 w (Kept.refl _ _))).mono ?_
 rintro e w' ⟨g, rfl, hg, ho, hb, hk⟩
 rw [takeB_pad] at ho
 exact ⟨g, rfl, hg, ho, RS.on h4 h5 hb h1 hk, hk⟩
end Go.Proofs.YtaeikeglaobeeaaGreat
