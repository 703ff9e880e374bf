import Derived.Test.YtepdakgfioffgaaGreatG09
import Derived.Test.YtepdakgfioffgaaGreatSameRec
import Derived.Test.YtepdakgfioffgaaGreatPlainRec
import Derived.Test.YtepdakgfioffgaaGreatG00
import Derived.Test.YtepdakgfioffgaaGreatG01
import Derived.Test.YtepdakgfioffgaaGreatG04
import Derived.Test.YtepdakgfioffgaaGreatG07
import Derived.Deep.AppendLies
import Derived.Maps.AppendAt
import Derived.Deep.MidRow
import Derived.Deep.DeepCutAuto
import Derived.Lib.AppendZeros
namespace Go.Proofs.YtepdakgfioffgaaGreat
set_option linter.unusedVariables false
set_option linter.unusedSimpArgs false
set_option maxRecDepth 100000
set_option maxHeartbeats 8000000
open Go.RowKit Go
def alone1 (txn prev page slot : Int) (bu : Bool) (bb : List Int) (au : Bool) (ab : List Int) (un nt : Int) (tx dy im : List Int) : Bool := decide (0 = un) && decide (0 = nt) && decide (tx.length / 4 = 0) && decide (dy.length / 2 = 0) && decide ([] = im)
def alone2 (txn prev page slot : Int) (bu : Bool) (bb : List Int) (au : Bool) (ab : List Int) (un nt : Int) (tx dy im : List Int) : Bool := (false == bu && decide ([] = bb)) && decide (0 = nt) && decide (tx.length / 4 = 0) && decide (dy.length / 2 = 0) && decide ([] = im)
def alone3 (txn prev page slot : Int) (bu : Bool) (bb : List Int) (au : Bool) (ab : List Int) (un nt : Int) (tx dy im : List Int) : Bool := decide (0 = page) && decide (0 = slot) && (false == bu && decide ([] = bb)) && (false == au && decide ([] = ab)) && decide (0 = un) && decide (0 = nt) && decide (tx.length / 4 = 0) && decide (dy.length / 2 = 0) && decide ([] = im)
def alone4 (txn prev page slot : Int) (bu : Bool) (bb : List Int) (au : Bool) (ab : List Int) (un nt : Int) (tx dy im : List Int) : Bool := decide (0 = page) && decide (0 = slot) && (false == bu && decide ([] = bb)) && (false == au && decide ([] = ab)) && decide (0 = un) && decide (0 = nt) && decide (tx.length / 4 = 0) && decide (dy.length / 2 = 0) && decide ([] = im)
def alone5 (txn prev page slot : Int) (bu : Bool) (bb : List Int) (au : Bool) (ab : List Int) (un nt : Int) (tx dy im : List Int) : Bool := decide (0 = page) && decide (0 = slot) && (false == bu && decide ([] = bb)) && (false == au && decide ([] = ab)) && decide (0 = un) && decide (0 = nt) && decide (tx.length / 4 = 0) && decide (dy.length / 2 = 0) && decide ([] = im)
def alone6 (txn prev page slot : Int) (bu : Bool) (bb : List Int) (au : Bool) (ab : List Int) (un nt : Int) (tx dy im : List Int) : Bool := decide (0 = txn) && decide (0 = prev) && decide (0 = page) && decide (0 = slot) && (false == bu && decide ([] = bb)) && (false == au && decide ([] = ab)) && decide (0 = un) && decide (0 = nt) && decide (tx.length / 4 = 0) && decide (dy.length / 2 = 0) && decide ([] = im)
def alone7 (txn prev page slot : Int) (bu : Bool) (bb : List Int) (au : Bool) (ab : List Int) (un nt : Int) (tx dy im : List Int) : Bool := decide (0 = txn) && decide (0 = prev) && decide (0 = page) && decide (0 = slot) && (false == bu && decide ([] = bb)) && (false == au && decide ([] = ab)) && decide (0 = un) && decide ([] = im)
def alone8 (txn prev page slot : Int) (bu : Bool) (bb : List Int) (au : Bool) (ab : List Int) (un nt : Int) (tx dy im : List Int) : Bool := decide (0 = txn) && decide (0 = prev) && decide (0 = slot) && (false == bu && decide ([] = bb)) && (false == au && decide ([] = ab)) && decide (0 = un) && decide (0 = nt) && decide (tx.length / 4 = 0) && decide (dy.length / 2 = 0)
def recF (kind txn prev page slot : Int) (bu : Bool) (bb : List Int) (au : Bool) (ab : List Int) (un nt : Int) (tx dy im : List Int) : Int := if kind = 1 then (if alone1 txn prev page slot bu bb au ab un nt tx dy im = true then orF (headF txn prev) (placeF page slot) (updF bu au bb.length ab.length) else 2) else if kind = 2 then (if alone2 txn prev page slot bu bb au ab un nt tx dy im = true then orF (headF txn prev) (placeF page slot) (undF au ab.length un) else 2) else if kind = 3 then (if alone3 txn prev page slot bu bb au ab un nt tx dy im = true then headF txn prev else 2) else if kind = 4 then (if alone4 txn prev page slot bu bb au ab un nt tx dy im = true then headF txn prev else 2) else if kind = 5 then (if alone5 txn prev page slot bu bb au ab un nt tx dy im = true then headF txn prev else 2) else if kind = 6 then (if alone6 txn prev page slot bu bb au ab un nt tx dy im = true then 0 else 2) else if kind = 7 then (if alone7 txn prev page slot bu bb au ab un nt tx dy im = true then tabF nt tx (tx.length / 4) dy (dy.length / 2) else 2) else if kind = 8 then (if alone8 txn prev page slot bu bb au ab un nt tx dy im = true then imgF page im else 2) else 1
abbrev F5 := Int × Int × Int × Int × Int
abbrev Q4 := Int × Int × Int × Int
abbrev U3 := Int × Int × Int
def q4z : Q4 := (0, 0, 0, 0)
def nbg {α : Type} (f : α → α → Bool) : List α → Bool
 | a :: b :: t => f a b || nbg f (b :: t)
 | _ => false
theorem nbg_iff {α : Type} (f : α → α → Bool) : ∀ ls : List α, nbg f ls = true ↔ ∃ (k : Nat) (h : k + 1 < ls.length), f ls[k] ls[k + 1] = true
 | [] => by simp [nbg]
 | [a] => by simp [nbg]
 | a :: b :: t => by
  have ih := nbg_iff f (b :: t)
  simp only [nbg, Bool.or_eq_true]
  constructor
  ·rintro (h | h)
   ·exact ⟨0, by simp, h⟩
   ·obtain ⟨k, hk, h⟩ := ih.1 h
    exact ⟨k + 1, by simpa using hk, by simpa using h⟩
  ·rintro ⟨k, hk, h⟩
   match k, hk, h with
   | 0, _, h => exact .inl h
   | k + 1, hk, h => exact .inr (ih.2 ⟨k, by simpa using hk, by simpa using h⟩)
theorem nbg_no {α : Type} {f : α → α → Bool} {ls : List α} (h : ∀ (k : Nat) (h : k + 1 < ls.length), f ls[k] ls[k + 1] = false) : nbg f ls = false := by
 cases e : nbg f ls with
 | false => rfl
 | true => obtain ⟨k, hk, hf⟩ := (nbg_iff f ls).1 e; rw [h k hk] at hf; cases hf
theorem nbg_yes {α : Type} {f : α → α → Bool} {ls : List α} (k : Nat) (h : k + 1 < ls.length) (hf : f ls[k] ls[k + 1] = true) : nbg f ls = true := (nbg_iff f ls).2 ⟨k, h, hf⟩
def fAfter (a b : F5) : Bool := decide (b.1 ≤ a.1)
def gJ (left : List Q4) : Nat → Nat
 | 0 => 0
 | i + 1 => if (left.getD (gJ left i) q4z).2.2.2 < (left.getD i q4z).2.2.2 then i else gJ left i
def quad : List Int → List Q4
 | a :: b :: c :: d :: t => (a, b, c, d) :: quad t
 | _ => []
def flat4 : List Q4 → List Int
 | [] => []
 | (a, b, c, d) :: t => a :: b :: c :: d :: flat4 t
theorem quad_length : ∀ (n : Nat) (bs : List Int), bs.length = n * 4 → (quad bs).length = n
 | 0, bs, h => by obtain rfl : bs = [] := List.length_eq_zero_iff.1 (by omega); rfl
 | n + 1, a :: b :: c :: d :: t, h => by simp [quad, quad_length n t (by simp at h; omega)]
 | n + 1, [], h => by simp at h
 | n + 1, [a], h => by simp at h; omega
 | n + 1, [a, b], h => by simp at h; omega
 | n + 1, [a, b, c], h => by simp at h; omega
theorem flat4_length : ∀ ls : List Q4, (flat4 ls).length = ls.length * 4
 | [] => rfl
 | (a, b, c, d) :: t => by simp [flat4, flat4_length t]; omega
theorem flat4_append : ∀ xs ys : List Q4, flat4 (xs ++ ys) = flat4 xs ++ flat4 ys
 | [], ys => rfl
 | (a, b, c, d) :: t, ys => by simp [flat4, flat4_append t ys]
theorem flat4_at : ∀ (ls : List Q4) (k : Nat), k < ls.length → (flat4 ls).getD (k * 4) 0 = (ls.getD k q4z).1 ∧ (flat4 ls).getD (k * 4 + 1) 0 = (ls.getD k q4z).2.1 ∧ (flat4 ls).getD (k * 4 + 2) 0 = (ls.getD k q4z).2.2.1 ∧ (flat4 ls).getD (k * 4 + 3) 0 = (ls.getD k q4z).2.2.2
 | (a, b, c, d) :: t, 0, h => by simp [flat4]
 | (a, b, c, d) :: t, k + 1, h => by
  have ih := flat4_at t k (by simpa using h)
  rw [show (k + 1) * 4 = k * 4 + 4 by omega]
  simpa [flat4, List.getD, show k * 4 + 4 + 1 = k * 4 + 1 + 4 by omega, show k * 4 + 4 + 2 = k * 4 + 2 + 4 by omega, show k * 4 + 4 + 3 = k * 4 + 3 + 4 by omega] using ih
 | [], k, h => by simp at h
theorem flat4_quad : ∀ (n : Nat) (bs : List Int), bs.length = n * 4 → flat4 (quad bs) = bs
 | 0, bs, h => by obtain rfl : bs = [] := List.length_eq_zero_iff.1 (by omega); rfl
 | n + 1, a :: b :: c :: d :: t, h => by simp [quad, flat4, flat4_quad n t (by simp at h; omega)]
 | n + 1, [], h => by simp at h
 | n + 1, [a], h => by simp at h; omega
 | n + 1, [a, b], h => by simp at h; omega
 | n + 1, [a, b, c], h => by simp at h; omega
theorem flat4_take (ls : List Q4) (k : Nat) : (flat4 ls).take (k * 4) = flat4 (ls.take k) := by
 induction ls generalizing k with
 | nil => simp [flat4]
 | cons e t ih =>
  obtain ⟨a, b, c, d⟩ := e
  cases k with
  | zero => simp [flat4]
  | succ k => rw [show (k + 1) * 4 = k * 4 + 4 by omega]; simp [flat4, ih]
theorem flat4_drop (ls : List Q4) (k : Nat) : (flat4 ls).drop (k * 4) = flat4 (ls.drop k) := by
 induction ls generalizing k with
 | nil => simp [flat4]
 | cons e t ih =>
  obtain ⟨a, b, c, d⟩ := e
  cases k with
  | zero => simp [flat4]
  | succ k => rw [show (k + 1) * 4 = k * 4 + 4 by omega]; simp [flat4, ih]
theorem RdF.quad {w : World} {e : TypeId} {b off n c : Nat} {ls : List Q4} (h : RdF 4 w ⟨e, some ⟨b, off, none⟩, n, c, flat4 ls⟩) (k : Nat) (hk : k < ls.length) (x y z u : Int) (hx : ls.getD k q4z = (x, y, z, u)) :
  w.cell? ⟨b, off + k * 4, none⟩ = some (.int .i64 x) ∧ w.cell? ⟨b, off + k * 4 + 1, none⟩ = some (.int .i64 y) ∧ w.cell? ⟨b, off + k * 4 + 2, none⟩ = some (.int .i64 z) ∧ w.cell? ⟨b, off + k * 4 + 3, none⟩ = some (.int .i64 u) := by
 have hl : (flat4 ls).length = n * 4 := h.2.1
 rw [flat4_length] at hl
 have h4 := flat4_at ls k hk
 rw [hx] at h4
 rcases h.2.2 with h0 | ⟨b', yy, he, mj, hc⟩
 ·dsimp only at h0; omega
 ·dsimp only at he hc
  injection he with he
  injection he with e1 e2
  subst e1 e2
  exact ⟨by rw [hc _ (by omega), h4.1], by rw [Nat.add_assoc, hc _ (by omega), h4.2.1], by rw [Nat.add_assoc, hc _ (by omega), h4.2.2.1], by rw [Nat.add_assoc, hc _ (by omega), h4.2.2.2]⟩
theorem RdF.someQ {m : Nat} {w : World} {x : FR} (h : RdF m w x) (h0 : 0 < x.n) : ∃ b off, x.a = some ⟨b, off, none⟩ ∧ x.n ≤ x.c := by
 rcases h.2.2 with h1 | ⟨b, off, he, mj, _⟩
 ·omega
 ·exact ⟨b, off, he, mj⟩
def OwQ (m : Nat) (e : TypeId) (w : World) (a : Option Addr) (n c : Nat) (bs : List Int) : Prop := w.ownsRow 0 e m (.slice a n c) n (vals .i64 bs)
theorem OwQ.kept {R : Nat → Prop} {m : Nat} {e : TypeId} {w w' : World} {a : Option Addr} {n c : Nat} {bs : List Int} (h : OwQ m e w a n c bs) (hk : Kept R w w') (hr : ∀ b, (Value.slice a n c).ownBlock = some b → ¬ R b) : OwQ m e w' a n c bs := hk.owns h hr
theorem OwQ.same {m : Nat} {e : TypeId} {w w' : World} {a : Option Addr} {n c : Nat} {bs : List Int} (h : OwQ m e w a n c bs) (hk : Same w w') : OwQ m e w' a n c bs := hk.owns h (fun _ _ => id)
theorem OwQ.nil (m : Nat) (e : TypeId) (w : World) : OwQ m e w none 0 0 [] := ⟨by simp [vals], .inl ⟨rfl, rfl⟩⟩
theorem OwQ.len {m : Nat} {e : TypeId} {w : World} {a : Option Addr} {n c : Nat} {bs : List Int} (h : OwQ m e w a n c bs) : bs.length = n * m := by
 have := h.1
 rwa [vals_length] at this
theorem OwQ.rows {m : Nat} {e : TypeId} {w : World} {a : Option Addr} {n c : Nat} {bs : List Int} (h : OwQ m e w a n c bs) : OwnL w (FR.rows m ⟨e, a, n, c, bs⟩) :=
 ⟨fun r hr => by rw [List.mem_singleton.1 hr]; exact h, List.pairwise_singleton _ _⟩
theorem OwQ.lt {m : Nat} {e : TypeId} {w : World} {a : Option Addr} {n c : Nat} {bs : List Int} (h : OwQ m e w a n c bs) : ∀ b, (Value.slice a n c).ownBlock = some b → b < w.heap.size := fun b hb => h.rows.lt b ((FootL_one _ _).2 hb)
theorem OwQ.rd {m : Nat} {e : TypeId} {w : World} {a : Option Addr} {n c : Nat} {bs : List Int} (h : OwQ m e w a n c bs) : RdF m w ⟨e, a, n, c, bs⟩ := FR.own_rd h.rows
theorem OwQ.form {m : Nat} {e : TypeId} {w : World} {a : Option Addr} {n c : Nat} {bs : List Int} (h : OwQ m e w a n c bs) (h0 : 0 < n) : ∃ g, a = some ⟨g, 0, none⟩ ∧ n ≤ c ∧ c ≤ maxLen ∧ OwnF m e w g n c bs := by
 rcases FR.own_form h.rows with ⟨h1, h2, h3⟩ | ⟨g, h1, h2, h3, h4⟩
 ·dsimp only at h1; omega
 ·exact ⟨g, h1, h2, h3, h4⟩
theorem OwQ.max {m : Nat} {e : TypeId} {w : World} {a : Option Addr} {n c : Nat} {bs : List Int} (h : OwQ m e w a n c bs) : n ≤ maxLen := (h.rd).1
def f5 (p : StLogFrame) : F5 := (p.lsn, p.record.kind, p.record.txn, p.record.prev, p.record.uN)
def fs5 (ps : List StLogFrame) : List F5 := ps.map f5
theorem fs5_length (ps : List StLogFrame) : (fs5 ps).length = ps.length := by simp [fs5]
theorem fs5_at (ps : List StLogFrame) (k : Nat) (h : k < ps.length) : (fs5 ps)[k]'(by rw [fs5_length]; exact h) = f5 ps[k] := by simp [fs5]
structure Grew (w : World) (v : Value) (w' : World) (v' : Value) : Prop where
 kept : Kept (fun b => v.ownBlock = some b) w w'
 own : ∀ b, v'.ownBlock = some b → v.ownBlock = some b ∨ w.heap.size ≤ b
theorem Grew.trans {w w1 w2 : World} {v v1 v2 : Value} (h : Grew w v w1 v1) (k : Grew w1 v1 w2 v2) : Grew w v w2 v2 := by
 refine ⟨h.kept.next k.kept (fun i hi e => (h.own i e).resolve_right (by omega)), fun b hb => ?_⟩
 rcases k.own b hb with h1 | h1
 ·exact h.own b h1
 ·have := h.kept.size
  exact .inr (by omega)
theorem Grew.of_same {w w' : World} {v : Value} (h : Same w w') : Grew w v w' v := ⟨h.mono (fun _ _ e => absurd e id), fun b hb => .inl hb⟩
theorem Grew.refl (w : World) (v : Value) : Grew w v w v := Grew.of_same (Kept.refl _ _)
theorem Grew.size {w w' : World} {v v' : Value} (h : Grew w v w' v') : w.heap.size ≤ w'.heap.size := h.kept.size
theorem Grew.same {w0 w w' : World} {v v' : Value} (h : Grew w v w' v') (h0 : Same w0 w) (hv : ∀ b, v.ownBlock = some b → w0.heap.size ≤ b) : Same w0 w' :=
 h0.next h.kept (fun i hi e => by have := hv i e; omega)
section
variable {α : Type} (key : α → Int)
def insK (e : α) : List α → List α
 | [] => [e]
 | x :: xs => if key e < key x then e :: x :: xs else x :: insK e xs
def getK (k : Int) (l : List α) : Option α := l.find? fun x => decide (key x = k)
def setK (k : Int) (g : α → α) (l : List α) : List α := l.map fun x => if key x = k then g x else x
def delK (k : Int) (l : List α) : List α := l.filter fun x => decide (key x ≠ k)
def Up (l : List α) : Prop := l.Pairwise fun a b => key a < key b
variable {key}
theorem getK_none {k : Int} {l : List α} : getK key k l = none ↔ ∀ x ∈ l, key x ≠ k := by simp [getK]
theorem getK_some {k : Int} {l : List α} {e : α} (h : getK key k l = some e) : e ∈ l ∧ key e = k := by
 have h1 := List.find?_some h
 exact ⟨List.mem_of_find?_eq_some h, by simpa using h1⟩
theorem getK_mid {k : Int} {pre post : List α} {e : α} (hp : ∀ x ∈ pre, key x ≠ k) (he : key e = k) : getK key k (pre ++ e :: post) = some e := by
 unfold getK
 rw [List.find?_append, List.find?_eq_none.2 (by simpa using hp)]
 simp [he]
theorem Up.post {k : Int} {pre post : List α} {e : α} (h : Up key (pre ++ e :: post)) (he : key e = k) : ∀ x ∈ post, key x ≠ k := fun x hx => by
 have h1 := (List.pairwise_append.1 h).2.1
 have h2 := (List.pairwise_cons.1 h1).1 x hx
 omega
theorem setK_miss {k : Int} {g : α → α} {l : List α} (h : ∀ x ∈ l, key x ≠ k) : setK key k g l = l := by
 unfold setK
 conv => rhs; rw [← List.map_id l]
 apply List.map_congr_left
 intro x hx
 simp [h x hx]
theorem setK_mid {k : Int} {g : α → α} {pre post : List α} {e : α} (h : Up key (pre ++ e :: post)) (hp : ∀ x ∈ pre, key x ≠ k) (he : key e = k) : setK key k g (pre ++ e :: post) = pre ++ g e :: post := by
 have h1 := setK_miss (g := g) hp
 have h2 := setK_miss (g := g) (h.post he)
 unfold setK at *
 rw [List.map_append, List.map_cons, h1, h2, if_pos he]
theorem delK_miss {k : Int} {l : List α} (h : ∀ x ∈ l, key x ≠ k) : delK key k l = l := by
 unfold delK
 exact List.filter_eq_self.2 (by simpa using h)
theorem delK_mid {k : Int} {pre post : List α} {e : α} (h : Up key (pre ++ e :: post)) (hp : ∀ x ∈ pre, key x ≠ k) (he : key e = k) : delK key k (pre ++ e :: post) = pre ++ post := by
 have h1 := delK_miss hp
 have h2 := delK_miss (h.post he)
 unfold delK at *
 rw [List.filter_append, List.filter_cons, h1, h2]
 simp [he]
theorem setK_keys {k : Int} {g : α → α} (hg : ∀ x, key (g x) = key x) (l : List α) : (setK key k g l).map key = l.map key := by
 unfold setK
 rw [List.map_map]
 apply List.map_congr_left
 intro x hx
 simp only [Function.comp]
 split <;> simp [hg]
theorem up_keys {l : List α} : Up key l ↔ (l.map key).Pairwise (· < ·) := by unfold Up; rw [List.pairwise_map]
theorem Up.setK {k : Int} {g : α → α} (hg : ∀ x, key (g x) = key x) {l : List α} (h : Up key l) : Up key (setK key k g l) := by
 rw [up_keys] at *
 rw [setK_keys hg]
 exact h
theorem Up.delK {k : Int} {l : List α} (h : Up key l) : Up key (delK key k l) := List.Pairwise.filter _ h
theorem insK_perm (e : α) (l : List α) : (insK key e l).Perm (e :: l) := by
 induction l with
 | nil => exact List.Perm.refl _
 | cons x l ih =>
  unfold insK
  split
  ·exact List.Perm.refl _
  ·exact (ih.cons x).trans (List.Perm.swap _ _ _)
theorem insK_length (e : α) (l : List α) : (insK key e l).length = l.length + 1 := by rw [(insK_perm e l).length_eq]; rfl
theorem insK_mem {e x : α} {l : List α} : x ∈ insK key e l ↔ x = e ∨ x ∈ l := by rw [(insK_perm e l).mem_iff]; exact List.mem_cons
theorem Up.insK {e : α} {l : List α} (h : Up key l) (hn : ∀ x ∈ l, key x ≠ key e) : Up key (insK key e l) := by
 induction l with
 | nil => exact List.pairwise_singleton _ _
 | cons x l ih =>
  obtain ⟨h1, h2⟩ := List.pairwise_cons.1 h
  unfold Go.Proofs.YtepdakgfioffgaaGreat.insK
  split
  ·rename_i dh
   refine List.pairwise_cons.2 ⟨fun y hy => ?_, h⟩
   rcases List.mem_cons.1 hy with rfl | hy
   ·exact dh
   ·have := h1 y hy; omega
  ·rename_i dh
   refine List.pairwise_cons.2 ⟨fun y hy => ?_, ih h2 fun y hy => hn y (List.mem_cons_of_mem _ hy)⟩
   rcases insK_mem.1 hy with rfl | hy
   ·have := hn x List.mem_cons_self; omega
   ·exact h1 y hy
theorem insK_split (e : α) (pre post : List α) (h1 : ∀ x ∈ pre, ¬ key e < key x) (h2 : ∀ x, post.head? = some x → key e < key x) : insK key e (pre ++ post) = pre ++ e :: post := by
 induction pre with
 | nil =>
  cases post with
  | nil => rfl
  | cons x post => simp only [List.nil_append, insK]; rw [if_pos (h2 x rfl)]
 | cons y pre ih =>
  simp only [List.cons_append, insK]
  rw [if_neg (h1 y List.mem_cons_self), ih fun x hx => h1 x (List.mem_cons_of_mem _ hx)]
end
abbrev F6 := Int × Int × Int × Int × Int × Int
abbrev kQ (e : Q4) : Int := e.1
abbrev kD (e : Int × Int) : Int := e.1
abbrev kI (e : Int) : Int := e
structure AzS where
 nx : Int
 tx : List Q4
 dy : List (Int × Int)
 im : List Int
def addD (e : Int × Int) (l : List (Int × Int)) : List (Int × Int) := if (getK kD e.1 l).isSome then l else insK kD e l
def addI (e : Int) (l : List Int) : List Int := if (getK kI e l).isSome then l else insK kI e l
def azU (kind lsn un : Int) (e : Q4) : Q4 :=
 (e.1, if kind = 3 then 2 else if kind = 4 then 3 else e.2.1, lsn, if kind = 1 then lsn else if kind = 2 then un else e.2.2.2)
theorem azU_key (kind lsn un : Int) (e : Q4) : kQ (azU kind lsn un e) = kQ e := rfl
def azT (s : AzS) (f : F6) : Option AzS :=
 if f.2.1 = 8 then some { s with im := addI f.2.2.2.2.1 s.im }
 else if 5 < f.2.1 then some s
 else match getK kQ f.2.2.1 s.tx with
  | some e => if e.2.2.1 ≠ f.2.2.2.1 ∨ (f.2.1 = 2 ∧ f.1 ≤ f.2.2.2.2.2) then none else some { s with nx := max s.nx (f.2.2.1 + 1), tx := if f.2.1 = 5 then delK kQ f.2.2.1 s.tx else setK kQ f.2.2.1 (azU f.2.1 f.1 f.2.2.2.2.2) s.tx, dy := if f.2.1 ≤ 2 then addD (f.2.2.2.2.1, f.1) s.dy else s.dy }
  | none => if 2 < f.2.1 ∨ 8 ≤ s.tx.length ∨ f.2.2.2.1 ≠ 0 ∨ (f.2.1 = 2 ∧ f.1 ≤ f.2.2.2.2.2) then none else some { s with nx := max s.nx (f.2.2.1 + 1), tx := insK kQ (azU f.2.1 f.1 f.2.2.2.2.2 (f.2.2.1, 1, 0, 0)) s.tx, dy := addD (f.2.2.2.2.1, f.1) s.dy }
structure AzOk (s : AzS) : Prop where
 tx : Up kQ s.tx
 dy : Up kD s.dy
 im : Up kI s.im
 few : s.tx.length ≤ 8
theorem addD_up {e : Int × Int} {l : List (Int × Int)} (h : Up kD l) : Up kD (addD e l) := by
 unfold addD
 split
 ·exact h
 ·rename_i hn
  refine h.insK fun x hx => ?_
  have : getK kD e.1 l = none := by simpa using hn
  exact getK_none.1 this x hx
theorem addI_up {e : Int} {l : List Int} (h : Up kI l) : Up kI (addI e l) := by
 unfold addI
 split
 ·exact h
 ·rename_i hn
  refine h.insK fun x hx => ?_
  have : getK kI e l = none := by simpa using hn
  exact getK_none.1 this x hx
theorem azT_ok {s s' : AzS} {f : F6} (h : AzOk s) (ht : azT s f = some s') : AzOk s' := by
 obtain ⟨h1, h2, h3, h4⟩ := h
 unfold azT at ht
 split at ht
 ·cases ht; exact ⟨h1, h2, addI_up h3, h4⟩
 split at ht
 ·cases ht; exact ⟨h1, h2, h3, h4⟩
 have hd : Up kD (if f.2.1 ≤ 2 then addD (f.2.2.2.2.1, f.1) s.dy else s.dy) := by split; (exact addD_up h2); exact h2
 split at ht
 ·split at ht
  ·cases ht
  ·cases ht
   refine ⟨?_, hd, h3, ?_⟩
   ·dsimp only
    split
    ·exact h1.delK
    ·exact h1.setK (azU_key _ _ _)
   ·dsimp only
    split
    ·exact Nat.le_trans (List.length_filter_le _ _) h4
    ·unfold setK; rw [List.length_map]; exact h4
 ·rename_i hn
  split at ht
  ·cases ht
  ·rename_i hc
   cases ht
   refine ⟨h1.insK fun x hx => getK_none.1 hn x hx, addD_up h2, h3, ?_⟩
   dsimp only
   rw [insK_length]
   omega
def azF (s : AzS) : List F6 → Option AzS
 | [] => some s
 | f :: fs => (azT s f).bind fun s' => azF s' fs
theorem azF_snoc (s : AzS) (fs : List F6) (f : F6) : azF s (fs ++ [f]) = (azF s fs).bind fun s' => azT s' f := by
 induction fs generalizing s with
 | nil => simp [azF]
 | cons g fs ih =>
  simp only [List.cons_append, azF]
  cases azT s g with
  | none => rfl
  | some s' => exact ih s'
theorem azF_none (s : AzS) (fs gs : List F6) (h : azF s fs = none) : azF s (fs ++ gs) = none := by
 induction fs generalizing s with
 | nil => simp [azF] at h
 | cons g fs ih =>
  simp only [List.cons_append, azF] at *
  cases e : azT s g with
  | none => rfl
  | some s' => rw [e] at h; exact ih s' h
theorem azF_ok {s s' : AzS} {fs : List F6} (h : AzOk s) (ht : azF s fs = some s') : AzOk s' := by
 induction fs generalizing s with
 | nil => simp only [azF] at ht; cases ht; exact h
 | cons g fs ih =>
  simp only [azF] at ht
  cases e : azT s g with
  | none => rw [e] at ht; simp at ht
  | some s1 => rw [e] at ht; exact ih (azT_ok h e) ht
def bgIs (fs : List F6) (c : Int) (i : Nat) : Bool := decide (i + 1 < fs.length) && decide ((fs.getD i (0, 0, 0, 0, 0, 0)).1 = c) && decide ((fs.getD i (0, 0, 0, 0, 0, 0)).2.1 = 6) && decide ((fs.getD (i + 1) (0, 0, 0, 0, 0, 0)).2.1 = 7)
def bgAt (fs : List F6) (c : Int) : Option Nat := (List.range (fs.length - 1)).find? (bgIs fs c)
def kpN (fs : List F6) (least : Nat) : Nat → Nat
 | 0 => 0
 | n + 1 => if least < n + 1 ∧ ((fs.getD n (0, 0, 0, 0, 0, 0)).2.1 = 6 ∨ (fs.getD n (0, 0, 0, 0, 0, 0)).2.1 = 7) then kpN fs least n else n + 1
theorem kpN_le (fs : List F6) (least : Nat) : ∀ n, kpN fs least n ≤ n
 | 0 => Nat.le_refl _
 | n + 1 => by
  unfold kpN
  split
  ·have := kpN_le fs least n; omega
  ·exact Nat.le_refl _
theorem kpN_least (fs : List F6) (least : Nat) : ∀ n, least ≤ n → least ≤ kpN fs least n
 | 0, h => h
 | n + 1, h => by
  unfold kpN
  split
  ·exact kpN_least fs least n (by omega)
  ·exact h
theorem run_appQ {TS TE ty : TypeId} {i : TypeInfo} {z : Value} {m bytes : Nat} (ht : Tryz.prog.underlying TS = some (.slice TE)) (hi : Tryz.prog.info? TE = some i) (j9 : i.zero = some z) (j0 : i.size = m) (l9 : i.bytes = bytes) (Dl : z.cells.size = m) (hm : 0 < m) (uD : bytes ≤ 1024)
  {w : World} {a : Option Addr} {n c : Nat} {bs : List Int} (ho : OwQ m TE w a n c bs) (ad : Addr) (k c2 : Nat) (ys : List Int) (hl : ys.length = k * m) (hn : ∀ j u, (vals .i64 ys)[j]? = some u → w.cell? (ad.add j) = some u) (mj : n + k ≤ 1073741824) :
  ∃ a' c' w', (Builtin.append_ #[TS, TS] ty #[.slice a n c, .slice (some ad) k c2]).run Tryz.prog w = .ok (.slice a' (n + k) c') w' ∧ OwQ m TE w' a' (n + k) c' (bs ++ ys) ∧ Grew w (.slice a n c) w' (.slice a' (n + k) c') := by
 obtain ⟨v', w', hr, h2, h3, _, h5⟩ := run_append_own_at (P := Tryz.prog) w 0 TS ty TE i z m bytes ht hi j9 j0 l9 Dl hm (.slice a n c) n (vals .i64 bs) ho ad k c2 (vals .i64 ys) (by simp [vals_length, hl]) hn vals_one (by unfold maxLen; omega) (by have := Nat.mul_le_mul mj uD; omega) (Nat.zero_le _)
 have oZ : w'.ownsRow 0 TE m v' (n + k) (vals .i64 (bs ++ ys)) := by simpa [vals] using h2
 obtain ⟨a', c', rfl⟩ : ∃ a' c', v' = .slice a' (n + k) c' := by
  rcases oZ.2 with ⟨h, h0⟩ | ⟨g, cap, xs, h, _⟩
  ·exact ⟨none, 0, by rw [h, h0]⟩
  ·exact ⟨_, _, h⟩
 refine ⟨a', c', w', hr, oZ, Kept.of_grown h3 (fun k e => e), fun b hb => ?_⟩
 rcases h5 with h5 | h5
 ·exact .inl (by rw [← h5]; exact hb)
 ·rw [h5] at hb
  exact .inr (by have := Option.some.inj hb; omega)
section
variable {α : Type} {key : α → Int}
theorem insK_all (e : α) (l : List α) (h : ∀ x ∈ l, ¬ key e < key x) : insK key e l = l ++ [e] := by
 have := insK_split (key := key) e l [] h (fun x hx => by simp at hx)
 simpa using this
theorem insK_now (e x : α) (l : List α) (h : ∀ y ∈ l, ¬ key e < key y) (hx : key e < key x) : insK key e (l ++ [x]) = l ++ [e, x] := by
 rw [insK_split e l [x] h (fun y hy => by simp at hy; subst hy; exact hx)]
theorem insK_then (e x : α) : ∀ (l : List α), (∃ y ∈ l, key e < key y) → insK key e (l ++ [x]) = insK key e l ++ [x]
 | [], h => by simp at h
 | a :: l, h => by
  simp only [List.cons_append, insK]
  by_cases h1 : key e < key a
  ·rw [if_pos h1, if_pos h1]; rfl
  ·rw [if_neg h1, if_neg h1]
   have h2 : ∃ y ∈ l, key e < key y := by
    obtain ⟨y, hy, h3⟩ := h
    rcases List.mem_cons.1 hy with rfl | hy
    ·exact absurd h3 h1
    ·exact ⟨y, hy, h3⟩
   rw [insK_then e x l h2]
   rfl
def Put (key : α → Int) (e : α) (l : List α) (done : Bool) (out : List α) : Prop :=
 (done = false ∧ out = l ∧ ∀ x ∈ l, ¬ key e < key x) ∨ (done = true ∧ out = insK key e l ∧ ∃ y ∈ l, key e < key y)
theorem Put.nil (e : α) : Put key e [] false [] := .inl ⟨rfl, rfl, fun x h => by simp at h⟩
theorem Put.now {e x : α} {l out : List α} (h : Put key e l false out) (hx : key e < key x) : Put key e (l ++ [x]) true (out ++ [e] ++ [x]) := by
 rcases h with ⟨_, rfl, h⟩ | ⟨h, _⟩
 ·exact .inr ⟨rfl, by rw [insK_now e x _ h hx]; simp, ⟨x, by simp, hx⟩⟩
 ·cases h
theorem Put.not {e x : α} {l out : List α} (h : Put key e l false out) (hx : ¬ key e < key x) : Put key e (l ++ [x]) false (out ++ [x]) := by
 rcases h with ⟨_, rfl, h⟩ | ⟨h, _⟩
 ·exact .inl ⟨rfl, rfl, fun y hy => by
   rcases List.mem_append.1 hy with hy | hy
   ·exact h y hy
   ·simp at hy; subst hy; exact hx⟩
 ·cases h
theorem Put.then {e x : α} {l out : List α} (h : Put key e l true out) : Put key e (l ++ [x]) true (out ++ [x]) := by
 rcases h with ⟨h, _⟩ | ⟨_, rfl, y, hy, h⟩
 ·cases h
 ·exact .inr ⟨rfl, (insK_then e x l ⟨y, hy, h⟩).symm, y, List.mem_append_left _ hy, h⟩
theorem Put.last {e : α} {l out : List α} (h : Put key e l false out) : insK key e l = out ++ [e] := by
 rcases h with ⟨_, rfl, h⟩ | ⟨h, _⟩
 ·exact insK_all e _ h
 ·cases h
theorem Put.end {e : α} {l out : List α} (h : Put key e l true out) : insK key e l = out := by
 rcases h with ⟨h, _⟩ | ⟨_, rfl, _⟩
 ·cases h
 ·rfl
theorem Put.length {e : α} {l out : List α} {d : Bool} (h : Put key e l d out) : out.length ≤ l.length + 1 := by
 rcases h with ⟨_, rfl, _⟩ | ⟨_, rfl, _⟩
 ·omega
 ·rw [insK_length]; omega
end
def FrC (w : World) (b off : Nat) (ps : List StLogFrame) : Prop := ∀ j i, (h : j < ps.length) → i < 16 → w.cell? ⟨b, off + (j * 16 + i), none⟩ = (kFr.cells ps[j])[i]?
theorem FrC.same {w w' : World} {b off : Nat} {ps : List StLogFrame} (h : FrC w b off ps) (hk : Same w w') : FrC w' b off ps := fun j i hj hi => by
 have h1 := h j i hj hi
 rw [List.getElem?_eq_getElem (by rw [kFr.len]; exact hi)] at h1 ⊢
 exact hk.cellOf h1 id
theorem FrC.lsn {w : World} {b off : Nat} {ps : List StLogFrame} (h : FrC w b off ps) (k : Nat) (hk : k < ps.length) : w.cell? ⟨b, off + k * 16, none⟩ = some (.int .i64 (f5 ps[k]).1) := by
 have := h k 0 hk (by omega)
 simpa [kFr, StLogFrame.cells, f5] using this
def recCells (r : StLogRecord) : List Value := [.int .i64 r.kind, .int .i64 r.txn, .int .i64 r.prev, .int .i64 r.page, .int .i64 r.slot, .bool r.before.used, r.before.data.v, .bool r.after.used, r.after.data.v, .int .i64 r.uN, .int .i64 r.nT, r.txns.v, r.dirty.v, r.image.v]
theorem recCells_one (r : StLogRecord) : (recCells r).toArray.all (·.oneCell') = true := all_oneCell_toArray (fun v hv => by
 simp only [recCells, List.mem_cons, List.not_mem_nil, or_false] at hv
 rcases hv with rfl | rfl | rfl | rfl | rfl | rfl | rfl | rfl | rfl | rfl | rfl | rfl | rfl | rfl <;> rfl)
theorem FrC.rec {w : World} {b off : Nat} {ps : List StLogFrame} (h : FrC w b off ps) (k : Nat) (hk : k < ps.length) : w.rangeAt b (off + k * 16 + 2) (recCells ps[k].record) := fun j v hv => by
 have hj : j < 14 := by have := (List.getElem?_eq_some_iff.1 hv).1; simpa [recCells] using this
 have h1 := h k (j + 2) hk (by omega)
 rw [show off + (k * 16 + (j + 2)) = off + k * 16 + 2 + j from by omega] at h1
 rw [h1, ← hv]
 simp [kFr, StLogFrame.cells, recCells]
theorem specRises_any (v : Value) (ps : List StLogFrame) (w : World) (hv : RdFr w v ps) :
  Calls Tryz.prog 15 #[v] w fun e w' => e = .returned (.bool (!nbg fAfter (fs5 ps))) ∧ Same w w' := by
 have hm : ps.length ≤ maxLen := hv.row.max
 unfold maxLen at hm
 have Hq := fs5_length ps
 obtain ⟨B, hB⟩ : ∃ B, nbg fAfter (fs5 ps) = B := ⟨_, rfl⟩
 rw [hB]
 rcases hv.row.row with ⟨rfl, a, c, rfl⟩ | ⟨b, off, c, rfl, hc⟩
 ·have : B = false := by rw [← hB]; rfl
  subst this
  clear hv hm Hq hB
  go_enter Tryz.func15, Tryz.ntmps15
  go_wp2_with fail
  refine wp_loop_rounds 1 ?_
  rw [rounds_succ]
  go_wp2
  go_ret
  exact ⟨rfl, Kept.refl _ _⟩
 ·have HC : Hid (FrC w b off ps) := hc
  have HB := hid hB
  have Ek := hid Hq
  clear hc hv hB Hq
  generalize hl : ps.length = L at *
  have HL := hid hl
  clear hl
  go_enter Tryz.func15, Tryz.ntmps15
  go_wp2_with fail
  go_loopw [3] (fun i wr => ∃ j : Nat, 1 ≤ j ∧ (j ≤ L ∨ j = 1) ∧ i = .int .i64 j ∧ Hid (∀ (i : Nat) (h : i + 1 < (fs5 ps).length), i + 1 < j → fAfter (fs5 ps)[i] (fs5 ps)[i + 1] = false) ∧ Hid (Same w wr)) (fun i _ => L - (intOf i).toNat)
  case atStart => exact ⟨1, by omega, .inr rfl, rfl, fun i h hj => by omega, Kept.refl _ _⟩
  case round =>
   obtain ⟨j, uO, hj, rfl, jv, ef⟩ := hrel
   by_cases dh : j < L
   ·obtain ⟨m, rfl⟩ : ∃ m, j = m + 1 := ⟨j - 1, by omega⟩
    have lD : m < ps.length := by rw [HL.out]; omega
    have nE : m + 1 < ps.length := by rw [HL.out]; omega
    have ca := (HC.out.same ef.out).lsn m lD
    have cb := (HC.out.same ef.out).lsn (m + 1) nE
    have Ol := hid (fs5_at ps m lD)
    have QG := hid (fs5_at ps (m + 1) nE)
    obtain ⟨x, hx⟩ : ∃ x, (f5 ps[m]).1 = x := ⟨_, rfl⟩
    obtain ⟨y, hy⟩ : ∃ y, (f5 ps[m + 1]).1 = y := ⟨_, rfl⟩
    rw [hx] at ca
    rw [hy] at cb
    have HX := hid hx
    have HY := hid hy
    have em : ((m + 1 : Nat) : Int) - 1 = (m : Int) := by omega
    have mm : (m : Int) < (L : Int) := by omega
    clear hx hy
    by_cases h1 : y ≤ x
    ·go_wp2
     go_quiet (fail)
     go_wp2
     go_ret
     refine ⟨?_, ef.out.drewN _⟩
     have h := nbg_yes (f := fAfter) (ls := fs5 ps) m (by rw [Ek.out]; omega) (by rw [Ol.out, QG.out]; simp only [fAfter, HX.out, HY.out]; simpa using h1)
     rw [HB.out] at h
     rw [h]
     rfl
    ·go_wp2
     go_quiet (fail)
     go_wp2
     go_roundw
     case rel => exact ⟨m + 1 + 1, by omega, by omega, by go_num, fun i hi hj => by
      by_cases hik : i + 1 < m + 1
      ·exact jv.out i hi hik
      ·obtain rfl : i = m := by omega
       rw [Ol.out, QG.out]; simp only [fAfter, HX.out, HY.out]; simpa using h1, ef.out.drewN _⟩
     case measure => simp [intOf]; omega
   ·go_wp2
    go_ret
    have h := nbg_no (f := fAfter) (ls := fs5 ps) (fun i hi => jv.out i hi (by have := Ek.out; omega))
    rw [HB.out] at h
    exact ⟨by rw [h]; rfl, ef.out⟩
theorem getD_at {ls : List Q4} {k : Nat} (h : k < ls.length) : ls.getD k q4z = ls[k] := by rw [List.getD_eq_getElem?_getD, List.getElem?_eq_getElem h]; rfl
def FoundQ (ls : List Q4) (t r : Int) : Prop := (r = -1 ∧ ∀ x ∈ ls, kQ x ≠ t) ∨ ∃ pre q post, ls = pre ++ q :: post ∧ (∀ x ∈ pre, kQ x ≠ t) ∧ kQ q = t ∧ r = (pre.length : Int)
theorem found_at {ls : List Q4} {t : Int} (k : Nat) (hk : k < ls.length) (h : ∀ i, i < k → (ls.getD i q4z).1 ≠ t) (e : (ls.getD k q4z).1 = t) : FoundQ ls t k := by
 rw [getD_at hk] at e
 refine .inr ⟨ls.take k, ls[k], ls.drop (k + 1), by simp, fun x hx => ?_, e, by rw [List.length_take]; congr 1; omega⟩
 obtain ⟨i, hi, rfl⟩ := List.getElem_of_mem hx
 rw [List.length_take] at hi
 have := h i (by omega)
 rw [getD_at (by omega)] at this
 simpa using this
theorem found_no {ls : List Q4} {t : Int} (h : ∀ i, i < ls.length → (ls.getD i q4z).1 ≠ t) : FoundQ ls t (-1) := .inl ⟨rfl, fun x hx => by
 obtain ⟨i, hi, rfl⟩ := List.getElem_of_mem hx
 have := h i hi
 rw [getD_at hi] at this
 exact this⟩
theorem specFind_any {TE : TypeId} (a : Option Addr) (n c : Nat) (ls : List Q4) (t : Int) (w : World) (hl : ls.length = n) (h : RdF 4 w ⟨TE, a, n, c, flat4 ls⟩) :
  Calls Tryz.prog 19 #[.slice a n c, .int .i64 t] w fun e w' => ∃ r : Int, e = .returned (.int .i64 r) ∧ FoundQ ls t r ∧ Same w w' := by
 have hm : n ≤ maxLen := h.1
 unfold maxLen at hm
 by_cases h0 : n = 0
 ·subst h0
  obtain rfl : ls = [] := List.length_eq_zero_iff.1 hl
  clear h hl hm
  go_enter Tryz.func19, Tryz.ntmps19
  go_wp2_with fail
  refine wp_loop_rounds 1 ?_
  rw [rounds_succ]
  go_wp2
  go_ret
  exact ⟨_, rfl, found_no (fun i hi => by simp at hi), Kept.refl _ _⟩
 ·obtain ⟨b, off, e, _⟩ := h.someQ (by dsimp only; omega)
  dsimp only at e
  subst e
  have HR := hid h
  have HL := hid hl
  clear h hl
  go_enter Tryz.func19, Tryz.ntmps19
  go_wp2_with fail
  go_loopw [5] (fun i wr => ∃ j : Nat, j ≤ n ∧ i = .int .i64 j ∧ Hid (∀ i, i < j → (ls.getD i q4z).1 ≠ t) ∧ Hid (Same w wr)) (fun i _ => n - (intOf i).toNat)
  case atStart => exact ⟨0, by omega, rfl, fun i hi => by omega, Kept.refl _ _⟩
  case round =>
   obtain ⟨j, hj, rfl, jv, ef⟩ := hrel
   by_cases dh : j < n
   ·have mT : j < ls.length := by rw [HL.out]; exact dh
    obtain ⟨x, y, z, u⟩ : Q4 := (0, 0, 0, 0)
    obtain ⟨x, y, z, u, hx⟩ : ∃ x y z u, ls.getD j q4z = (x, y, z, u) := ⟨_, _, _, _, rfl⟩
    have c0 := ef.out.cellOf (HR.out.quad j mT x y z u hx).1 id
    have HX := hid hx
    clear hx
    have jj : (j : Int) < (n : Int) := by omega
    by_cases h1 : x = t
    ·go_wp2
     go_ret
     exact ⟨_, rfl, found_at j mT jv.out (by rw [HX.out]; exact h1), ef.out⟩
    ·go_wp2
     go_roundw
     case rel => exact ⟨j + 1, by omega, by go_num, fun i hi => by
      by_cases e : i < j
      ·exact jv.out i e
      ·obtain rfl : i = j := by omega
       rw [HX.out]
       exact h1, ef.out⟩
     case measure => simp [intOf]; omega
   ·obtain rfl : j = n := by omega
    go_wp2
    go_ret
    exact ⟨_, rfl, found_no (fun i hi => jv.out i (by rw [HL.out] at hi; exact hi)), ef.out⟩
def f6 (p : StLogFrame) : F6 := (p.lsn, p.record.kind, p.record.txn, p.record.prev, p.record.page, p.record.uN)
def fs6 (ps : List StLogFrame) : List F6 := ps.map f6
theorem fs6_length (ps : List StLogFrame) : (fs6 ps).length = ps.length := by simp [fs6]
theorem fs6_at (ps : List StLogFrame) (k : Nat) (h : k < ps.length) : (fs6 ps).getD k (0, 0, 0, 0, 0, 0) = f6 ps[k] := by rw [List.getD_eq_getElem?_getD]; simp [fs6, h]
theorem FrC.kind {w : World} {b off : Nat} {ps : List StLogFrame} (h : FrC w b off ps) (k : Nat) (hk : k < ps.length) : w.cell? ⟨b, off + k * 16 + 2, none⟩ = some (.int .i64 ps[k].record.kind) := by
 have := h k 2 hk (by omega)
 rw [show off + (k * 16 + 2) = off + k * 16 + 2 from by omega] at this
 simpa [kFr, StLogFrame.cells] using this
theorem bgAt_no {fs : List F6} {c : Int} (h : ∀ i, i + 1 < fs.length → bgIs fs c i = false) : bgAt fs c = none := by
 unfold bgAt
 rw [List.find?_eq_none]
 intro i hi
 rw [List.mem_range] at hi
 rw [h i (by omega)]
 simp
theorem bgAt_yes {fs : List F6} {c : Int} (k : Nat) (hk : k + 1 < fs.length) (h : ∀ i, i < k → bgIs fs c i = false) (e : bgIs fs c k = true) : bgAt fs c = some k := by
 unfold bgAt
 rw [List.find?_range_eq_some]
 exact ⟨e, by simp; omega, fun j hj => by rw [h j hj]; rfl⟩
def bgR (fs : List F6) (c : Int) : Int := match bgAt fs c with | none => -1 | some k => (k : Int)
theorem bgR_no {fs : List F6} {c : Int} (h : ∀ i, i + 1 < fs.length → bgIs fs c i = false) : bgR fs c = -1 := by unfold bgR; rw [bgAt_no h]
theorem bgR_yes {fs : List F6} {c : Int} (k : Nat) (hk : k + 1 < fs.length) (h : ∀ i, i < k → bgIs fs c i = false) (e : bgIs fs c k = true) : bgR fs c = k := by unfold bgR; rw [bgAt_yes k hk h e]
theorem specBegin_any (v : Value) (ps : List StLogFrame) (c : Int) (w : World) (hv : RdFr w v ps) :
  Calls Tryz.prog 14 #[v, .int .i64 c] w fun e w' => e = .returned (.int .i64 (bgR (fs6 ps) c)) ∧ Same w w' := by
 have hm : ps.length ≤ maxLen := hv.row.max
 unfold maxLen at hm
 have yd := fs6_length ps
 obtain ⟨B, hB⟩ : ∃ B, bgR (fs6 ps) c = B := ⟨_, rfl⟩
 rw [hB]
 rcases hv.row.row with ⟨rfl, a, cc, rfl⟩ | ⟨b, off, cc, rfl, hc⟩
 ·have : B = -1 := by rw [← hB]; exact bgR_no (fun i h => by simp [fs6] at h)
  subst this
  clear hv hm yd hB
  go_enter Tryz.func14, Tryz.ntmps14
  go_wp2_with fail
  refine wp_loop_rounds 1 ?_
  rw [rounds_succ]
  go_wp2
  go_ret
  exact ⟨rfl, Kept.refl _ _⟩
 ·have HC : Hid (FrC w b off ps) := hc
  have HB := hid hB
  have Dr := hid yd
  clear hc hv hB yd
  generalize hl : ps.length = L at *
  have HL := hid hl
  clear hl
  go_enter Tryz.func14, Tryz.ntmps14
  go_wp2_with fail
  go_loopw [5] (fun i wr => ∃ j : Nat, (j < L ∨ j = 0) ∧ i = .int .i64 j ∧ Hid (∀ i, i < j → bgIs (fs6 ps) c i = false) ∧ Hid (Same w wr)) (fun i _ => L - (intOf i).toNat)
  case atStart => exact ⟨0, .inr rfl, rfl, fun i hi => by omega, Kept.refl _ _⟩
  case round =>
   obtain ⟨j, hj, rfl, jv, ef⟩ := hrel
   have ej : (j : Int) + 1 ≤ 9223372036854775807 := by omega
   by_cases dh : j + 1 < L
   ·have lD : j < ps.length := by rw [HL.out]; omega
    have nE : j + 1 < ps.length := by rw [HL.out]; omega
    have ca := (HC.out.same ef.out).lsn j lD
    have ck := (HC.out.same ef.out).kind j lD
    have cn := (HC.out.same ef.out).kind (j + 1) nE
    have zS : bgIs (fs6 ps) c j = (decide ((f5 ps[j]).1 = c) && decide (ps[j].record.kind = 6) && decide (ps[j + 1].record.kind = 7)) := by
     unfold bgIs
     rw [fs6_at ps j lD, fs6_at ps (j + 1) nE, fs6_length]
     simp only [nE, decide_true, Bool.true_and]
     rfl
    obtain ⟨x, hx⟩ : ∃ x, (f5 ps[j]).1 = x := ⟨_, rfl⟩
    obtain ⟨y, hy⟩ : ∃ y, ps[j].record.kind = y := ⟨_, rfl⟩
    obtain ⟨z, hz⟩ : ∃ z, ps[j + 1].record.kind = z := ⟨_, rfl⟩
    rw [hx, hy, hz] at zS
    have B2 := hid zS
    clear zS
    rw [hx] at ca
    rw [hy] at ck
    rw [hz] at cn
    clear hx hy hz
    have em : (j : Int) + 1 < (L : Int) := by omega
    have SZ : (j : Int) < (L : Int) := by omega
    have et : ((j : Int) + 1).toNat = j + 1 := by omega
    have e0 : 0 ≤ (j : Int) + 1 := by omega
    by_cases hh : x = c ∧ y = 6 ∧ z = 7
    ·obtain ⟨h1, h2, h3⟩ := hh
     go_wp2
     go_ret
     refine ⟨?_, ef.out⟩
     have h := bgR_yes j (by rw [Dr.out]; omega) jv.out (by rw [B2.out]; simp [h1, h2, h3])
     rw [HB.out] at h
     rw [h]
     rfl
    ·have hN : bgIs (fs6 ps) c j = false := by rw [B2.out]; simp only [Bool.and_eq_false_iff, decide_eq_false_iff_not]; omega
     have HN := hid hN
     clear hN
     have fin : ∀ i, i < j + 1 → bgIs (fs6 ps) c i = false := fun i hi => by
      by_cases e : i < j
      ·exact jv.out i e
      ·obtain rfl : i = j := by omega
       exact HN.out
     have HF := hid fin
     clear fin
     by_cases h1 : x = c
     ·by_cases h2 : y = 6
      ·have h3 : ¬ z = 7 := fun h3 => hh ⟨h1, h2, h3⟩
       clear hh
       have Od : (z == 7) = false := by simp [h3]
       have d3 : decide (z = 7) = false := by simp [h3]
       go_wp2
       go_roundw
       case rel => exact ⟨j + 1, by omega, by go_num, HF.out, ef.out⟩
       case measure => simp [intOf]; omega
      ·clear hh
       go_wp2
       go_roundw
       case rel => exact ⟨j + 1, by omega, by go_num, HF.out, ef.out⟩
       case measure => simp [intOf]; omega
     ·clear hh
      go_wp2
      go_roundw
      case rel => exact ⟨j + 1, by omega, by go_num, HF.out, ef.out⟩
      case measure => simp [intOf]; omega
   ·have em : ¬ (j : Int) + 1 < (L : Int) := by omega
    go_wp2
    go_ret
    refine ⟨?_, ef.out⟩
    have h := bgR_no (fs := fs6 ps) (c := c) (fun i hi => jv.out i (by rw [Dr.out] at hi; omega))
    rw [HB.out] at h
    rw [h]
    rfl
structure AzL (m : Nat) (TE : TypeId) (lo : Nat) (w wr : World) (oa : Option Addr) (on oc : Nat) (bs : List Int) : Prop where
 own : OwQ m TE wr oa on oc bs
 foot : ∀ b, (Value.slice oa on oc).ownBlock = some b → lo ≤ b
 same : Same w wr
 low : w.heap.size ≤ lo
 size : lo ≤ wr.heap.size
theorem AzL.next {m : Nat} {TE : TypeId} {lo : Nat} {w wr wq : World} {oa : Option Addr} {on oc : Nat} {bs : List Int} (h : AzL m TE lo w wr oa on oc bs) (hk : Same wr wq) : AzL m TE lo w wq oa on oc bs :=
 ⟨h.own.same hk, h.foot, h.same.trans hk, h.low, Nat.le_trans h.size hk.size⟩
theorem AzL.app {TS TE : TypeId} {i : TypeInfo} {z : Value} {m bytes : Nat} (ht : Tryz.prog.underlying TS = some (.slice TE)) (hi : Tryz.prog.info? TE = some i) (j9 : i.zero = some z) (j0 : i.size = m) (l9 : i.bytes = bytes) (Dl : z.cells.size = m) (hm : 0 < m) (uD : bytes ≤ 1024)
  {lo : Nat} {w wr : World} {oa : Option Addr} {on oc : Nat} {bs : List Int} (h : AzL m TE lo w wr oa on oc bs) (ys : List Int) (UP : ys.length = m) (mj : on + 1 ≤ 1073741824) :
  ∃ a' c' w', (Builtin.append_ #[TS, TS] TS #[.slice oa on oc, .slice (some ⟨wr.heap.size, 0, none⟩) 1 1]).run Tryz.prog (wr.alloc (.cells (vals .i64 ys).toArray TE)) = .ok (.slice a' (on + 1) c') w' ∧ AzL m TE lo w w' a' (on + 1) c' (bs ++ ys) ∧ Kept (fun b => lo ≤ b) wr w' := by
 have hs : Same wr (wr.alloc (.cells (vals .i64 ys).toArray TE)) := sameA wr (vals .i64 ys) TE
 have hb := Blk.newL wr (vals .i64 ys) TE
 obtain ⟨a', c', w', hr, ho, hg⟩ := run_appQ (ty := TS) ht hi j9 j0 l9 Dl hm uD (h.own.same hs) ⟨wr.heap.size, 0, none⟩ 1 1 ys (by omega) (fun j u hu => by rw [show (⟨wr.heap.size, 0, none⟩ : Addr).add j = ⟨wr.heap.size, j, none⟩ from by unfold Addr.add; split; (next h => subst h; rfl); simp, hb.cell j]; exact hu) mj
 have hk : Kept (fun b => lo ≤ b) wr w' := (hs.mono (fun _ _ e => absurd e id)).trans (hg.kept.mono (fun b _ e => h.foot b e))
 refine ⟨a', c', w', hr, ⟨ho, fun b om => ?_, ?_, h.low, Nat.le_trans h.size hk.size⟩, hk⟩
 ·rcases hg.own b om with e | e
  ·exact h.foot b e
  ·have := h.size
   have := hs.size
   omega
 ·exact h.same.next hk (fun b om hr => by have := h.low; omega)
theorem empty4 (w : World) (e : TypeId) (m : Nat) : OwQ m e (w.alloc (.cells #[] e)) (some ⟨w.heap.size, 0, none⟩) 0 0 [] :=
 ⟨by simp [vals], .inr ⟨w.heap.size, 0, #[], rfl, Nat.zero_le _, Blk.new w #[] e, Nat.le_refl _, Nat.zero_le _, by simp, by simp [vals]⟩⟩
theorem specAddTxn_any (a : Option Addr) (n c : Nat) (ls : List Q4) (e0 e1 e2 e3 : Int) (w : World) (hl : ls.length = n) (h : RdF 4 w ⟨57, a, n, c, flat4 ls⟩) (hn : n ≤ 1000000) :
  Calls Tryz.prog 20 #[.slice a n c, .agg #[.int .i64 e0, .int .i64 e1, .int .i64 e2, .int .i64 e3]] w fun e w' => ∃ a' n' c', e = .returned (.slice a' n' c') ∧ OwQ 4 57 w' a' n' c' (flat4 (insK kQ (e0, e1, e2, e3) ls)) ∧ (∀ b, (Value.slice a' n' c').ownBlock = some b → w.heap.size ≤ b) ∧ Same w w' := by
 obtain ⟨i4, pZ, lj, lq, lf⟩ := info_parts Tryz.infoTxnEntry
 have kA := (show ∀ (wr : World) (oa : Option Addr) (on oc : Nat) (out : List Q4) (q : Q4), on ≤ 2000000 → AzL 4 57 (w.heap.size + 1) w wr oa on oc (flat4 out) → ∃ a' c' w', (Builtin.append_ #[26, 26] 26 #[.slice oa on oc, .slice (some ⟨wr.heap.size, 0, none⟩) 1 1]).run Tryz.prog (wr.alloc (.cells #[.int .i64 q.1, .int .i64 q.2.1, .int .i64 q.2.2.1, .int .i64 q.2.2.2] 57)) = .ok (.slice a' (on + 1) c') w' ∧ AzL 4 57 (w.heap.size + 1) w w' a' (on + 1) c' (flat4 (out ++ [q])) ∧ Kept (fun b => w.heap.size + 1 ≤ b) wr w' from fun wr oa on oc out q Ch h => by
  obtain ⟨a', c', w', h1, h2, h3⟩ := AzL.app Tryz.underlying26 pZ lj lq lf rfl (by omega) (by omega) h [q.1, q.2.1, q.2.2.1, q.2.2.2] rfl (by omega)
  refine ⟨a', c', w', h1, ?_, h3⟩
  rw [flat4_append]
  exact h2)
 have KA := hid kA
 clear kA pZ lj lq lf
 have b0 := Blk.newL w [.int .i64 e0, .int .i64 e1, .int .i64 e2, .int .i64 e3] 57
 have ep := sameA w [.int .i64 e0, .int .i64 e1, .int .i64 e2, .int .i64 e3] 57
 have cv := hid b0
 have bk := hid ep
 have HR := hid h
 have HL := hid hl
 clear b0 ep h hl
 go_enter Tryz.func20, Tryz.ntmps20
 go_wp2_with fail
 have xC : OwQ 4 57 ((w.alloc (.cells #[.int .i64 e0, .int .i64 e1, .int .i64 e2, .int .i64 e3] 57)).alloc (.cells #[] 57)) (some ⟨w.heap.size + 1, 0, none⟩) 0 0 (flat4 []) := by
  have h := empty4 (w.alloc (.cells #[.int .i64 e0, .int .i64 e1, .int .i64 e2, .int .i64 e3] 57)) 57 4
  rw [World.size_alloc] at h
  exact h
 have qL := hid xC
 clear xC
 go_loopw [5, 6, 7] (fun o d i wr => ∃ (j : Nat) (oa : Option Addr) (on oc : Nat) (out : List Q4) (dn : Bool), j ≤ n ∧ i = .int .i64 j ∧ o = .slice oa on oc ∧ d = .bool dn ∧ on ≤ j + 1 ∧ Hid (AzL 4 57 (w.heap.size + 1) w wr oa on oc (flat4 out)) ∧ Hid (Put kQ (e0, e1, e2, e3) (ls.take j) dn out) ∧ Hid (Blk wr w.heap.size 57 [.int .i64 e0, .int .i64 e1, .int .i64 e2, .int .i64 e3])) (fun _ _ i _ => n - (intOf i).toNat)
 case atStart => exact ⟨0, _, _, _, [], false, by omega, rfl, rfl, rfl, by omega, ⟨qL.out, fun b hb => (by have h : w.heap.size + 1 = b := (by simpa [Value.ownBlock] using hb); omega), bk.out.alloc _, by omega, by simp only [World.size_alloc]; omega⟩, Put.nil _, cv.out.same ((Kept.refl _ _).alloc _)⟩
 case round =>
  obtain ⟨j, oa, on, oc, out, dn, hj, rfl, rfl, rfl, Ch, HA, HP, HB⟩ := hrel
  by_cases dh : j < n
  ·have mT : j < ls.length := by rw [HL.out]; exact dh
   obtain ⟨x, y, z, u, hx⟩ : ∃ x y z u, ls.getD j q4z = (x, y, z, u) := ⟨_, _, _, _, rfl⟩
   obtain ⟨b, off, ea, _⟩ := HR.out.someQ (by dsimp only; omega)
   dsimp only at ea
   subst ea
   have cq := HR.out.quad j mT x y z u hx
   have nD : ls.take (j + 1) = ls.take j ++ [(x, y, z, u)] := by rw [List.take_succ_eq_append_getElem mT, ← getD_at mT, hx]
   have nN := hid nD
   have k4 := hid cq
   clear hx cq nD
   have jj : (j : Int) < (n : Int) := by omega
   have c0 := (HA.out.same).cellOf k4.out.1 id
   obtain ⟨k0, k1, k2, k3⟩ := HB.out.all4
   cases dn with
   | true =>
    go_wp2_with fail
    go_quiet (fail)
    have hq : Same wr (wr.drewN nq) := (Kept.refl _ _).drewN _
    generalize wr.drewN nq = wq at *
    have mN := hid (HA.out.next hq)
    have qx := hid (HB.out.same hq)
    clear hq c0 k0 k1 k2 k3
    obtain ⟨a2, c2, w2, jR, kg, lu⟩ := KA.out wq oa on oc out (x, y, z, u) (by omega) mN.out
    have i7 := hid jR
    have fJ := hid kg
    have cx := hid (qx.out.kept lu (by omega))
    have d0 := mN.out.same.cellOf k4.out.1 id
    have d1 := mN.out.same.cellOf k4.out.2.1 id
    have d2 := mN.out.same.cellOf k4.out.2.2.1 id
    have d3 := mN.out.same.cellOf k4.out.2.2.2 id
    clear jR kg lu
    go_wp2_with (at_builtin; refine Lib.wpList_append_run _ rfl _ _ _ _ rfl _ _ rfl rfl _ _ i7.out ?_)
    go_roundw
    case rel => exact ⟨j + 1, _, _, _, _, true, by omega, by go_num, rfl, rfl, by omega, fJ.out, by rw [nN.out]; exact HP.out.then, cx.out⟩
    case measure => simp [intOf]; omega
   | false =>
    have B4 : on ≤ j := by
     have h := HA.out.own.len
     rw [flat4_length] at h
     rcases HP.out with ⟨_, e, _⟩ | ⟨e, _⟩
     ·rw [e, List.length_take] at h; omega
     ·cases e
    by_cases h1 : e0 < x
    ·go_wp2_with fail
     go_quiet (fail)
     have hq : Same wr (wr.drewN nq) := (Kept.refl _ _).drewN _
     generalize wr.drewN nq = wq at *
     have mN := hid (HA.out.next hq)
     have qx := hid (HB.out.same hq)
     clear hq c0 k0 k1 k2 k3
     obtain ⟨a1, c1, w1, pR, xk, ub⟩ := KA.out wq oa on oc out (e0, e1, e2, e3) (by omega) mN.out
     have nk := hid pR
     have fz := hid xk
     have bG := hid (qx.out.kept ub (by omega))
     obtain ⟨k0, k1, k2, k3⟩ := qx.out.all4
     clear pR xk ub
     obtain ⟨a2, c2, w2, jR, kg, lu⟩ := KA.out w1 a1 (on + 1) c1 (out ++ [(e0, e1, e2, e3)]) (x, y, z, u) (by omega) fz.out
     have i7 := hid jR
     have fJ := hid kg
     have cx := hid (bG.out.kept lu (by omega))
     have d0 := fz.out.same.cellOf k4.out.1 id
     have d1 := fz.out.same.cellOf k4.out.2.1 id
     have d2 := fz.out.same.cellOf k4.out.2.2.1 id
     have d3 := fz.out.same.cellOf k4.out.2.2.2 id
     clear jR kg lu
     go_wp2_with (at_builtin; first | refine Lib.wpList_append_run _ rfl _ _ _ _ rfl _ _ rfl rfl _ _ nk.out ?_ | refine Lib.wpList_append_run _ rfl _ _ _ _ rfl _ _ rfl rfl _ _ i7.out ?_)
     go_roundw
     case rel => exact ⟨j + 1, _, _, _, _, true, by omega, by go_num, rfl, rfl, by omega, fJ.out, by rw [nN.out]; exact HP.out.now (by simp only [kQ]; omega), cx.out⟩
     case measure => simp [intOf]; omega
    ·go_wp2_with fail
     go_quiet (fail)
     have hq : Same wr (wr.drewN nq) := (Kept.refl _ _).drewN _
     generalize wr.drewN nq = wq at *
     have mN := hid (HA.out.next hq)
     have qx := hid (HB.out.same hq)
     clear hq c0 k0 k1 k2 k3
     obtain ⟨a2, c2, w2, jR, kg, lu⟩ := KA.out wq oa on oc out (x, y, z, u) (by omega) mN.out
     have i7 := hid jR
     have fJ := hid kg
     have cx := hid (qx.out.kept lu (by omega))
     have d0 := mN.out.same.cellOf k4.out.1 id
     have d1 := mN.out.same.cellOf k4.out.2.1 id
     have d2 := mN.out.same.cellOf k4.out.2.2.1 id
     have d3 := mN.out.same.cellOf k4.out.2.2.2 id
     clear jR kg lu
     go_wp2_with (at_builtin; refine Lib.wpList_append_run _ rfl _ _ _ _ rfl _ _ rfl rfl _ _ i7.out ?_)
     go_roundw
     case rel => exact ⟨j + 1, _, _, _, _, false, by omega, by go_num, rfl, rfl, by omega, fJ.out, by rw [nN.out]; exact HP.out.not (by simp only [kQ]; omega), cx.out⟩
     case measure => simp [intOf]; omega
  ·obtain rfl : j = n := by omega
   have CR : ls.take j = ls := by rw [← HL.out]; exact List.take_length
   rw [CR] at HP
   have oY := hid HP.out
   cases dn with
   | true =>
    go_wp2
    go_ret
    refine ⟨_, _, _, rfl, ?_, fun b hb => (by have := HA.out.foot b hb; omega), HA.out.same⟩
    rw [oY.out.end]
    exact HA.out.own
   | false =>
    obtain ⟨a2, c2, w2, jR, kg, lu⟩ := KA.out wr oa on oc out (e0, e1, e2, e3) (by omega) HA.out
    have i7 := hid jR
    have fJ := hid kg
    obtain ⟨k0, k1, k2, k3⟩ := HB.out.all4
    clear jR kg lu
    go_wp2_with (at_builtin; refine Lib.wpList_append_run _ rfl _ _ _ _ rfl _ _ rfl rfl _ _ i7.out ?_)
    go_ret
    refine ⟨_, _, _, rfl, ?_, fun b hb => (by have := fJ.out.foot b hb; omega), fJ.out.same⟩
    rw [oY.out.last]
    exact fJ.out.own
end Go.Proofs.YtepdakgfioffgaaGreat
