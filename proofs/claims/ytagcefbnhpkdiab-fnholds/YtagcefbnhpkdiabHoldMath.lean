/-
  Holds that rise by id: the place of an id among them.
-/
import Derived.Test.YtagcefbnhpkdiabHoldTakeS
namespace Go.Proofs.Ytagcefbnhpkdiab
set_option maxRecDepth 100000
open Go.RowKit
set_option linter.unusedVariables false
set_option linter.unusedSimpArgs false

def RisH (hs : List T3) : Prop := hs.Pairwise (fun a b => a.1 < b.1)
theorem risH_of {hs : List T3} (h : nbr hdAfter hs = false) : RisH hs := by
  induction hs with
  | nil => exact List.Pairwise.nil
  | cons a t ih =>
    cases t with
    | nil => exact List.pairwise_singleton _ _
    | cons b t =>
      simp only [nbr, Bool.or_eq_false_iff] at h
      have h1 : a.1 < b.1 := by simpa [hdAfter] using h.1
      have ih := ih h.2
      refine List.Pairwise.cons (fun c hc => ?_) ih
      rcases List.mem_cons.1 hc with rfl | hc
      · exact h1
      · exact Int.lt_trans h1 ((List.pairwise_cons.1 ih).1 c hc)
theorem holdsF_ris {hs : List T3} (h : holdsF hs = 0) : RisH hs := by
  unfold holdsF at h
  apply risH_of
  by_cases hl : 512 < hs.length
  · rw [if_pos hl] at h; cases h
  · rw [if_neg hl] at h
    cases hn : nbr hdAfter hs with
    | false => rfl
    | true => rw [hn, if_pos rfl] at h; cases h
/-- the place of an id -/
def LbH (id : Int) (hs : List T3) (k : Nat) : Prop := k ≤ hs.length ∧ (∀ (i : Nat) (h : i < hs.length), i < k → hs[i].1 < id) ∧ (∀ (i : Nat) (h : i < hs.length), k ≤ i → id ≤ hs[i].1)
def fndH (id : Int) (hs : List T3) (k : Nat) : Bool := match hs[k]? with
  | some p => decide (p.1 = id)
  | none => false
theorem LbH.tail {id : Int} {h : T3} {t : List T3} {k : Nat} (hl : LbH id (h :: t) (k + 1)) : LbH id t k :=
  ⟨by have := hl.1; simp at this; omega, fun i hi hk => by have := hl.2.1 (i + 1) (by simpa using hi) (by omega); simpa using this, fun i hi hk => by have := hl.2.2 (i + 1) (by simpa using hi) (by omega); simpa using this⟩
theorem fndH_tail (id : Int) (h : T3) (t : List T3) (k : Nat) : fndH id (h :: t) (k + 1) = fndH id t k := by simp [fndH]
theorem fndH_some {id : Int} {hs : List T3} {k : Nat} (h : fndH id hs k = true) : ∃ hk : k < hs.length, hs[k].1 = id := by
  unfold fndH at h
  cases e : hs[k]? with
  | none => rw [e] at h; cases h
  | some p =>
    rw [e] at h
    obtain ⟨hk, rfl⟩ := List.getElem?_eq_some_iff.1 e
    exact ⟨hk, by simpa using h⟩
theorem fndH_none {id : Int} {hs : List T3} {k : Nat} (h : fndH id hs k = false) (hk : k < hs.length) : hs[k].1 ≠ id := by
  unfold fndH at h
  rw [List.getElem?_eq_getElem hk] at h
  simpa using h
theorem fndH_at {id : Int} {hs : List T3} {k : Nat} (hk : k < hs.length) : fndH id hs k = decide (hs[k].1 = id) := by
  unfold fndH
  rw [List.getElem?_eq_getElem hk]
theorem fndH_end {id : Int} {hs : List T3} {k : Nat} (hk : hs.length ≤ k) : fndH id hs k = false := by
  unfold fndH
  rw [List.getElem?_eq_none hk]
theorem insH_done (e : T3) : ∀ (hs : List T3), (∀ p ∈ hs, e.1 < p.1) → insH e true hs = hs
  | [], _ => rfl
  | h :: t, ha => by
    have h1 := ha h (List.mem_cons_self ..)
    have ih := insH_done e t (fun p hp => ha p (List.mem_cons_of_mem _ hp))
    unfold insH
    rw [if_neg (by simp), if_pos (by omega), Bool.true_or, ih]
    rfl
theorem insH_lb (e : T3) : ∀ (hs : List T3) (k : Nat), RisH hs → LbH e.1 hs k → insH e false hs = if fndH e.1 hs k = true then hs.set k e else hs.take k ++ e :: hs.drop k
  | [], k, hr, hl => by simp [insH, fndH, show k = 0 from by have := hl.1; simp at this; omega]
  | h :: t, 0, hr, hl => by
    have h1 : e.1 ≤ h.1 := hl.2.2 0 (by simp) (Nat.le_refl _)
    have hall := (List.pairwise_cons.1 hr).1
    have hd := insH_done e t (fun p hp => Int.lt_of_le_of_lt h1 (hall p hp))
    unfold insH
    rw [if_pos ⟨rfl, h1⟩, show (false || decide (e.1 ≤ h.1)) = true from by simp [h1], hd]
    by_cases he : h.1 = e.1
    · rw [if_neg (by simp [he]), if_pos (by simp [fndH, he])]
      simp
    · rw [if_pos he, if_neg (by simp [fndH, he])]
      simp
  | h :: t, k + 1, hr, hl => by
    have h1 : h.1 < e.1 := hl.2.1 0 (by simp) (by omega)
    have ih := insH_lb e t k (List.pairwise_cons.1 hr).2 hl.tail
    unfold insH
    rw [if_neg (by omega), if_pos (by omega), show (false || decide (e.1 ≤ h.1)) = false from by simp; omega, ih, fndH_tail]
    split <;> simp
theorem holdOf_lb (id : Int) : ∀ (hs : List T3) (k : Nat), RisH hs → LbH id hs k → holdOf id hs = if fndH id hs k = true then (hs.getD k (0, 0, 0)).2.2 else -1
  | [], k, hr, hl => by simp [holdOf, fndH]
  | h :: t, 0, hr, hl => by
    have h1 : id ≤ h.1 := hl.2.2 0 (by simp) (Nat.le_refl _)
    have hall := (List.pairwise_cons.1 hr).1
    have hno : ∀ ts : List T3, (∀ p ∈ ts, id < p.1) → holdOf id ts = -1 := by
      intro ts
      induction ts with
      | nil => intro _; rfl
      | cons q ts ih =>
        intro hq
        unfold holdOf
        rw [if_neg (by have := hq q (List.mem_cons_self ..); omega)]
        exact ih (fun p hp => hq p (List.mem_cons_of_mem _ hp))
    unfold holdOf
    by_cases he : h.1 = id
    · rw [if_pos he, if_pos (by simp [fndH, he])]
      simp
    · rw [if_neg he, if_neg (by simp [fndH, he])]
      exact hno t (fun p hp => Int.lt_of_le_of_lt h1 (hall p hp))
  | h :: t, k + 1, hr, hl => by
    have h1 : h.1 < id := hl.2.1 0 (by simp) (by omega)
    have ih := holdOf_lb id t k (List.pairwise_cons.1 hr).2 hl.tail
    unfold holdOf
    rw [if_neg (by omega), ih, fndH_tail]
    simp
theorem holdOf_found {id : Int} {hs : List T3} {k : Nat} (hr : RisH hs) (hl : LbH id hs k) (hb : hs.any hdBad = false) : decide (holdOf id hs = -1) = !fndH id hs k := by
  rw [holdOf_lb id hs k hr hl]
  cases hf : fndH id hs k with
  | false => simp
  | true =>
    obtain ⟨hk, _⟩ := fndH_some hf
    have h1 := any3_at hb k hk
    unfold hdBad at h1
    simp only [Bool.or_eq_false_iff, Bool.not_eq_false'] at h1
    have h2 : 0 ≤ hs[k].2.2 ∧ hs[k].2.2 ≤ 1000 := by simpa [inB] using h1.2
    rw [if_pos rfl, show hs.getD k (0, 0, 0) = hs[k] from by simp [List.getD, hk]]
    simp
    omega
end Go.Proofs.Ytagcefbnhpkdiab
