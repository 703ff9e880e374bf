/-
  How long the answers of the locks are.
-/
import Derived.Test.YtagcefbnhpkdiabLockAskS
import Derived.Test.YtagcefbnhpkdiabTyMLockResult
namespace Go.Proofs.Ytagcefbnhpkdiab
open Go.RowKit
set_option linter.unusedVariables false
theorem insF_length (e : T3) : ∀ (ls : List T3) (d : Bool), (insF e d ls).length ≤ ls.length + (if d then 0 else 1)
  | [], true => by simp [insF]
  | [], false => by simp [insF]
  | l :: t, d => by
    have h1 := insF_length e t d
    have h2 := insF_length e t true
    have e0 : insF e d (l :: t) = if l.1 = e.1 ∧ l.2.1 = e.2.1 then insF e d t else if !d ∧ (e.1 < l.1 ∨ l.1 = e.1 ∧ e.2.1 < l.2.1) then e :: l :: insF e true t else l :: insF e d t := by cases d <;> rfl
    rw [e0]
    by_cases c1 : l.1 = e.1 ∧ l.2.1 = e.2.1
    · rw [if_pos c1, List.length_cons]; omega
    · rw [if_neg c1]
      by_cases c2 : !d ∧ (e.1 < l.1 ∨ l.1 = e.1 ∧ e.2.1 < l.2.1)
      · rw [if_pos c2]
        cases d with
        | true => exact absurd c2.1 (by simp)
        | false => simp at h2 ⊢; omega
      · rw [if_neg c2, List.length_cons, List.length_cons]; omega
theorem free_small {y : StLockResult} {bs : List Int} {n : Nat} {txn : Int} (hd : y.dat = freeP (tri bs) txn) (hl : bs.length = n * 3) (hp : n ≤ 1048576) : y.size ≤ 1099511627776 := by
  have h2 : y.locks.bs = (freeP (tri bs) txn).2 := by rw [← hd]; rfl
  have ht := tri_length n bs hl
  unfold StLockResult.size
  rw [h2]
  unfold freeP
  split
  · have h := List.length_filter_le (fun l : T3 => decide (l.2.1 ≠ txn)) (tri bs)
    rw [flat3_length]
    omega
  · simp
theorem ask_small {y : StLockResult} {bs : List Int} {n : Nat} {txn id mode : Int} (hd : y.dat = askP (tri bs) txn id mode) (hl : bs.length = n * 3) (hp : n ≤ 1048576) : y.size ≤ 1099511627776 := by
  have h2 : y.locks.bs = (askP (tri bs) txn id mode).2 := by rw [← hd]; rfl
  have ht := tri_length n bs hl
  unfold StLockResult.size
  rw [h2]
  unfold askP
  split
  · split
    · simp
    · split
      · simp
      · dsimp only
        have h := insF_length (id, txn, if mode < modeP (tri bs) txn id then modeP (tri bs) txn id else mode) (tri bs) false
        simp at h
        rw [flat3_length]
        omega
  · simp
end Go.Proofs.Ytagcefbnhpkdiab
