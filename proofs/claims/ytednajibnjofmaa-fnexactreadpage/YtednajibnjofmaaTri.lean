/-
  LISTS OF TRIPLES, flat and not.
-/
import Derived.Test.YtednajibnjofmaaFlatRows
namespace Go.Proofs.Ytednajibnjofmaa
open Go.RowKit
set_option linter.unusedVariables false
set_option linter.unusedSimpArgs false

abbrev T3 := Int × Int × Int
def tri : List Int → List T3
  | a :: b :: c :: t => (a, b, c) :: tri t
  | _ => []
def flat3 : List T3 → List Int
  | [] => []
  | (a, b, c) :: t => a :: b :: c :: flat3 t
theorem tri_flat3 : ∀ ls : List T3, tri (flat3 ls) = ls
  | [] => rfl
  | (a, b, c) :: t => by simp [flat3, tri, tri_flat3 t]
theorem flat3_tri : ∀ (n : Nat) (bs : List Int), bs.length = n * 3 → flat3 (tri bs) = bs
  | 0, bs, h => by obtain rfl : bs = [] := List.length_eq_zero_iff.1 (by omega); rfl
  | n + 1, a :: b :: c :: t, h => by simp [tri, flat3, flat3_tri n t (by simp at h; omega)]
  | n + 1, [], h => by simp at h
  | n + 1, [a], h => by simp at h; omega
  | n + 1, [a, b], h => by simp at h; omega
theorem tri_length : ∀ (n : Nat) (bs : List Int), bs.length = n * 3 → (tri bs).length = n
  | 0, bs, h => by obtain rfl : bs = [] := List.length_eq_zero_iff.1 (by omega); rfl
  | n + 1, a :: b :: c :: t, h => by simp [tri, tri_length n t (by simp at h; omega)]
  | n + 1, [], h => by simp at h
  | n + 1, [a], h => by simp at h; omega
  | n + 1, [a, b], h => by simp at h; omega
theorem flat3_length : ∀ ls : List T3, (flat3 ls).length = ls.length * 3
  | [] => rfl
  | (a, b, c) :: t => by simp [flat3, flat3_length t]; omega
theorem flat3_append : ∀ xs ys : List T3, flat3 (xs ++ ys) = flat3 xs ++ flat3 ys
  | [], ys => rfl
  | (a, b, c) :: t, ys => by simp [flat3, flat3_append t ys]
theorem tri_at : ∀ (bs : List Int) (k : Nat) (h : k < (tri bs).length), (tri bs)[k] = (bs.getD (k * 3) 0, bs.getD (k * 3 + 1) 0, bs.getD (k * 3 + 2) 0)
  | a :: b :: c :: t, 0, h => by simp [tri]
  | a :: b :: c :: t, k + 1, h => by
    have h' : k < (tri t).length := by simpa [tri] using h
    have ih := tri_at t k h'
    have e : (tri (a :: b :: c :: t))[k + 1] = (tri t)[k] := by simp [tri]
    rw [e, ih, show (k + 1) * 3 = k * 3 + 3 by omega]
    simp [List.getD, show k * 3 + 3 + 1 = k * 3 + 1 + 3 by omega, show k * 3 + 3 + 2 = k * 3 + 2 + 3 by omega]
  | [], k, h => by simp [tri] at h
  | [a], k, h => by simp [tri] at h
  | [a, b], k, h => by simp [tri] at h
/-- The cells of the k-th triple. -/
theorem RdF.tri {w : World} {e : TypeId} {b off n c : Nat} {bs : List Int} (h : RdF 3 w ⟨e, some ⟨b, off, none⟩, n, c, bs⟩) (k : Nat) (hk : k < (tri bs).length) (x y z : Int) (hx : (tri bs)[k] = (x, y, z)) :
    w.cell? ⟨b, off + k * 3, none⟩ = some (.int .i64 x) ∧ w.cell? ⟨b, off + k * 3 + 1, none⟩ = some (.int .i64 y) ∧ w.cell? ⟨b, off + k * 3 + 2, none⟩ = some (.int .i64 z) := by
  have hl := tri_length n bs h.2.1
  have hkn : k < n := by omega
  rw [tri_at] at hx
  simp only [Prod.mk.injEq] at hx
  obtain ⟨rfl, rfl, rfl⟩ := hx
  rcases h.2.2 with h0 | ⟨b', off', he, hle, hc⟩
  · dsimp only at h0; omega
  · dsimp only at he hc
    injection he with he
    injection he with e1 e2
    subst e1 e2
    exact ⟨hc _ (by omega), by rw [Nat.add_assoc]; exact hc _ (by omega), by rw [Nat.add_assoc]; exact hc _ (by omega)⟩
theorem RdF.some {m : Nat} {w : World} {x : FR} (h : RdF m w x) (h0 : 0 < x.n) : ∃ b off, x.a = some ⟨b, off, none⟩ ∧ x.n ≤ x.c := by
  rcases h.2.2 with h1 | ⟨b, off, he, hle, _⟩
  · omega
  · exact ⟨b, off, he, hle⟩
/-- neighbours -/
def nbr (f : T3 → T3 → Bool) : List T3 → Bool
  | a :: b :: t => f a b || nbr f (b :: t)
  | _ => false
theorem nbr_iff (f : T3 → T3 → Bool) : ∀ ls : List T3, nbr f ls = true ↔ ∃ (k : Nat) (h : k + 1 < ls.length), f ls[k] ls[k + 1] = true
  | [] => by simp [nbr]
  | [a] => by simp [nbr]
  | a :: b :: t => by
    have ih := nbr_iff f (b :: t)
    simp only [nbr, Bool.or_eq_true]
    constructor
    · rintro (h | h)
      · exact ⟨0, by simp, h⟩
      · obtain ⟨k, hk, h⟩ := ih.1 h
        exact ⟨k + 1, by simpa using hk, by simpa using h⟩
    · rintro ⟨k, hk, h⟩
      match k, hk, h with
      | 0, _, h => exact .inl h
      | k + 1, hk, h => exact .inr (ih.2 ⟨k, by simpa using hk, by simpa using h⟩)
theorem nbr_no {f : T3 → T3 → Bool} {ls : List T3} (h : ∀ (k : Nat) (h : k + 1 < ls.length), f ls[k] ls[k + 1] = false) : nbr f ls = false := by
  cases e : nbr f ls with
  | false => rfl
  | true => obtain ⟨k, hk, hf⟩ := (nbr_iff f ls).1 e; rw [h k hk] at hf; cases hf
theorem nbr_yes {f : T3 → T3 → Bool} {ls : List T3} (k : Nat) (h : k + 1 < ls.length) (hf : f ls[k] ls[k + 1] = true) : nbr f ls = true := (nbr_iff f ls).2 ⟨k, h, hf⟩
theorem nbr_at {f : T3 → T3 → Bool} {ls : List T3} (hn : nbr f ls = false) (k : Nat) (h : k + 1 < ls.length) : f ls[k] ls[k + 1] = false := by
  cases e : f ls[k] ls[k + 1] with
  | false => rfl
  | true => rw [nbr_yes k h e] at hn; cases hn
theorem any3_no {f : T3 → Bool} {ls : List T3} (h : ∀ (k : Nat) (h : k < ls.length), f ls[k] = false) : ls.any f = false := by
  rw [List.any_eq_false]
  intro x hx
  obtain ⟨k, hk, rfl⟩ := List.getElem_of_mem hx
  rw [h k hk]
  exact Bool.false_ne_true
theorem any3_yes {f : T3 → Bool} {ls : List T3} (k : Nat) (h : k < ls.length) (hf : f ls[k] = true) : ls.any f = true := List.any_eq_true.2 ⟨_, List.getElem_mem h, hf⟩
theorem any3_at {f : T3 → Bool} {ls : List T3} (hn : ls.any f = false) (k : Nat) (h : k < ls.length) : f ls[k] = false := by
  cases e : f ls[k] with
  | false => rfl
  | true => rw [any3_yes k h e] at hn; cases hn
end Go.Proofs.Ytednajibnjofmaa
