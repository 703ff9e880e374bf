import Derived.Test.YtaeikeglaobeeaaGreatG01
import Derived.Test.YtaeikeglaobeeaaGreatG00
import Derived.Laws.BitsAllLaws
namespace Go.Proofs.YtaeikeglaobeeaaGreat
open Go.RowKit
set_option linter.unusedVariables false

/-- One bit more. -/
def sh (r : Nat) : Nat := if r % 2 = 1 then r / 2 ^^^ 3988292384 else r / 2
def shN : Nat → Nat → Nat
  | 0, r => r
  | k + 1, r => shN k (sh r)
theorem sh_lt (r : Nat) (h : r < 4294967296) : sh r < 4294967296 := by
  unfold sh
  split
  · exact Nat.xor_lt_two_pow (n := 32) (by omega) (by omega)
  · omega
theorem shN_lt (k r : Nat) (h : r < 4294967296) : shN k r < 4294967296 := by
  induction k generalizing r with
  | zero => exact h
  | succ k ih => exact ih _ (sh_lt r h)
theorem shN_succ (k r : Nat) : shN (k + 1) r = sh (shN k r) := by
  induction k generalizing r with
  | zero => rfl
  | succ k ih => exact ih (sh r)
theorem half_xor (a b : Nat) : (a ^^^ b) / 2 = a / 2 ^^^ b / 2 := by
  apply Nat.eq_of_testBit_eq
  intro i
  rw [Nat.testBit_xor, Nat.testBit_div_two, Nat.testBit_div_two, Nat.testBit_div_two, Nat.testBit_xor]
theorem odd_xor (a b : Nat) : (a ^^^ b) % 2 = (a % 2 + b % 2) % 2 := by
  have h := Nat.testBit_xor a b 0
  simp only [Nat.testBit_zero] at h
  have := Nat.mod_two_eq_zero_or_one a
  have := Nat.mod_two_eq_zero_or_one b
  have := Nat.mod_two_eq_zero_or_one (a ^^^ b)
  rcases ‹a % 2 = 0 ∨ a % 2 = 1› with h1 | h1 <;> rcases ‹b % 2 = 0 ∨ b % 2 = 1› with h2 | h2 <;> rcases ‹(a ^^^ b) % 2 = 0 ∨ (a ^^^ b) % 2 = 1› with h3 | h3 <;> rw [h1, h2, h3] at h <;> rw [h1, h2, h3] <;> first | rfl | (simp at h)
theorem sh_xor (a b : Nat) : sh (a ^^^ b) = sh a ^^^ sh b := by
  unfold sh
  rw [half_xor, odd_xor]
  have := Nat.mod_two_eq_zero_or_one a
  have := Nat.mod_two_eq_zero_or_one b
  rcases ‹a % 2 = 0 ∨ a % 2 = 1› with h1 | h1 <;> rcases ‹b % 2 = 0 ∨ b % 2 = 1› with h2 | h2 <;> rw [h1, h2] <;> simp only [Nat.zero_add, Nat.add_zero, Nat.reduceMod, Nat.reduceAdd, if_true, if_false, Nat.zero_ne_one]
  · rw [Nat.xor_assoc]
  · rw [Nat.xor_assoc, Nat.xor_assoc, Nat.xor_comm 3988292384]
  · rw [Nat.xor_assoc, Nat.xor_comm (b / 2), ← Nat.xor_assoc 3988292384, Nat.xor_self, Nat.zero_xor]
theorem shN_xor (k a b : Nat) : shN k (a ^^^ b) = shN k a ^^^ shN k b := by
  induction k generalizing a b with
  | zero => rfl
  | succ k ih => simp only [shN]; rw [sh_xor, ih]
theorem sh_even (r : Nat) : sh (2 * r) = r := by
  unfold sh
  rw [if_neg (by omega)]
  omega
theorem shN_mul (k r : Nat) : shN k (2 ^ k * r) = r := by
  induction k generalizing r with
  | zero => simp [shN]
  | succ k ih =>
    simp only [shN]
    rw [show 2 ^ (k + 1) * r = 2 * (2 ^ k * r) from by rw [Nat.pow_succ, Nat.mul_comm (2 ^ k) 2, Nat.mul_assoc], sh_even, ih]
/-- What a byte becomes. -/
def tab (i : Nat) : Nat := shN 8 i
theorem tab_lt (i : Nat) (h : i < 4294967296) : tab i < 4294967296 := shN_lt 8 i h
theorem parts_xor (r : Nat) : r = 2 ^ 8 * (r / 256) ^^^ r % 256 := by
  have h1 : 2 ^ 8 * (r / 256) ||| r % 256 = 2 ^ 8 * (r / 256) + r % 256 := (Nat.two_pow_add_eq_or_of_lt (i := 8) (by omega) (r / 256)).symm
  have h2 : 2 ^ 8 * (r / 256) &&& r % 256 = 0 := by
    apply Nat.eq_of_testBit_eq
    intro i
    rw [Nat.testBit_and, Nat.zero_testBit, Nat.testBit_two_pow_mul]
    by_cases hi : 8 ≤ i
    · have : (r % 256).testBit i = false := Nat.testBit_lt_two_pow (Nat.lt_of_lt_of_le (Nat.mod_lt r (by decide)) (Nat.pow_le_pow_right (n := 2) (by decide) hi))
      simp [this]
    · simp [hi]
  have h3 : 2 ^ 8 * (r / 256) ^^^ r % 256 = 2 ^ 8 * (r / 256) ||| r % 256 := by
    apply Nat.eq_of_testBit_eq
    intro i
    have := congrArg (fun n => n.testBit i) h2
    simp only [Nat.testBit_and, Nat.zero_testBit] at this
    rw [Nat.testBit_xor, Nat.testBit_or]
    revert this
    cases (2 ^ 8 * (r / 256)).testBit i <;> cases (r % 256).testBit i <;> simp
  rw [h3, h1]
  omega
theorem step_tab (r x : Nat) : shN 8 (r ^^^ x) = r / 256 ^^^ tab (r % 256 ^^^ x) := by
  conv => lhs; rw [parts_xor r]
  rw [Nat.xor_assoc, shN_xor, shN_mul]
  rfl

/-- The register behind some bytes. -/
def reg (r : Nat) (bs : List Int) : Nat := bs.foldl (fun r b => shN 8 (r ^^^ b.toNat)) r
theorem reg_take (r : Nat) (bs : List Int) (k : Nat) (h : k < bs.length) : reg r (bs.take (k + 1)) = shN 8 (reg r (bs.take k) ^^^ (bs.getD k 0).toNat) := by
  rw [List.take_succ_eq_append_getElem h]
  unfold reg
  rw [List.foldl_append]
  simp [h]
theorem reg_lt (r : Nat) (bs : List Int) (h : r < 4294967296) (hb : IsB bs) : reg r bs < 4294967296 := by
  induction bs generalizing r with
  | nil => exact h
  | cons b bs ih =>
    have h1 := hb b (by simp)
    exact ih _ (shN_lt 8 _ (Nat.xor_lt_two_pow (n := 32) (by omega) (by omega))) (fun y hy => hb y (by simp [hy]))
/-- What CrcOn tells. -/
def crcOn (sum : Int) (bs : List Int) : Int := if sum < 0 ∨ 4294967295 < sum then -1 else 4294967295 - reg (4294967295 - sum).toNat bs

/-! ### The table, as it is filled: m bits done, n entries of the next one -/
def tabM (m n : Nat) : List Int := (List.range 256).map fun j => if j % 2 ^ (8 - m) = 0 ∨ (j % 2 ^ (7 - m) = 0 ∧ j < 2 ^ (8 - m) * n) then ((tab j : Nat) : Int) else 0
theorem tabM_length (m n : Nat) : (tabM m n).length = 256 := by simp [tabM]
theorem tabM_at (m n j : Nat) (h : j < 256) : (tabM m n)[j]? = some (if j % 2 ^ (8 - m) = 0 ∨ (j % 2 ^ (7 - m) = 0 ∧ j < 2 ^ (8 - m) * n) then ((tab j : Nat) : Int) else 0) := by
  simp [tabM, h]
theorem tabM_zero : tabM 0 0 = List.replicate 256 0 := by decide +kernel
theorem tabM_next (m : Nat) (h : m < 8) : tabM m (2 ^ m) = tabM (m + 1) 0 := by
  have : ∀ m < 8, tabM m (2 ^ m) = tabM (m + 1) 0 := by decide +kernel
  exact this m h
theorem tabM_all (j : Nat) (h : j < 256) : (tabM 8 0)[j]? = some ((tab j : Nat) : Int) := by
  rw [tabM_at _ _ _ h, if_pos (.inl (by simp [Nat.mod_one]))]
/-- What stands where the next entry is read. -/
theorem tabM_read (m n : Nat) (h : m < 8) (hn : n < 2 ^ m) : (tabM m n)[2 ^ (8 - m) * n]? = some ((tab (2 ^ (8 - m) * n) : Nat) : Int) := by
  have hb : 2 ^ (8 - m) * n < 256 := by
    have : 2 ^ (8 - m) * n < 2 ^ (8 - m) * 2 ^ m := Nat.mul_lt_mul_of_pos_left hn (Nat.two_pow_pos _)
    rwa [← Nat.pow_add, show 8 - m + m = 8 from by omega] at this
  rw [tabM_at _ _ _ hb, if_pos (.inl (Nat.mul_mod_right _ _))]
theorem tabM_step (m n : Nat) (h : m < 8) (hn : n < 2 ^ m) : (tabM m n).set (2 ^ (8 - m) * n + 2 ^ (7 - m)) ((tab (2 ^ (8 - m) * n) ^^^ shN (m + 1) 1 : Nat) : Int) = tabM m (n + 1) := by
  have key : ∀ m < 8, ∀ n < 2 ^ m, tab (2 ^ (8 - m) * n + 2 ^ (7 - m)) = tab (2 ^ (8 - m) * n) ^^^ shN (m + 1) 1 := by decide +kernel
  rw [← key m h n hn]
  apply List.ext_getElem?
  intro j
  by_cases hj : j < 256
  · rw [tabM_at m (n + 1) j hj, List.getElem?_set, tabM_length, tabM_at m n j hj]
    clear key
    have : m = 0 ∨ m = 1 ∨ m = 2 ∨ m = 3 ∨ m = 4 ∨ m = 5 ∨ m = 6 ∨ m = 7 := by omega
    rcases this with rfl | rfl | rfl | rfl | rfl | rfl | rfl | rfl <;> simp only [Nat.reducePow, Nat.reduceSub] at hn ⊢ <;>
    ( split
      · rename_i he
        subst he
        rw [if_pos (by omega), if_pos (by omega)]
      · congr 1
        apply ite_congr (propext ⟨fun h => by omega, fun h => by omega⟩) (fun _ => rfl) (fun _ => rfl))
  · rw [List.getElem?_eq_none (by rw [List.length_set, tabM_length]; omega), List.getElem?_eq_none (by rw [tabM_length]; omega)]
end Go.Proofs.YtaeikeglaobeeaaGreat
