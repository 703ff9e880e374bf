/-
  What the promise on numbers and sums comes down to: no program in sight.
-/
import Derived.Test.YtekpfafmhgplpaaSumFn
import Derived.Test.YtekpfafmhgplpaaPutNum
import Derived.Test.YtekpfafmhgplpaaGetNum
namespace Go.Proofs.Ytekpfafmhgplpaa
open Go.RowKit
set_option linter.unusedVariables false

/-! ### Numbers -/
theorem num_lows (v : Nat) (k : Nat) : num (lows (v : Int) k) = ((v % 256 ^ k : Nat) : Int) := by
  induction k with
  | zero => simp [lows, num, Nat.mod_one]
  | succ k ih =>
    have e : lows (v : Int) (k + 1) = ((v : Int) / 256 ^ k % 256) :: lows (v : Int) k := rfl
    rw [e, num_cons, lows_length, ih, Nat.pow_succ, Nat.mod_mul]
    have e2 : ((v : Int) / 256 ^ k % 256) = ((v / 256 ^ k % 256 : Nat) : Int) := by simp
    rw [e2]
    have e3 : (256 : Int) ^ k = ((256 ^ k : Nat) : Int) := by simp
    rw [e3, ← Int.natCast_mul, ← Int.natCast_add, Nat.mul_comm, Nat.add_comm]
theorem getN_numB (v n : Int) (hv : IsI v) (h : numB v n ≠ []) : getN (numB v n) = v ∧ ((numB v n).length : Int) = n := by
  unfold numB at h ⊢
  split at h
  · exact absurd rfl h
  · rename_i hc
    rw [if_neg hc]
    have hn : 1 ≤ n ∧ n ≤ 8 ∧ 0 ≤ v ∧ v / 256 ^ n.toNat = 0 := by omega
    obtain ⟨h1, h2, h3, h4⟩ := hn
    obtain ⟨m, rfl⟩ : ∃ m : Nat, v = m := ⟨v.toNat, by omega⟩
    have hnum : num (lows (m : Int) n.toNat) = m := by
      rw [num_lows]
      have h5 : ((m / 256 ^ n.toNat : Nat) : Int) = 0 := by rw [← h4]; simp
      have h6 : m / 256 ^ n.toNat = 0 := by omega
      have h7 : m < 256 ^ n.toNat := by
        rcases (Nat.div_eq_zero_iff.1 h6) with h | h
        · exact absurd h (Nat.ne_of_gt (Nat.pow_pos (by decide)))
        · exact h
      rw [Nat.mod_eq_of_lt h7]
    have hl := lows_length (m : Int) n.toNat
    refine ⟨?_, by rw [hl]; omega⟩
    unfold getN
    rw [hnum, hl, if_neg (by have := hv.2; omega)]

/-! ### Sums -/
theorem reg_append (r : Nat) (xs bs : List Int) : reg r (xs ++ bs) = reg (reg r xs) bs := by simp [reg, List.foldl_append]
theorem crcOn_zero (bs : List Int) : crcOn 0 bs = 4294967295 - reg 4294967295 bs := rfl
theorem crcOn_on (xs bs : List Int) (ha : IsB xs) : crcOn (crcOn 0 xs) bs = crcOn 0 (xs ++ bs) := by
  have h1 := reg_lt 4294967295 xs (by decide) ha
  rw [crcOn_zero, crcOn_zero, reg_append]
  unfold crcOn
  rw [if_neg (by omega), show ((4294967295 : Int) - (4294967295 - ((reg 4294967295 xs : Nat) : Int))).toNat = reg 4294967295 xs from by omega]
/-- The bytes as one number, the first byte the lowest. -/
def le : List Int → Nat
  | [] => 0
  | b :: bs => b.toNat ^^^ 256 * le bs
theorem reg_le (bs : List Int) (r : Nat) : reg r bs = shN (8 * bs.length) (r ^^^ le bs) := by
  induction bs generalizing r with
  | nil => simp [reg, le, shN]
  | cons b bs ih =>
    have e : reg r (b :: bs) = reg (shN 8 (r ^^^ b.toNat)) bs := rfl
    rw [e, ih, List.length_cons, Nat.mul_succ, shN_add]
    congr 1
    have e2 : le bs = shN 8 (2 ^ 8 * le bs) := (shN_mul 8 (le bs)).symm
    conv => lhs; rw [e2]
    rw [← shN_xor, le, Nat.xor_assoc]
theorem le_set (bs : List Int) (j x : Nat) (hj : j < bs.length) : le (bs.set j (((bs.getD j 0).toNat ^^^ x : Nat) : Int)) = le bs ^^^ 256 ^ j * x := by
  induction bs generalizing j with
  | nil => simp at hj
  | cons b bs ih =>
    cases j with
    | zero =>
      simp only [List.set_cons_zero, le, List.getD_cons_zero, Int.toNat_natCast, Nat.pow_zero, Nat.one_mul]
      rw [Nat.xor_assoc, Nat.xor_assoc, Nat.xor_comm x]
    | succ j =>
      have h := ih j (by simpa using hj)
      simp only [List.set_cons_succ, le, List.getD_cons_succ]
      rw [h, Nat.xor_assoc]
      congr 1
      have e := mul_pow_xor 8 (le bs) (256 ^ j * x)
      rw [show (2 : Nat) ^ 8 = 256 from rfl] at e
      rw [e, Nat.pow_succ, Nat.mul_comm (256 ^ j) 256, Nat.mul_assoc]
  where
  mul_pow_xor (k a b : Nat) : 2 ^ k * (a ^^^ b) = 2 ^ k * a ^^^ 2 ^ k * b := by
    apply Nat.eq_of_testBit_eq
    intro i
    rw [Nat.testBit_xor, Nat.testBit_two_pow_mul, Nat.testBit_two_pow_mul, Nat.testBit_two_pow_mul, Nat.testBit_xor]
    by_cases h : k ≤ i <;> simp [h]
theorem mul_pow_xor (k a b : Nat) : 2 ^ k * (a ^^^ b) = 2 ^ k * a ^^^ 2 ^ k * b := le_set.mul_pow_xor k a b
/-- One more bit of a burst. -/
theorem le_bit (bs ts : List Int) (from_ i b : Nat) (hj : (from_ + i) / 8 < bs.length) (h : le bs = le ts ^^^ 2 ^ from_ * b) :
    le (bs.set ((from_ + i) / 8) (((bs.getD ((from_ + i) / 8) 0).toNat ^^^ 2 ^ ((from_ + i) % 8) : Nat) : Int)) = le ts ^^^ 2 ^ from_ * (b ^^^ 2 ^ i) := by
  rw [le_set _ _ _ hj, h, mul_pow_xor, ← Nat.xor_assoc]
  congr 1
  rw [show (256 : Nat) = 2 ^ 8 from rfl, ← Nat.pow_mul, ← Nat.pow_add, ← Nat.pow_add]
  congr 1
  omega
theorem bit_more (b i : Nat) (h : b < 2 ^ i) : b ^^^ 2 ^ i < 2 ^ (i + 1) ∧ b ^^^ 2 ^ i ≠ 0 := by
  constructor
  · exact Nat.xor_lt_two_pow (Nat.lt_of_lt_of_le h (Nat.pow_le_pow_right (by decide) (by omega))) (Nat.pow_lt_pow_right (by decide) (by omega))
  · intro e
    have : b = 2 ^ i := by
      have h2 := congrArg (fun z => z ^^^ 2 ^ i) e
      simpa [Nat.xor_assoc] using h2
    omega
theorem sh_ne (r : Nat) (h : r < 4294967296) (h0 : r ≠ 0) : sh r ≠ 0 := by
  unfold sh
  split
  · intro e
    have h2 := congrArg (fun z => z ^^^ 3988292384) e
    simp only [Nat.xor_assoc, Nat.xor_self, Nat.xor_zero, Nat.zero_xor] at h2
    omega
  · omega
theorem shN_ne (k r : Nat) (h : r < 4294967296) (h0 : r ≠ 0) : shN k r ≠ 0 := by
  induction k generalizing r with
  | zero => exact h0
  | succ k ih => exact ih _ (sh_lt r h) (sh_ne r h h0)
/-- A burst within 32 bits changes the sum. -/
theorem crc_burst (bs ts : List Int) (from_ b : Nat) (hl : bs.length = ts.length) (hf : from_ ≤ 8 * ts.length) (h : le bs = le ts ^^^ 2 ^ from_ * b) (hb : b < 4294967296) (h0 : b ≠ 0) : crcOn 0 bs ≠ crcOn 0 ts := by
  rw [crcOn_zero, crcOn_zero]
  intro e
  have e2 : reg 4294967295 bs = reg 4294967295 ts := by omega
  rw [reg_le, reg_le, hl, h, ← Nat.xor_assoc, shN_xor _ _ (2 ^ from_ * b)] at e2
  have e3 : shN (8 * ts.length) (2 ^ from_ * b) = 0 := by
    have h2 := congrArg (fun z => shN (8 * ts.length) (4294967295 ^^^ le ts) ^^^ z) e2
    simpa [← Nat.xor_assoc] using h2
  rw [show 8 * ts.length = (8 * ts.length - from_) + from_ from by omega, shN_add, shN_mul] at e3
  exact shN_ne _ b hb h0 e3
theorem lows_isB (v : Int) (k : Nat) : IsB (lows v k) := by
  induction k with
  | zero => intro y hy; simp [lows] at hy
  | succ k ih =>
    intro y hy
    simp only [lows, List.mem_cons] at hy
    rcases hy with rfl | hy
    · omega
    · exact ih y hy
theorem numB_isB (v n : Int) : IsB (numB v n) := by
  unfold numB
  split
  · intro y hy; simp at hy
  · exact lows_isB _ _
end Go.Proofs.Ytekpfafmhgplpaa
