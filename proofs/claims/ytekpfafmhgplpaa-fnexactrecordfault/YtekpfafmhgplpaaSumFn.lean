/-
  The sums: the model's and the program's, at any world.
-/
import Derived.Test.YtekpfafmhgplpaaFill
import Derived.Test.YtekpfafmhgplpaaCopyB
import Derived.Deep.MidRow
import Derived.Deep.WholeRow
namespace Go.Proofs.Ytekpfafmhgplpaa
open Go.RowKit
set_option linter.unusedVariables false

theorem compl_nat (r : Nat) (h : r < 4294967296) : 4294967295 ^^^ r = 4294967295 - r := by
  have e : 4294967295 - r = 2 ^ 32 - (r + 1) := by omega
  rw [e, show 4294967295 = 2 ^ 32 - 1 from rfl]
  apply Nat.eq_of_testBit_eq
  intro i
  rw [Nat.testBit_xor, Nat.testBit_two_pow_sub_one, Nat.testBit_two_pow_sub_succ (by omega)]
  by_cases hi : i < 32
  · simp [hi]
  · have : r.testBit i = false := Nat.testBit_lt_two_pow (Nat.lt_of_lt_of_le h (Nat.pow_le_pow_right (n := 2) (i := 32) (by decide) (by omega)))
    simp [hi, this]
theorem compl_u32 (x : Int) (h0 : 0 ≤ x) (h1 : x ≤ 4294967295) : bits .xor .u32 4294967295 x = 4294967295 - x := by
  obtain ⟨r, rfl⟩ : ∃ r : Nat, x = r := ⟨x.toNat, by omega⟩
  have := u32_xor_nat 4294967295 r (by decide) (by omega)
  rw [compl_nat r (by omega)] at this
  rw [show ((4294967295 : Nat) : Int) = 4294967295 from rfl] at this
  rw [this]
  omega
theorem crcOn_le (sum : Int) (bs : List Int) (h0 : 0 ≤ sum) (h1 : sum ≤ 4294967295) (hB : IsB bs) : 0 ≤ crcOn sum bs ∧ crcOn sum bs ≤ 4294967295 := by
  unfold crcOn
  rw [if_neg (by omega)]
  have := reg_lt (4294967295 - sum).toNat bs (by omega) hB
  omega

theorem rd_block {k : IntKind} {w w1 w' : World} {B : Nat} {v : Value} {bs : List Int} (hv : Rd k w v bs) (h1 : Same w w1) (hB : w.heap.size ≤ B) (h2 : Kept (fun b => b = B) w1 w') : Rd k w' v bs :=
  hv.same (h1.next h2 (fun i hi e => by omega))

theorem xor_i64 (a b : Nat) (ha : a < 4294967296) (hb : b < 4294967296) : bits .xor .i64 (a : Int) (b : Int) = ((a ^^^ b : Nat) : Int) := by
  have h1 : a % 18446744073709551616 = a := Nat.mod_eq_of_lt (by omega)
  have h2 : b % 18446744073709551616 = b := Nat.mod_eq_of_lt (by omega)
  have h3 : a ^^^ b < 2 ^ 32 := Nat.xor_lt_two_pow (n := 32) (by omega) (by omega)
  have h4 : (BitVec.ofNat 64 a ^^^ BitVec.ofNat 64 b).toNat = a ^^^ b := by
    rw [BitVec.toNat_xor, BitVec.toNat_ofNat, BitVec.toNat_ofNat]
    simp only [Nat.reducePow, h1, h2]
  have h5 : bits .xor .i64 (a : Int) (b : Int) = IntKind.i64.wrap (((BitVec.ofNat 64 a ^^^ BitVec.ofNat 64 b).toNat : Nat) : Int) := rfl
  rw [h5, h4, IntKind.wrap_i64]
  generalize a ^^^ b = z at *
  omega

theorem crcOn_no (sum : Int) (bs : List Int) (h : sum < 0 ∨ 4294967295 < sum) : crcOn sum bs = -1 := by unfold crcOn; rw [if_pos h]
end Go.Proofs.Ytekpfafmhgplpaa
