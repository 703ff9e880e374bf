/-
  (*sumTable).fill: the table is what each byte becomes.
-/
import Derived.Test.YtekpfafmhgplpaaSum
import Derived.Test.YtekpfafmhgplpaaOnce
import Derived.Test.YtekpfafmhgplpaaDrawn
namespace Go.Proofs.Ytekpfafmhgplpaa
open Go.RowKit
set_option linter.unusedVariables false

/-- A table in memory: the Once's three cells and the entries. -/
def tcells (d s q : Int) (T : List Int) : List Value := .int .u32 d :: .int .i32 s :: .int .u32 q :: vals .u32 T
theorem tcells_at (d s q : Int) (T : List Int) (j : Nat) : (tcells d s q T)[j + 3]? = (vals .u32 T)[j]? := rfl
theorem tcells_set (d s q : Int) (T : List Int) (j : Nat) (x : Int) : (tcells d s q T).set (j + 3) (.int .u32 x) = tcells d s q (T.set j x) := by simp [tcells, vals]

def bitOf (m : Nat) : Int := if m < 8 then ((2 ^ (7 - m) : Nat) : Int) else 0
theorem bitOf_next (m : Nat) (h : m < 8) : bitOf m / 2 = bitOf (m + 1) := by
  have : ∀ m < 8, bitOf m / 2 = bitOf (m + 1) := by decide +kernel
  exact this m h
theorem bitOf_lt (m : Nat) (h : m < 8) : 1 ≤ 2 ^ (7 - m) ∧ 2 ^ (7 - m) ≤ 128 ∧ 2 ^ (8 - m) = 2 * 2 ^ (7 - m) := by
  have : ∀ m < 8, 1 ≤ 2 ^ (7 - m) ∧ 2 ^ (7 - m) ≤ 128 ∧ 2 ^ (8 - m) = 2 * 2 ^ (7 - m) := by decide +kernel
  exact this m h
theorem entry_lt (m n : Nat) (h : m < 8) (hn : n < 2 ^ m) : 2 ^ (8 - m) * n + 2 ^ (7 - m) < 256 ∧ 2 ^ (8 - m) * (n + 1) ≤ 256 := by
  have h1 : 2 ^ (8 - m) * (n + 1) ≤ 2 ^ (8 - m) * 2 ^ m := Nat.mul_le_mul_left _ hn
  have h2 := bitOf_lt m h
  rw [← Nat.pow_add, show 8 - m + m = 8 from by omega] at h1
  rw [Nat.mul_succ] at h1
  rw [Nat.mul_succ]
  omega

end Go.Proofs.Ytekpfafmhgplpaa
