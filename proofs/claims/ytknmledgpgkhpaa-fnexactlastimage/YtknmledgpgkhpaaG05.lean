import Derived.Test.YtknmledgpgkhpaaG04
namespace Go.Proofs.Ytknmledgpgkhpaa
set_option maxRecDepth 100000
set_option maxHeartbeats 16000000
open Go.RowKit
set_option linter.unusedVariables false
set_option linter.unusedSimpArgs false
def numAt (raw : List Int) (o n : Nat) : Int := getN ((raw.drop o).take n)
def slotsOf (raw : List Int) : List Int := (List.range 64).map fun j => numAt raw (20 + 2 * j) 2
theorem slotsOf_length (raw : List Int) : (slotsOf raw).length = 64 := by simp [slotsOf]
theorem slotsOf_at (raw : List Int) (j : Nat) (h : j < 64) : (slotsOf raw).getD j 0 = numAt raw (20 + 2 * j) 2 := by simp [slotsOf, List.getD, h]
theorem spCells_set (sum : List Int) (lsn num bot : Int) (sl raw : List Int) (j : Nat) (x : Int) (h1 : sum.length = 4) (h2 : sl.length = 64) (hj : j < 64) : (spCells sum lsn num bot sl raw).set (7 + j) (.int .i64 x) = spCells sum lsn num bot (sl.set j x) raw := by
  have e : (vals .u8 sum).length = 4 := by rw [vals_length, h1]
  unfold spCells
  rw [List.set_append_right (h := by omega), e, show 7 + j - 4 = j + 1 + 1 + 1 from by omega, List.set_cons_succ, List.set_cons_succ, List.set_cons_succ, List.set_append_left (h := by rw [vals_length, h2]; exact hj)]
  simp [vals]
theorem SP.slot {w : World} {B : Nat} {sum : List Int} {lsn num bot : Int} {sl raw : List Int} (h : SP w B sum lsn num bot sl raw) (j : Nat) (hj : j < 64) (x : Int) : SP (w.setCell ⟨B, 7 + j, none⟩ (.int .i64 x)) B sum lsn num bot (sl.set j x) raw := by
  refine ⟨?_, h.l1, by rw [List.length_set]; exact h.l2, h.l3⟩
  rw [← spCells_set sum lsn num bot sl raw j x h.l1 h.l2 hj]
  exact h.blk.stored _ _
section
variable {P : Program} {ops : Array Oper} {S : World → Prop} {o : Oper} {a : Act}
end
end Go.Proofs.Ytknmledgpgkhpaa

namespace Go.Proofs.Ytknmledgpgkhpaa
set_option maxRecDepth 100000
set_option maxHeartbeats 4000000
open Go.RowKit
set_option linter.unusedVariables false
set_option linter.unusedSimpArgs false
def isLSN (x : Int) : Bool := decide (0 ≤ x) && decide (x ≤ 1099511627776)
def sharesB (x y x' y' : Int) : Bool := decide (max x x' < min (x + y) (x' + y'))
end Go.Proofs.Ytknmledgpgkhpaa

namespace Go.Proofs.Ytknmledgpgkhpaa
set_option maxRecDepth 100000
set_option maxHeartbeats 16000000
open Go.RowKit
set_option linter.unusedVariables false
set_option linter.unusedSimpArgs false
def astrayAt (bot x y : Int) : Bool := (x != 0 && (decide (1000 < y) || decide (x < bot) || decide (4096 < x + y))) || (x == 0 && y != 0)
def astray (bot : Int) (sl : List Int) : Bool := (List.range 32).any fun i => astrayAt bot (sl.getD (2 * i) 0) (sl.getD (2 * i + 1) 0)
def Small (sl : List Int) : Prop := ∀ x ∈ sl, 0 ≤ x ∧ x ≤ 65535
theorem Small.at {sl : List Int} (h : Small sl) (k : Nat) : 0 ≤ sl.getD k 0 ∧ sl.getD k 0 ≤ 65535 := by
  by_cases hk : k < sl.length
  · have : sl.getD k 0 = sl[k] := by simp [hk]
    rw [this]
    exact h _ (List.getElem_mem hk)
  · simp [List.getD, List.getElem?_eq_none (show sl.length ≤ k by omega)]
end Go.Proofs.Ytknmledgpgkhpaa
