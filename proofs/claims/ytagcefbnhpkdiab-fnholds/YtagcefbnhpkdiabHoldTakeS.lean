/-
  spec.HoldTake (by tools/gen/holdtake.py).
-/
import Derived.Test.YtagcefbnhpkdiabHoldFreeS
namespace Go.Proofs.Ytagcefbnhpkdiab
set_option maxRecDepth 100000
set_option maxHeartbeats 8000000
open Go.RowKit
set_option linter.unusedVariables false
set_option linter.unusedSimpArgs false

def insH (e : T3) : Bool → List T3 → List T3
  | d, [] => if d = true then [] else [e]
  | d, h :: t => (if d = false ∧ e.1 ≤ h.1 then [e] else []) ++ ((if h.1 ≠ e.1 then [h] else []) ++ insH e (d || decide (e.1 ≤ h.1)) t)
def mostH (hs : List T3) (id be af : Int) : Int := maxI (maxI (holdOf id hs) 0) (maxI be af)
def takeH (hs : List T3) (txn id be af : Int) : List Int :=
  if holdsF hs = 0 ∧ inB txn 1 2147483647 = true ∧ inB id 0 511 = true ∧ inB be (-1) 1000 = true ∧ inB af (-1) 1000 = true then flat3 (insH (id, txn, mostH hs id be af) false hs) else []
theorem insH_length (e : T3) : ∀ (ls : List T3) (d : Bool), (insH e d ls).length ≤ 2 * ls.length + 1
  | [], d => by unfold insH; split <;> simp
  | h :: t, d => by
    have := insH_length e t (d || decide (e.1 ≤ h.1))
    unfold insH
    rw [List.length_append, List.length_append, List.length_cons]
    have h1 : (if d = false ∧ e.1 ≤ h.1 then [e] else []).length ≤ 1 := by split <;> simp
    have h2 : (if h.1 ≠ e.1 then [h] else []).length ≤ 1 := by split <;> simp
    omega
theorem takeH_small {bs : List Int} {n : Nat} {txn id be af : Int} (hl : bs.length = n * 3) (hp : n ≤ 1048576) : (takeH (tri bs) txn id be af).length ≤ 16777216 := by
  unfold takeH
  split
  · rw [flat3_length]
    have h1 := insH_length (id, txn, mostH (tri bs) id be af) (tri bs) false
    have h2 := tri_length n bs hl
    omega
  · simp

end Go.Proofs.Ytagcefbnhpkdiab
