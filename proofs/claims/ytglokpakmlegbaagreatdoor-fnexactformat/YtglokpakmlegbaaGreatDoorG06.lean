import Derived.Test.YtglokpakmlegbaaGreatDoorG05
import Derived.Test.YtglokpakmlegbaaGreatDoorG03
import Derived.Deep.DeepCutAuto
import Derived.Laws.StructEq
namespace Go.Proofs.YtglokpakmlegbaaGreatDoor
set_option maxRecDepth 100000
set_option maxHeartbeats 16000000
set_option linter.unusedVariables false
set_option linter.unusedSimpArgs false
open Go.RowKit
def astrayAt (bot x y : Int) : Bool := (x != 0 && (decide (1000 < y) || decide (x < bot) || decide (4096 < x + y))) || (x == 0 && y != 0)
def astray (bot : Int) (sl : List Int) : Bool := (List.range 32).any fun i => astrayAt bot (sl.getD (2 * i) 0) (sl.getD (2 * i + 1) 0)
def Small (sl : List Int) : Prop := ∀ x ∈ sl, 0 ≤ x ∧ x ≤ 65535
theorem Small.at {sl : List Int} (h : Small sl) (k : Nat) : 0 ≤ sl.getD k 0 ∧ sl.getD k 0 ≤ 65535 := by
 by_cases hk : k < sl.length
 ·have : sl.getD k 0 = sl[k] := by simp [hk]
  rw [this]
  exact h _ (List.getElem_mem hk)
 ·simp [List.getD, List.getElem?_eq_none (show sl.length ≤ k by omega)]
def shareAt (sl : List Int) (i j : Nat) : Bool := sharesB (sl.getD (2 * i) 0) (sl.getD (2 * i + 1) 0) (sl.getD (2 * j) 0) (sl.getD (2 * j + 1) 0)
def share (sl : List Int) : Bool := (List.range 32).any fun i => (List.range i).any fun j => shareAt sl i j
def headBad (sum : List Int) (lsn num bot : Int) (sl raw : List Int) : Bool := !isLSN lsn || encB sum lsn num bot sl raw != raw
def faultP (sum : List Int) (lsn num bot : Int) (sl raw : List Int) (number : Int) : Int :=
 if num ≠ number then 2 else if headBad sum lsn num bot sl raw then 3 else if bot < 148 ∨ 4096 < bot then 4 else if astray bot sl then 5 else if share sl then 6 else 0
def pageFault (raw : List Int) (number : Int) : Int := if raw.length ≠ 4096 then 1 else faultP (raw.take 4) (numAt raw 4 8) (numAt raw 12 4) (numAt raw 16 2) (slotsOf raw) raw number
end Go.Proofs.YtglokpakmlegbaaGreatDoor
