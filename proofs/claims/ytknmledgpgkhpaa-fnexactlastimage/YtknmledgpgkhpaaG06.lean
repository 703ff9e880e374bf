import Derived.Test.YtknmledgpgkhpaaG05
import Derived.Test.YtknmledgpgkhpaaG04
import Derived.Deep.DeepCutAuto
namespace Go.Proofs.Ytknmledgpgkhpaa
set_option maxRecDepth 100000
set_option maxHeartbeats 16000000
open Go.RowKit
set_option linter.unusedVariables false
set_option linter.unusedSimpArgs false
def shareAt (sl : List Int) (i j : Nat) : Bool := sharesB (sl.getD (2 * i) 0) (sl.getD (2 * i + 1) 0) (sl.getD (2 * j) 0) (sl.getD (2 * j + 1) 0)
def share (sl : List Int) : Bool := (List.range 32).any fun i => (List.range i).any fun j => shareAt sl i j
end Go.Proofs.Ytknmledgpgkhpaa

namespace Go.Proofs.Ytknmledgpgkhpaa
set_option maxRecDepth 100000
set_option maxHeartbeats 16000000
open Go.RowKit
set_option linter.unusedVariables false
set_option linter.unusedSimpArgs false
def headBad (sum : List Int) (lsn num bot : Int) (sl raw : List Int) : Bool := !isLSN lsn || encB sum lsn num bot sl raw != raw
def faultP (sum : List Int) (lsn num bot : Int) (sl raw : List Int) (number : Int) : Int :=
  if num ≠ number then 2 else if headBad sum lsn num bot sl raw then 3 else if bot < 148 ∨ 4096 < bot then 4 else if astray bot sl then 5 else if share sl then 6 else 0
end Go.Proofs.Ytknmledgpgkhpaa

namespace Go.Proofs.Ytknmledgpgkhpaa
open Go.RowKit
set_option linter.unusedVariables false
set_option linter.unusedSimpArgs false
def pageFault (raw : List Int) (number : Int) : Int := if raw.length ≠ 4096 then 1 else faultP (raw.take 4) (numAt raw 4 8) (numAt raw 12 4) (numAt raw 16 2) (slotsOf raw) raw number
def ownOK (raw : List Int) : Bool := raw.length == 4096 && pageFault raw (numAt raw 12 4) == 0
end Go.Proofs.Ytknmledgpgkhpaa

namespace Go.Proofs.Ytknmledgpgkhpaa
set_option maxRecDepth 100000
set_option maxHeartbeats 16000000
open Go.RowKit
set_option linter.unusedVariables false
set_option linter.unusedSimpArgs false
structure Rows2 (w : World) (g : Nat) (sl : List Int) : Prop where
  at0 : ∀ k, k < 32 → w.cell? ⟨g, k * 2, none⟩ = some (.int .i64 (sl.getD (2 * k) 0))
  at1 : ∀ k, k < 32 → w.cell? ⟨g, k * 2 + 1, none⟩ = some (.int .i64 (sl.getD (2 * k + 1) 0))
theorem Rows2.kept {R : Nat → Prop} {w w' : World} {g : Nat} {sl : List Int} (h : Rows2 w g sl) (hk : Kept R w w') (hr : ¬ R g) : Rows2 w' g sl :=
  ⟨fun k hk' => hk.cellOf (h.at0 k hk') hr, fun k hk' => hk.cellOf (h.at1 k hk') hr⟩
end Go.Proofs.Ytknmledgpgkhpaa
