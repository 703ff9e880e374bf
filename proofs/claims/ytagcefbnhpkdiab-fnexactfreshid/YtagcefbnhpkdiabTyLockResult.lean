/-
  LockResult of the laws (by tools/tygen.py).
-/
import Derived.Test.YtagcefbnhpkdiabOwnRows
import Derived.Test.YtagcefbnhpkdiabBlk
import Derived.Test.YtagcefbnhpkdiabBytes
import Derived.Test.YtagcefbnhpkdiabCopyB
import Derived.Test.YtagcefbnhpkdiabSzB
import Derived.Test.YtagcefbnhpkdiabTyLockS
import Derived.Deep.DeepCutAuto
namespace Go.Proofs.Ytagcefbnhpkdiab
set_option maxRecDepth 100000
set_option maxHeartbeats 4000000
open Go.RowKit
set_option linter.unusedVariables false
set_option linter.unusedSimpArgs false

structure StLockResult where
  code : Int
  locks : FR
def StLockResult.val (x : StLockResult) : Value := .agg #[.int .i64 x.code, x.locks.v]
def StLockResult.rows (x : StLockResult) : List Row := (x.locks).rows 3
def StLockResult.dat (x : StLockResult) : Int × List Int := (x.code, x.locks.bs)
def StLockResult.size (x : StLockResult) : Int := (x.locks.bs.length : Int)
theorem StLockResult.size_le (x : StLockResult) : 0 ≤ x.size := by
  unfold StLockResult.size
  omega
def StLockResult.marked (x : StLockResult) (k : Int) : StLockResult := ⟨x.code, x.locks.marked (k)⟩
theorem StLockResult.foot_marked (x : StLockResult) (k : Int) (b : Nat) : FootL (x.marked k).rows b ↔ FootL x.rows b := by
  exact FR.foot_marked 3 _ _ b
def StLockResult.rd (w : World) (x : StLockResult) : Prop := RdF 3 w x.locks
theorem StLockResult.rd.kept {R : Nat → Prop} {w w' : World} {x : StLockResult} (h : StLockResult.rd w x) (hk : Kept R w w') (hr : ∀ b, FootL x.rows b → ¬ R b) : StLockResult.rd w' x :=
  RdF.kept (h) hk (fun b hb => hr b (((FootL_one _ _).2 hb)))
theorem StLockResult.rd.same {w w' : World} {x : StLockResult} (h : StLockResult.rd w x) (hk : Same w w') : StLockResult.rd w' x := h.kept hk (fun _ _ => id)
theorem StLockResult.own_rd {w : World} {x : StLockResult} (h : OwnL w x.rows) : StLockResult.rd w x :=
  (FR.own_rd h)
def StLockResult.szs (x : StLockResult) : Int := (x.locks.n : Int)
theorem StLockResult.szs_le (x : StLockResult) : 0 ≤ x.szs := by
  unfold StLockResult.szs
  omega

end Go.Proofs.Ytagcefbnhpkdiab
