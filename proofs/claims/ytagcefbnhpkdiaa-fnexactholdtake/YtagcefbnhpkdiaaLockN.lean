/-
  impl.notRising; slices.IndexFunc, slices.ContainsFunc at locks; impl.anyNeighbours; impl.LocksFault (by tools/gen/lockn.py).
-/
import Derived.Test.YtagcefbnhpkdiaaLockI
namespace Go.Proofs.Ytagcefbnhpkdiaa
set_option maxRecDepth 100000
set_option maxHeartbeats 4000000
open Go.RowKit
set_option linter.unusedVariables false
set_option linter.unusedSimpArgs false

theorem alloc_at (w : World) (o : Obj) : (w.alloc o).heap[w.heap.size]? = some o := by
  unfold World.alloc
  simp
/-- the first from k on of which f says yes -/
def idxF3 (f : T3 → Bool) : Nat → List T3 → Int
  | _, [] => -1
  | k, p :: ps => if f p = true then (k : Int) else idxF3 f (k + 1) ps
theorem idxF3_at {f : T3 → Bool} {ps : List T3} {k : Nat} (hk : k < ps.length) :
    idxF3 f k (ps.drop k) = if f ps[k] = true then (k : Int) else idxF3 f (k + 1) (ps.drop (k + 1)) := by
  rw [List.drop_eq_getElem_cons hk]
  rfl
theorem idxF3_end {f : T3 → Bool} {ps : List T3} : idxF3 f ps.length (ps.drop ps.length) = -1 := by
  rw [List.drop_length]
  rfl
theorem idxF3_any (f : T3 → Bool) (ps : List T3) (k : Nat) : decide (0 ≤ idxF3 f k ps) = ps.any f := by
  induction ps generalizing k with
  | nil => rfl
  | cons p ps ih =>
    rw [List.any_cons]
    by_cases h : f p = true
    · have e : idxF3 f k (p :: ps) = k := if_pos h
      rw [e, h]; simp
    · have e : idxF3 f k (p :: ps) = idxF3 f (k + 1) ps := if_neg h
      rw [e, ih (k + 1), show f p = false from by simpa using h]; simp
/-- a function with a body -/
def Enters8 (fid : FuncId) : Prop := ∀ (args : Array Value) (wx : World), (callFunc fid args).run Try.prog wx = .ok (.enter fid args) wx
def lkV (p : T3) : Value := .agg #[.int .i64 p.1, .int .i64 p.2.1, .int .i64 p.2.2]
/-- what the function answers to each lock -/
def Asks3 (fid : FuncId) (f : T3 → Bool) (w : World) (ps : List T3) : Prop :=
  ∀ (p : T3) (wx : World), p ∈ ps → Calls Try.prog fid #[.agg #[.int .i64 p.1, .int .i64 p.2.1, .int .i64 p.2.2]] wx fun e w' => e = .returned (.bool (f p)) ∧ Same wx w'

/-- what the function answers to two locks -/
def Asks33 (fid : FuncId) (f : T3 → T3 → Bool) (ps : List T3) : Prop :=
  ∀ (p q : T3) (wx : World), p ∈ ps → q ∈ ps → Calls Try.prog fid #[.agg #[.int .i64 p.1, .int .i64 p.2.1, .int .i64 p.2.2], .agg #[.int .i64 q.1, .int .i64 q.2.1, .int .i64 q.2.2]] wx fun e w' => e = .returned (.bool (f p q)) ∧ Same wx w'

end Go.Proofs.Ytagcefbnhpkdiaa
