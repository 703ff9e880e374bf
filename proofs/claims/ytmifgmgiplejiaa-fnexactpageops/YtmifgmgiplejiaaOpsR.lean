/-
  An answer that is a list of operations.
-/
import Derived.Test.YtmifgmgiplejiaaRowOp
import Derived.Test.YtmifgmgiplejiaaMemR3
namespace Go.Proofs.Ytmifgmgiplejiaa
set_option maxRecDepth 100000
open Go.RowKit
set_option linter.unusedVariables false
set_option linter.unusedSimpArgs false

theorem size_opsF {ps : List EOp} {ds : List (Int × Int × List Int)} (h : datOpS ps = ds) : sizeOpS ps = (ds.map fun d => d.2.2.length).sum := by
  subst h
  induction ps with
  | nil => rfl
  | cons p ps ih => simp only [datOpS, List.map_cons, List.sum_cons, sizeOpS] at ih ⊢; rw [ih]; rfl
/-- The answer: a list of operations in memory of its own. -/
def OpsR (w w' : World) (ds : List (Int × Int × List Int)) (v : Value) : Prop :=
  ∃ a n c ps, v = .slice a n c ∧ datOpS ps = ds ∧ (∀ b, footR kOp (.slice a n c) ps b → w.heap.size ≤ b) ∧ OwnR kOp 0 64 5 w' (.slice a n c) ps ∧ Same w w'
theorem opsR_made (w : World) : OwnR kOp 0 64 5 (w.alloc (.cells #[] 64)) (.slice (some ⟨w.heap.size, 0, none⟩) 0 0) [] :=
  ⟨World.ownsRow_made w #[] 0 (Nat.zero_le _) (by simp) (by simp), fun _ h => by simp at h, fun _ h => by simp at h, List.Pairwise.nil⟩
theorem foot_made {g n c x : Nat} (h : footR kOp (.slice (some ⟨g, 0, none⟩) n c) [] x) : x = g := by
  rcases h with h | ⟨p, hp, _⟩
  · have h' : g = x := by simpa [Value.ownBlock] using h
    exact h'.symm
  · simp at hp
end Go.Proofs.Ytmifgmgiplejiaa
