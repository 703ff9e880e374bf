/-
  THE SAME OF DISKS: eqDisk, markDisk, heldDisk.
-/
import Derived.Test.YtagcefbnhpkdiabPend
namespace Go.Proofs.Ytagcefbnhpkdiab
set_option maxHeartbeats 400000
open Go.RowKit

theorem slice_of_ownP {base : Nat} {tw tb : TypeId} {w : World} {v : Value} {ps : List PW} (h : OwnP base tw tb w v ps) : ∃ aa na ca, v = .slice aa na ca := by
  rcases h.form with ⟨rfl, _⟩ | ⟨g, cap, rfl, _⟩ <;> exact ⟨_, _, _, rfl⟩

end Go.Proofs.Ytagcefbnhpkdiab
