/-
  toByteS, toSectorWrite, toSectorWriteS, toDisk: copies in new memory.
-/
import Derived.Test.YtagcefbnhpkdiabArgs
namespace Go.Proofs.Ytagcefbnhpkdiab
set_option maxHeartbeats 1000000
open Go.RowKit

/-- The copies so far, the rest zero. -/
theorem fresh_zeros {v : Value} {qs : List PW} {n B : Nat} (hv : ∀ b, v.ownBlock = some b → B ≤ b) (h : ∀ b, (∃ p ∈ qs, p.v.ownBlock = some b) → B ≤ b) (b : Nat) (hb : footP v (qs ++ List.replicate n zeroPW) b) : B ≤ b := by
  rcases hb with hb | ⟨p, hp, hb⟩
  · exact hv b hb
  · rcases List.mem_append.1 hp with hp | hp
    · exact h b ⟨p, hp, hb⟩
    · rw [List.eq_of_mem_replicate hp] at hb
      simp [zeroPW, Value.ownBlock] at hb

end Go.Proofs.Ytagcefbnhpkdiab
