/-
  Sectors joined.
-/
import Derived.WalkKit
namespace Go.Proofs.Ytednajibnjofmaa
def joinS (S : Nat → List Int) (k : Nat) : List Int := ((List.range k).map S).flatten
theorem joinS_succ (S : Nat → List Int) (k : Nat) : joinS S (k + 1) = joinS S k ++ S k := by
  unfold joinS
  rw [List.range_succ, List.map_append, List.flatten_append]
  simp
theorem joinS_length (S : Nat → List Int) : ∀ k, (∀ i, i < k → (S i).length = 512) → (joinS S k).length = k * 512
  | 0, _ => rfl
  | k + 1, h => by rw [joinS_succ, List.length_append, joinS_length S k (fun i hi => h i (by omega)), h k (by omega)]; omega
end Go.Proofs.Ytednajibnjofmaa
