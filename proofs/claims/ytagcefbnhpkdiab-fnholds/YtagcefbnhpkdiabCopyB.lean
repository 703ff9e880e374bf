/-
  toByteS: a copy of bytes in new memory.
-/
import Derived.Test.YtagcefbnhpkdiabRead
import Derived.Test.YtagcefbnhpkdiabBytes
namespace Go.Proofs.Ytagcefbnhpkdiab
set_option maxHeartbeats 400000
open Go.RowKit

theorem Try.infoByte' : (Try.prog.info? 5).map (fun i => (i.zero, i.size, i.bytes)) = some (some (.int .u8 0), 1, 1) := by kernel_rfl

/-- The first k as in bs, the rest 0. -/
def fillUp (bs : List Int) (k : Nat) : List Int := bs.take k ++ List.replicate (bs.length - k) 0
theorem fillUp_length (bs : List Int) (k : Nat) (h : k ≤ bs.length) : (fillUp bs k).length = bs.length := by simp [fillUp]; omega
theorem fillUp_zero (bs : List Int) : fillUp bs 0 = List.replicate bs.length 0 := by simp [fillUp]
theorem fillUp_all (bs : List Int) : fillUp bs bs.length = bs := by simp [fillUp]
theorem fillUp_step (bs : List Int) (k : Nat) (h : k < bs.length) : (fillUp bs k).set k (bs.getD k 0) = fillUp bs (k + 1) := by
  unfold fillUp
  have e : bs.length - k = (bs.length - (k + 1)) + 1 := by omega
  have e2 : bs.getD k 0 = bs[k] := by simp [h, List.getD]
  rw [e2, List.set_append_right (h := by simp; omega), List.length_take, Nat.min_eq_left (Nat.le_of_lt h), Nat.sub_self, e, List.replicate_succ, List.set_cons_zero, List.take_succ_eq_append_getElem h, List.append_assoc]
  rfl

end Go.Proofs.Ytagcefbnhpkdiab
