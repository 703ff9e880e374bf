/-
  Rows of numbers of 64 bits: copied, compared, marked.
-/
import Derived.Test.YtcdmlgafalnooaaCopy
namespace Go.Proofs.Ytcdmlgafalnooaa
set_option maxHeartbeats 400000
open Go.RowKit
theorem Try.infoI64 : (Try.prog.info? 2).map (fun i => (i.zero, i.size, i.bytes)) = some (some (.int .i64 0), 1, 8) := by kernel_rfl
def marksZ (k : Int) (n : Nat) : List Int := (List.range n).map fun (i : Nat) => k + (i : Int)
theorem marksZ_length (k : Int) (n : Nat) : (marksZ k n).length = n := by simp [marksZ]
def partZ (k : Int) (bs : List Int) (j : Nat) : List Int := marksZ k j ++ bs.drop j
theorem partZ_length (k : Int) (bs : List Int) (j : Nat) (h : j ≤ bs.length) : (partZ k bs j).length = bs.length := by simp [partZ, marksZ_length]; omega
theorem partZ_zero (k : Int) (bs : List Int) : partZ k bs 0 = bs := by simp [partZ, marksZ]
theorem partZ_all (k : Int) (bs : List Int) : partZ k bs bs.length = marksZ k bs.length := by simp [partZ]
theorem partZ_step (k : Int) (bs : List Int) (j : Nat) (h : j < bs.length) : (partZ k bs j).set j (k + j) = partZ k bs (j + 1) := by
  unfold partZ
  rw [List.set_append_right (h := by simp [marksZ_length]), marksZ_length, Nat.sub_self]
  have e : bs.drop j = bs[j] :: bs.drop (j + 1) := by rw [List.drop_eq_getElem_cons h]
  rw [e, List.set_cons_zero]
  simp [marksZ, List.range_succ]

end Go.Proofs.Ytcdmlgafalnooaa
