/-
  A page taken apart, built of its parts.
-/
import Derived.Test.YtclmdpmelifplabEncode
import Derived.Great.BuildSlice
namespace Go.Proofs.Ytclmdpmelifplab
open Go.RowKit
set_option linter.unusedVariables false
set_option linter.unusedSimpArgs false

theorem lay_mid (A B C B' : List Value) (h : B'.length = B.length) : lay (A ++ (B ++ C)) A.length B' = A ++ (B' ++ C) := by
  unfold lay
  rw [List.take_left, h, List.drop_append, List.drop_of_length_le (by omega), Nat.add_sub_cancel_left, List.drop_left, List.nil_append]
def lay82 : Array (Nat × Nat) := #[(0, 4), (4, 1), (5, 1), (6, 1), (7, 64), (71, 4096)]
set_option maxRecDepth 100000 in
theorem built82 (parts : List (Nat × Value)) : Try.prog.built 71 parts = Instr.fill (fun i => lay82[i]?) Try.zeroCells71 parts := by kernel_rfl
/-- One part is laid. -/
theorem fill_one (L : Nat → Option (Nat × Nat)) (Z : List Value) (i off n : Nat) (v : Value) (ps : List (Nat × Value)) (hL : L i = some (off, n)) (hv : v.cells.size = n) (hz : off + n ≤ Z.length) :
    Instr.fill L Z.toArray ((i, v) :: ps) = Instr.fill L (lay Z off v.cells.toList).toArray ps := by
  obtain ⟨s1, g1⟩ := Great.foldl_set off v.cells.toList 0 Z.toArray
  have hvl : v.cells.toList.length = n := by rw [Array.length_toList, hv]
  have e : v.cells.zipIdx.foldl (fun cs (c, j) => cs.setIfInBounds (off + j) c) Z.toArray = (lay Z off v.cells.toList).toArray := by
    have e0 : v.cells.zipIdx.foldl (fun cs (c, j) => cs.setIfInBounds (off + j) c) Z.toArray = (v.cells.toList.zipIdx 0).foldl (fun cs (x : Value × Nat) => cs.setIfInBounds (off + x.2) x.1) Z.toArray := by
      rw [← Array.foldl_toList, Array.toList_zipIdx]
    rw [e0]
    refine Array.ext_getElem? fun k => ?_
    rw [g1 k]
    simp only [Nat.add_zero, List.getElem?_toArray, List.size_toArray, hvl]
    unfold lay
    by_cases h1 : k < off
    · rw [if_neg (by omega), List.getElem?_append_left (by simp; omega), List.getElem?_take_of_lt h1]
    · rw [List.getElem?_append_right (by simp; omega), List.length_take, Nat.min_eq_left (by omega)]
      by_cases h2 : k < off + n
      · rw [if_pos (by omega), List.getElem?_append_left (by omega)]
      · rw [if_neg (by omega), List.getElem?_append_right (by omega), hvl, List.getElem?_drop]
        congr 1
        omega
  rw [Instr.fill, hL]
  simp only [hv, List.size_toArray, ne_eq, not_true_eq_false, decide_false, Bool.false_or, gt_iff_lt, decide_eq_true_eq]
  rw [if_neg (by omega), e]
set_option maxRecDepth 100000 in
theorem build82 (sum : List Int) (lsn num bot : Int) (raw : List Int) (h1 : sum.length = 4) (h3 : raw.length = 4096) :
    Try.prog.built 71 [(0, .agg (vals .u8 sum).toArray), (1, .int .i64 lsn), (2, .int .i64 num), (3, .int .i64 bot), (5, .agg (vals .u8 raw).toArray)] = some (spCells sum lsn num bot (List.replicate 64 0) raw).toArray := by
  have hzc : Try.zeroCells71.toList = spCells (List.replicate 4 0) 0 0 0 (List.replicate 64 0) (List.replicate 4096 0) := by kernel_rfl
  have hz : Try.zeroCells71 = (spCells (List.replicate 4 0) 0 0 0 (List.replicate 64 0) (List.replicate 4096 0)).toArray := by rw [← hzc]
  have L0 : ∀ (sum : List Int) (a b c : Int) (sl raw : List Int), sum.length = 4 → sl.length = 64 → raw.length = 4096 → (spCells sum a b c sl raw).length = 4167 := fun _ _ _ _ _ _ h1 h2 h3 => spCells_length h1 h2 h3
  rw [built82, hz]
  rw [fill_one _ _ 0 0 4 _ _ rfl (by simp [Value.cells, vals, h1]) (by rw [L0 _ _ _ _ _ _ List.length_replicate List.length_replicate List.length_replicate]; decide)]
  have e0 : lay (spCells (List.replicate 4 0) 0 0 0 (List.replicate 64 0) (List.replicate 4096 0)) 0 (Value.agg (vals .u8 sum).toArray).cells.toList = spCells sum 0 0 0 (List.replicate 64 0) (List.replicate 4096 0) := lay_mid [] (vals .u8 (List.replicate 4 0)) _ (vals .u8 sum) (by rw [vals_length, vals_length, h1, List.length_replicate])
  rw [e0, fill_one _ _ 1 4 1 _ _ rfl rfl (by rw [L0 _ _ _ _ _ _ h1 List.length_replicate List.length_replicate]; decide)]
  have hs4 : (vals .u8 sum).length = 4 := by rw [vals_length, h1]
  have e1 : lay (spCells sum 0 0 0 (List.replicate 64 0) (List.replicate 4096 0)) 4 (Value.int .i64 lsn).cells.toList = spCells sum lsn 0 0 (List.replicate 64 0) (List.replicate 4096 0) := by
    have h := lay_mid (vals .u8 sum) [.int .i64 0] (.int .i64 0 :: .int .i64 0 :: (vals .i64 (List.replicate 64 0) ++ vals .u8 (List.replicate 4096 0))) [.int .i64 lsn] rfl
    rw [hs4] at h
    exact h
  rw [e1, fill_one _ _ 2 5 1 _ _ rfl rfl (by rw [L0 _ _ _ _ _ _ h1 List.length_replicate List.length_replicate]; decide)]
  have e2 : lay (spCells sum lsn 0 0 (List.replicate 64 0) (List.replicate 4096 0)) 5 (Value.int .i64 num).cells.toList = spCells sum lsn num 0 (List.replicate 64 0) (List.replicate 4096 0) := by
    have h := lay_mid (vals .u8 sum ++ [.int .i64 lsn]) [.int .i64 0] (.int .i64 0 :: (vals .i64 (List.replicate 64 0) ++ vals .u8 (List.replicate 4096 0))) [.int .i64 num] rfl
    rw [List.length_append, hs4, List.append_assoc, List.append_assoc] at h
    exact h
  rw [e2, fill_one _ _ 3 6 1 _ _ rfl rfl (by rw [L0 _ _ _ _ _ _ h1 List.length_replicate List.length_replicate]; decide)]
  have e3 : lay (spCells sum lsn num 0 (List.replicate 64 0) (List.replicate 4096 0)) 6 (Value.int .i64 bot).cells.toList = spCells sum lsn num bot (List.replicate 64 0) (List.replicate 4096 0) := by
    have h := lay_mid (vals .u8 sum ++ [.int .i64 lsn, .int .i64 num]) [.int .i64 0] (vals .i64 (List.replicate 64 0) ++ vals .u8 (List.replicate 4096 0)) [.int .i64 bot] rfl
    rw [List.length_append, hs4, List.append_assoc, List.append_assoc] at h
    exact h
  rw [e3, fill_one _ _ 5 71 4096 _ _ rfl (by simp [Value.cells, vals, h3]) (by rw [L0 _ _ _ _ _ _ h1 List.length_replicate List.length_replicate]; decide)]
  have e4 : lay (spCells sum lsn num bot (List.replicate 64 0) (List.replicate 4096 0)) 71 (Value.agg (vals .u8 raw).toArray).cells.toList = spCells sum lsn num bot (List.replicate 64 0) raw := by
    have h := lay_mid (vals .u8 sum ++ (.int .i64 lsn :: .int .i64 num :: .int .i64 bot :: vals .i64 (List.replicate 64 0))) (vals .u8 (List.replicate 4096 0)) [] (vals .u8 raw) (by rw [vals_length, vals_length, h3, List.length_replicate])
    have e : (vals .u8 sum ++ (.int .i64 lsn :: .int .i64 num :: .int .i64 bot :: vals .i64 (List.replicate 64 0))).length = 71 := by rw [List.length_append, hs4]; rw [List.length_cons, List.length_cons, List.length_cons, vals_length, List.length_replicate]
    rw [e, List.append_nil, List.append_nil, List.append_assoc] at h
    have e5 : spCells sum lsn num bot (List.replicate 64 0) (List.replicate 4096 0) = vals .u8 sum ++ ((.int .i64 lsn :: .int .i64 num :: .int .i64 bot :: vals .i64 (List.replicate 64 0)) ++ vals .u8 (List.replicate 4096 0)) := rfl
    rw [e5]
    refine Eq.trans h ?_
    rw [List.append_assoc]
    rfl
  rw [e4]
  rfl
end Go.Proofs.Ytclmdpmelifplab
