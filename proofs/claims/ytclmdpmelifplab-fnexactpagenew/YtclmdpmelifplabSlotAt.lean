/-
  One slot out of an array of slots.
-/
import Derived.Test.YtclmdpmelifplabSPage
namespace Go.Proofs.Ytclmdpmelifplab
open Go.RowKit
set_option linter.unusedVariables false
set_option linter.unusedSimpArgs false
set_option maxRecDepth 100000 in
theorem slot_at (sl : List Int) (hl : sl.length = 64) (k : Nat) (hk : k < 32) (w : World) : (Instr.index 67 (.agg (vals .i64 sl).toArray) (.int .i64 k)).run Try.prog w = .ok (.agg #[.int .i64 (sl.getD (2 * k) 0), .int .i64 (sl.getD (2 * k + 1) 0)]) w := by
  have hz : ∀ w, (sizeOf 66).run Try.prog w = .ok 2 w := by
    have h : (Try.prog.info? 66).map (·.size) = some 2 := by kernel_rfl
    intro w
    cases hq : Try.prog.info? 66 with
    | none => simp [hq] at h
    | some i =>
      have hi : i.size = 2 := by simpa [hq] using h
      simp [sizeOf, typeInfo, hq, hi]
  have h1 : (k : Int) < 32 := by omega
  simp [Instr.index, run_underlying Try.underlying67, asIntOf, hz, h1, go_sem]
  rw [if_pos hk]
  have hv : (vals .i64 sl).length = 64 := by rw [vals_length, hl]
  rw [Nat.mul_comm k 2, List.drop_eq_getElem_cons (by omega : 2 * k < (vals .i64 sl).length), List.drop_eq_getElem_cons (by omega : 2 * k + 1 < (vals .i64 sl).length)]
  simp [vals, List.getElem?_eq_getElem (show 2 * k < sl.length by omega), List.getElem?_eq_getElem (show 2 * k + 1 < sl.length by omega)]
end Go.Proofs.Ytclmdpmelifplab
