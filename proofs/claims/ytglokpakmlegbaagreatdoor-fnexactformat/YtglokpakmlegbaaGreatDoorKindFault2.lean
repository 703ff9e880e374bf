import Derived.Test.YtglokpakmlegbaaGreatDoorG07
import Derived.Test.YtglokpakmlegbaaGreatDoorInOrder
import Derived.Test.YtglokpakmlegbaaGreatDoorG06
import Derived.Great.BuildSlice
namespace Go.Proofs.YtglokpakmlegbaaGreatDoor
set_option maxRecDepth 100000
set_option maxHeartbeats 16000000
open Go.RowKit
set_option linter.unusedVariables false
set_option linter.unusedSimpArgs false
def imgF (page : Int) (im : List Int) : Int := if isPageB page = false then 5 else if pageFault im page ≠ 0 then 9 else 0
def tabF (nT : Int) (tx : List Int) (tn : Nat) (dy : List Int) (dn : Nat) : Int := if (decide (1 ≤ nT) && decide (nT ≤ 2147483648) && allTxns tx tn && allDirty dy dn) = true then 0 else 8
theorem tablesFault_any (nT : Int) (tx dy : FR) (w : World) (hv : RdF 4 w tx) (hv2 : RdF 2 w dy) :
    Calls Tryz.prog 156 #[.agg #[.int .i64 0, .int .i64 0, .int .i64 nT, tx.v, dy.v]] w fun e w' => e = .returned (.int .i64 (tabF nT tx.bs tx.n dy.bs dy.n)) ∧ Same w w' := by
  have h1 := fun wx (h : Same w wx) => Txns_any tx wx (hv.same h)
  have h2 := fun wx (h : Same w wx) => Dirty_any dy wx (hv2.same h)
  obtain ⟨txe, txa, txn, txc, txb⟩ := tx
  obtain ⟨dye, dya, dyn, dyc, dyb⟩ := dy
  dsimp only [FR.v] at *
  have b0 := Blk.new w #[.int .i64 0, .int .i64 0, .int .i64 nT, .slice txa txn txc, .slice dya dyn dyc] 138
  have hk0 : Same w (w.alloc (.cells #[.int .i64 0, .int .i64 0, .int .i64 nT, .slice txa txn txc, .slice dya dyn dyc] 138)) := (Kept.refl _ _).alloc _
  unfold tabF
  generalize allTxns txb txn = A at *
  generalize allDirty dyb dyn = B at *
  clear hv hv2
  by_cases hc0 : nT < 1
  · rw [decide_eq_false (show ¬ (1 ≤ nT) from by omega)]
    simp only [Bool.false_and, Bool.false_eq_true, if_false]
    go_enter Tryz.func156, Tryz.ntmps156
    go_wp2
    go_ret
    exact ⟨rfl, hk0⟩
  by_cases hc1 : 2147483648 < nT
  · rw [decide_eq_false (show ¬ (nT ≤ 2147483648) from by omega)]
    simp only [Bool.false_and, Bool.and_false, Bool.false_eq_true, if_false]
    go_enter Tryz.func156, Tryz.ntmps156
    go_wp2
    go_ret
    exact ⟨rfl, hk0⟩
  rw [decide_eq_true (show 1 ≤ nT from by omega), decide_eq_true (show nT ≤ 2147483648 from by omega)]
  cases A with
  | false =>
    simp only [Bool.false_and, Bool.and_false, Bool.false_eq_true, if_false]
    go_enter Tryz.func156, Tryz.ntmps156
    go_wp2_with (go_at_call 157; refine (h1 _ hk0).mono ?_; rintro e w1 ⟨rfl, hk1⟩; have cw12 : w1.cell? ⟨w.heap.size, 2, none⟩ = some (.int .i64 nT) := (b0.same hk1).cell 2; have cw13 : w1.cell? ⟨w.heap.size, 3, none⟩ = some (.slice txa txn txc) := (b0.same hk1).cell 3; have cw14 : w1.cell? ⟨w.heap.size, 4, none⟩ = some (.slice dya dyn dyc) := (b0.same hk1).cell 4)
    go_ret
    exact ⟨rfl, hk0.trans hk1⟩
  | true =>
    cases B with
    | false =>
      simp only [Bool.and_self, Bool.and_false, Bool.false_eq_true, if_false]
      go_enter Tryz.func156, Tryz.ntmps156
      go_wp2_with (first
        | (go_at_call 157; refine (h1 _ hk0).mono ?_; rintro e w1 ⟨rfl, hk1⟩; have cw12 : w1.cell? ⟨w.heap.size, 2, none⟩ = some (.int .i64 nT) := (b0.same hk1).cell 2; have cw13 : w1.cell? ⟨w.heap.size, 3, none⟩ = some (.slice txa txn txc) := (b0.same hk1).cell 3; have cw14 : w1.cell? ⟨w.heap.size, 4, none⟩ = some (.slice dya dyn dyc) := (b0.same hk1).cell 4; have h2' := h2 w1 (hk0.trans hk1))
        | (go_at_call 158; refine h2'.mono ?_; rintro e w2 ⟨rfl, hk2⟩))
      go_ret
      exact ⟨rfl, (hk0.trans hk1).trans hk2⟩
    | true =>
      simp only [Bool.and_self, if_true]
      go_enter Tryz.func156, Tryz.ntmps156
      go_wp2_with (first
        | (go_at_call 157; refine (h1 _ hk0).mono ?_; rintro e w1 ⟨rfl, hk1⟩; have cw12 : w1.cell? ⟨w.heap.size, 2, none⟩ = some (.int .i64 nT) := (b0.same hk1).cell 2; have cw13 : w1.cell? ⟨w.heap.size, 3, none⟩ = some (.slice txa txn txc) := (b0.same hk1).cell 3; have cw14 : w1.cell? ⟨w.heap.size, 4, none⟩ = some (.slice dya dyn dyc) := (b0.same hk1).cell 4; have h2' := h2 w1 (hk0.trans hk1))
        | (go_at_call 158; refine h2'.mono ?_; rintro e w2 ⟨rfl, hk2⟩))
      go_ret
      exact ⟨rfl, (hk0.trans hk1).trans hk2⟩
theorem beginFault_any (w : World) : Calls Tryz.prog 154 #[.agg #[.int .i64 0, .int .i64 0]] w fun e w' => e = .returned (.int .i64 0) ∧ Same w w' := by
  go_enter Tryz.func154, Tryz.ntmps154
  go_wp2
  go_ret
  exact ⟨rfl, by first | exact Kept.refl _ _ | exact (Kept.refl _ _).alloc _⟩
end Go.Proofs.YtglokpakmlegbaaGreatDoor
