/-
  Both sides tell recF.
-/
import Derived.Test.YtclmdpmelifplabSpecT
namespace Go.Proofs.Ytclmdpmelifplab
open Go.RowKit
set_option linter.unusedVariables false
set_option linter.unusedSimpArgs false

theorem isSlotB_in (x : Int) : inB x 0 31 = isSlotB x := by
  unfold isSlotB inB
  rw [show decide (x < 32) = decide (x ≤ 31) from decide_eq_decide.2 (by omega)]
theorem inB_page (x : Int) : inB x 0 15 = isPageB x := (isPageB_in x).symm
theorem inB_txn (x : Int) : inB x 1 2147483647 = isTxnB x := rfl
theorem inB_lsn (x : Int) : inB x 0 1099511627776 = isLSN x := rfl
theorem empty_eq (u : Bool) (b : List Int) : emptyB u b.length = (false == u && decide ([] = b)) := by
  unfold emptyB
  cases u <;> cases b <;> simp
theorem len_eq (b : List Int) : decide (b.length = 0) = decide ([] = b) := by cases b <;> simp
theorem fits_empty : fitsB false 0 = true := rfl
set_option maxRecDepth 100000 in
set_option maxHeartbeats 4000000 in
theorem eqK_1 (txn prev page slot undoNext nextTxn : Int) (before_used after_used : Bool) (before_data_b after_data_b image_b txns_b dirty_b : List Int) (txns_n dirty_n : Nat) (e1 : txns_b.length / 4 = txns_n) (e2 : dirty_b.length / 2 = dirty_n) :
    ((if (!(decide (0 = undoNext) && decide (0 = nextTxn) && decide (txns_n = 0) && decide (dirty_n = 0) && decide (image_b.length = 0))) = true then 2 else (if (inB txn 1 2147483647) = false then 3 else (if (inB prev 0 1099511627776) = false then 4 else (if (inB page 0 15) = false then 5 else (if (inB slot 0 31) = false then 5 else (if (fitsB before_used before_data_b.length) = false then 6 else (if (fitsB after_used after_data_b.length) = false then 6 else (if (before_used || after_used) = false then 6 else (0))))))))) : Int) = if alone1 txn prev page slot before_used before_data_b after_used after_data_b undoNext nextTxn txns_b dirty_b image_b = true then orF (headF txn prev) (placeF page slot) (updF before_used after_used before_data_b.length after_data_b.length) else 2 := by
  unfold alone1
  rw [e1, e2]
  simp only [empty_eq, len_eq, inB_page, isSlotB_in, inB_txn, inB_lsn]
  by_cases qundoNext : 0 = undoNext
  case neg => simp only [decide_eq_false qundoNext, Bool.false_and, Bool.and_false, Bool.not_false, if_true, Bool.false_eq_true, if_false]
  subst qundoNext
  by_cases qnextTxn : 0 = nextTxn
  case neg => simp only [decide_eq_false qnextTxn, Bool.false_and, Bool.and_false, Bool.not_false, if_true, Bool.false_eq_true, if_false]
  subst qnextTxn
  by_cases qtxns : txns_n = 0
  case neg => simp only [decide_eq_false qtxns, Bool.false_and, Bool.and_false, Bool.not_false, if_true, Bool.false_eq_true, if_false]
  simp only [decide_eq_true qtxns]
  by_cases qdirty : dirty_n = 0
  case neg => simp only [decide_eq_false qdirty, Bool.false_and, Bool.and_false, Bool.not_false, if_true, Bool.false_eq_true, if_false]
  simp only [decide_eq_true qdirty]
  by_cases qimage : [] = image_b
  case neg => simp only [decide_eq_false qimage, Bool.false_and, Bool.and_false, Bool.not_false, if_true, Bool.false_eq_true, if_false]
  subst qimage
  simp only [decide_true, beq_self_eq_true, Bool.and_self, Bool.and_true, Bool.true_and, Bool.not_true, Bool.false_eq_true, if_true, if_false, List.length_nil]
  unfold orF headF placeF updF
  generalize isTxnB txn = g0 at *
  generalize isLSN prev = g1 at *
  generalize isPageB page = g2 at *
  generalize isSlotB slot = g3 at *
  generalize fitsB before_used before_data_b.length = g4 at *
  generalize fitsB after_used after_data_b.length = g5 at *
  cases g0 <;> cases g1 <;> cases g2 <;> cases g3 <;> cases g4 <;> cases g5 <;> cases before_used <;> cases after_used <;> simp [isLSN, fitsB]
set_option maxRecDepth 100000 in
set_option maxHeartbeats 4000000 in
theorem eqK_2 (txn prev page slot undoNext nextTxn : Int) (before_used after_used : Bool) (before_data_b after_data_b image_b txns_b dirty_b : List Int) (txns_n dirty_n : Nat) (e1 : txns_b.length / 4 = txns_n) (e2 : dirty_b.length / 2 = dirty_n) :
    ((if (!((emptyB before_used before_data_b.length) && decide (0 = nextTxn) && decide (txns_n = 0) && decide (dirty_n = 0) && decide (image_b.length = 0))) = true then 2 else (if (inB txn 1 2147483647) = false then 3 else (if (inB prev 0 1099511627776) = false then 4 else (if (inB page 0 15) = false then 5 else (if (inB slot 0 31) = false then 5 else (if (fitsB before_used before_data_b.length) = false then 6 else (if (fitsB after_used after_data_b.length) = false then 6 else (if (inB undoNext 0 1099511627776) = false then 7 else (0))))))))) : Int) = if alone2 txn prev page slot before_used before_data_b after_used after_data_b undoNext nextTxn txns_b dirty_b image_b = true then orF (headF txn prev) (placeF page slot) (undF after_used after_data_b.length undoNext) else 2 := by
  unfold alone2
  rw [e1, e2]
  simp only [empty_eq, len_eq, inB_page, isSlotB_in, inB_txn, inB_lsn]
  cases before_used with
  | true => simp only [show (false == true) = false from rfl, Bool.false_and, Bool.and_false, Bool.not_false, if_true, Bool.false_eq_true, if_false]
  | false =>
  by_cases qbefore : [] = before_data_b
  case neg => simp only [decide_eq_false qbefore, Bool.false_and, Bool.and_false, Bool.not_false, if_true, Bool.false_eq_true, if_false]
  subst qbefore
  by_cases qnextTxn : 0 = nextTxn
  case neg => simp only [decide_eq_false qnextTxn, Bool.false_and, Bool.and_false, Bool.not_false, if_true, Bool.false_eq_true, if_false]
  subst qnextTxn
  by_cases qtxns : txns_n = 0
  case neg => simp only [decide_eq_false qtxns, Bool.false_and, Bool.and_false, Bool.not_false, if_true, Bool.false_eq_true, if_false]
  simp only [decide_eq_true qtxns]
  by_cases qdirty : dirty_n = 0
  case neg => simp only [decide_eq_false qdirty, Bool.false_and, Bool.and_false, Bool.not_false, if_true, Bool.false_eq_true, if_false]
  simp only [decide_eq_true qdirty]
  by_cases qimage : [] = image_b
  case neg => simp only [decide_eq_false qimage, Bool.false_and, Bool.and_false, Bool.not_false, if_true, Bool.false_eq_true, if_false]
  subst qimage
  simp only [decide_true, beq_self_eq_true, Bool.and_self, Bool.and_true, Bool.true_and, Bool.not_true, Bool.false_eq_true, if_true, if_false, List.length_nil]
  unfold orF headF placeF undF
  generalize isTxnB txn = g0 at *
  generalize isLSN prev = g1 at *
  generalize isPageB page = g2 at *
  generalize isSlotB slot = g3 at *
  generalize fitsB after_used after_data_b.length = g4 at *
  have hh5 : isLSN undoNext = true ∨ isLSN undoNext = false := by cases isLSN undoNext <;> simp
  cases g0 <;> cases g1 <;> cases g2 <;> cases g3 <;> cases g4 <;> rcases hh5 with h5 | h5 <;> simp [h5, fits_empty]
set_option maxRecDepth 100000 in
set_option maxHeartbeats 4000000 in
theorem eqK_3 (txn prev page slot undoNext nextTxn : Int) (before_used after_used : Bool) (before_data_b after_data_b image_b txns_b dirty_b : List Int) (txns_n dirty_n : Nat) (e1 : txns_b.length / 4 = txns_n) (e2 : dirty_b.length / 2 = dirty_n) :
    ((if (!(decide (0 = slot) && (emptyB after_used after_data_b.length) && decide (0 = page) && (emptyB before_used before_data_b.length) && decide (0 = undoNext) && decide (0 = nextTxn) && decide (txns_n = 0) && decide (dirty_n = 0) && decide (image_b.length = 0))) = true then 2 else (if (inB txn 1 2147483647) = false then 3 else (if (inB prev 0 1099511627776) = false then 4 else (if (fitsB before_used before_data_b.length) = false then 6 else (if (fitsB after_used after_data_b.length) = false then 6 else (0)))))) : Int) = if alone3 txn prev page slot before_used before_data_b after_used after_data_b undoNext nextTxn txns_b dirty_b image_b = true then headF txn prev else 2 := by
  unfold alone3
  rw [e1, e2]
  simp only [empty_eq, len_eq, inB_page, isSlotB_in, inB_txn, inB_lsn]
  by_cases qpage : 0 = page
  case neg => simp only [decide_eq_false qpage, Bool.false_and, Bool.and_false, Bool.not_false, if_true, Bool.false_eq_true, if_false]
  subst qpage
  by_cases qslot : 0 = slot
  case neg => simp only [decide_eq_false qslot, Bool.false_and, Bool.and_false, Bool.not_false, if_true, Bool.false_eq_true, if_false]
  subst qslot
  cases before_used with
  | true => simp only [show (false == true) = false from rfl, Bool.false_and, Bool.and_false, Bool.not_false, if_true, Bool.false_eq_true, if_false]
  | false =>
  by_cases qbefore : [] = before_data_b
  case neg => simp only [decide_eq_false qbefore, Bool.false_and, Bool.and_false, Bool.not_false, if_true, Bool.false_eq_true, if_false]
  subst qbefore
  cases after_used with
  | true => simp only [show (false == true) = false from rfl, Bool.false_and, Bool.and_false, Bool.not_false, if_true, Bool.false_eq_true, if_false]
  | false =>
  by_cases qafter : [] = after_data_b
  case neg => simp only [decide_eq_false qafter, Bool.false_and, Bool.and_false, Bool.not_false, if_true, Bool.false_eq_true, if_false]
  subst qafter
  by_cases qundoNext : 0 = undoNext
  case neg => simp only [decide_eq_false qundoNext, Bool.false_and, Bool.and_false, Bool.not_false, if_true, Bool.false_eq_true, if_false]
  subst qundoNext
  by_cases qnextTxn : 0 = nextTxn
  case neg => simp only [decide_eq_false qnextTxn, Bool.false_and, Bool.and_false, Bool.not_false, if_true, Bool.false_eq_true, if_false]
  subst qnextTxn
  by_cases qtxns : txns_n = 0
  case neg => simp only [decide_eq_false qtxns, Bool.false_and, Bool.and_false, Bool.not_false, if_true, Bool.false_eq_true, if_false]
  simp only [decide_eq_true qtxns]
  by_cases qdirty : dirty_n = 0
  case neg => simp only [decide_eq_false qdirty, Bool.false_and, Bool.and_false, Bool.not_false, if_true, Bool.false_eq_true, if_false]
  simp only [decide_eq_true qdirty]
  by_cases qimage : [] = image_b
  case neg => simp only [decide_eq_false qimage, Bool.false_and, Bool.and_false, Bool.not_false, if_true, Bool.false_eq_true, if_false]
  subst qimage
  simp only [decide_true, beq_self_eq_true, Bool.and_self, Bool.and_true, Bool.true_and, Bool.not_true, Bool.false_eq_true, if_true, if_false, List.length_nil]
  unfold headF
  generalize isTxnB txn = g0 at *
  generalize isLSN prev = g1 at *
  cases g0 <;> cases g1 <;> simp [isLSN, fitsB]
set_option maxRecDepth 100000 in
set_option maxHeartbeats 4000000 in
theorem eqK_4 (txn prev page slot undoNext nextTxn : Int) (before_used after_used : Bool) (before_data_b after_data_b image_b txns_b dirty_b : List Int) (txns_n dirty_n : Nat) (e1 : txns_b.length / 4 = txns_n) (e2 : dirty_b.length / 2 = dirty_n) :
    ((if (!(decide (0 = slot) && (emptyB after_used after_data_b.length) && decide (0 = page) && (emptyB before_used before_data_b.length) && decide (0 = undoNext) && decide (0 = nextTxn) && decide (txns_n = 0) && decide (dirty_n = 0) && decide (image_b.length = 0))) = true then 2 else (if (inB txn 1 2147483647) = false then 3 else (if (inB prev 0 1099511627776) = false then 4 else (if (fitsB before_used before_data_b.length) = false then 6 else (if (fitsB after_used after_data_b.length) = false then 6 else (0)))))) : Int) = if alone4 txn prev page slot before_used before_data_b after_used after_data_b undoNext nextTxn txns_b dirty_b image_b = true then headF txn prev else 2 := by
  unfold alone4
  rw [e1, e2]
  simp only [empty_eq, len_eq, inB_page, isSlotB_in, inB_txn, inB_lsn]
  by_cases qpage : 0 = page
  case neg => simp only [decide_eq_false qpage, Bool.false_and, Bool.and_false, Bool.not_false, if_true, Bool.false_eq_true, if_false]
  subst qpage
  by_cases qslot : 0 = slot
  case neg => simp only [decide_eq_false qslot, Bool.false_and, Bool.and_false, Bool.not_false, if_true, Bool.false_eq_true, if_false]
  subst qslot
  cases before_used with
  | true => simp only [show (false == true) = false from rfl, Bool.false_and, Bool.and_false, Bool.not_false, if_true, Bool.false_eq_true, if_false]
  | false =>
  by_cases qbefore : [] = before_data_b
  case neg => simp only [decide_eq_false qbefore, Bool.false_and, Bool.and_false, Bool.not_false, if_true, Bool.false_eq_true, if_false]
  subst qbefore
  cases after_used with
  | true => simp only [show (false == true) = false from rfl, Bool.false_and, Bool.and_false, Bool.not_false, if_true, Bool.false_eq_true, if_false]
  | false =>
  by_cases qafter : [] = after_data_b
  case neg => simp only [decide_eq_false qafter, Bool.false_and, Bool.and_false, Bool.not_false, if_true, Bool.false_eq_true, if_false]
  subst qafter
  by_cases qundoNext : 0 = undoNext
  case neg => simp only [decide_eq_false qundoNext, Bool.false_and, Bool.and_false, Bool.not_false, if_true, Bool.false_eq_true, if_false]
  subst qundoNext
  by_cases qnextTxn : 0 = nextTxn
  case neg => simp only [decide_eq_false qnextTxn, Bool.false_and, Bool.and_false, Bool.not_false, if_true, Bool.false_eq_true, if_false]
  subst qnextTxn
  by_cases qtxns : txns_n = 0
  case neg => simp only [decide_eq_false qtxns, Bool.false_and, Bool.and_false, Bool.not_false, if_true, Bool.false_eq_true, if_false]
  simp only [decide_eq_true qtxns]
  by_cases qdirty : dirty_n = 0
  case neg => simp only [decide_eq_false qdirty, Bool.false_and, Bool.and_false, Bool.not_false, if_true, Bool.false_eq_true, if_false]
  simp only [decide_eq_true qdirty]
  by_cases qimage : [] = image_b
  case neg => simp only [decide_eq_false qimage, Bool.false_and, Bool.and_false, Bool.not_false, if_true, Bool.false_eq_true, if_false]
  subst qimage
  simp only [decide_true, beq_self_eq_true, Bool.and_self, Bool.and_true, Bool.true_and, Bool.not_true, Bool.false_eq_true, if_true, if_false, List.length_nil]
  unfold headF
  generalize isTxnB txn = g0 at *
  generalize isLSN prev = g1 at *
  cases g0 <;> cases g1 <;> simp [isLSN, fitsB]
set_option maxRecDepth 100000 in
set_option maxHeartbeats 4000000 in
theorem eqK_5 (txn prev page slot undoNext nextTxn : Int) (before_used after_used : Bool) (before_data_b after_data_b image_b txns_b dirty_b : List Int) (txns_n dirty_n : Nat) (e1 : txns_b.length / 4 = txns_n) (e2 : dirty_b.length / 2 = dirty_n) :
    ((if (!(decide (0 = slot) && (emptyB after_used after_data_b.length) && decide (0 = page) && (emptyB before_used before_data_b.length) && decide (0 = undoNext) && decide (0 = nextTxn) && decide (txns_n = 0) && decide (dirty_n = 0) && decide (image_b.length = 0))) = true then 2 else (if (inB txn 1 2147483647) = false then 3 else (if (inB prev 0 1099511627776) = false then 4 else (if (fitsB before_used before_data_b.length) = false then 6 else (if (fitsB after_used after_data_b.length) = false then 6 else (0)))))) : Int) = if alone5 txn prev page slot before_used before_data_b after_used after_data_b undoNext nextTxn txns_b dirty_b image_b = true then headF txn prev else 2 := by
  unfold alone5
  rw [e1, e2]
  simp only [empty_eq, len_eq, inB_page, isSlotB_in, inB_txn, inB_lsn]
  by_cases qpage : 0 = page
  case neg => simp only [decide_eq_false qpage, Bool.false_and, Bool.and_false, Bool.not_false, if_true, Bool.false_eq_true, if_false]
  subst qpage
  by_cases qslot : 0 = slot
  case neg => simp only [decide_eq_false qslot, Bool.false_and, Bool.and_false, Bool.not_false, if_true, Bool.false_eq_true, if_false]
  subst qslot
  cases before_used with
  | true => simp only [show (false == true) = false from rfl, Bool.false_and, Bool.and_false, Bool.not_false, if_true, Bool.false_eq_true, if_false]
  | false =>
  by_cases qbefore : [] = before_data_b
  case neg => simp only [decide_eq_false qbefore, Bool.false_and, Bool.and_false, Bool.not_false, if_true, Bool.false_eq_true, if_false]
  subst qbefore
  cases after_used with
  | true => simp only [show (false == true) = false from rfl, Bool.false_and, Bool.and_false, Bool.not_false, if_true, Bool.false_eq_true, if_false]
  | false =>
  by_cases qafter : [] = after_data_b
  case neg => simp only [decide_eq_false qafter, Bool.false_and, Bool.and_false, Bool.not_false, if_true, Bool.false_eq_true, if_false]
  subst qafter
  by_cases qundoNext : 0 = undoNext
  case neg => simp only [decide_eq_false qundoNext, Bool.false_and, Bool.and_false, Bool.not_false, if_true, Bool.false_eq_true, if_false]
  subst qundoNext
  by_cases qnextTxn : 0 = nextTxn
  case neg => simp only [decide_eq_false qnextTxn, Bool.false_and, Bool.and_false, Bool.not_false, if_true, Bool.false_eq_true, if_false]
  subst qnextTxn
  by_cases qtxns : txns_n = 0
  case neg => simp only [decide_eq_false qtxns, Bool.false_and, Bool.and_false, Bool.not_false, if_true, Bool.false_eq_true, if_false]
  simp only [decide_eq_true qtxns]
  by_cases qdirty : dirty_n = 0
  case neg => simp only [decide_eq_false qdirty, Bool.false_and, Bool.and_false, Bool.not_false, if_true, Bool.false_eq_true, if_false]
  simp only [decide_eq_true qdirty]
  by_cases qimage : [] = image_b
  case neg => simp only [decide_eq_false qimage, Bool.false_and, Bool.and_false, Bool.not_false, if_true, Bool.false_eq_true, if_false]
  subst qimage
  simp only [decide_true, beq_self_eq_true, Bool.and_self, Bool.and_true, Bool.true_and, Bool.not_true, Bool.false_eq_true, if_true, if_false, List.length_nil]
  unfold headF
  generalize isTxnB txn = g0 at *
  generalize isLSN prev = g1 at *
  cases g0 <;> cases g1 <;> simp [isLSN, fitsB]
set_option maxRecDepth 100000 in
set_option maxHeartbeats 4000000 in
theorem eqK_6 (txn prev page slot undoNext nextTxn : Int) (before_used after_used : Bool) (before_data_b after_data_b image_b txns_b dirty_b : List Int) (txns_n dirty_n : Nat) (e1 : txns_b.length / 4 = txns_n) (e2 : dirty_b.length / 2 = dirty_n) :
    ((if (!(decide (0 = txn) && decide (0 = prev) && decide (0 = slot) && (emptyB after_used after_data_b.length) && decide (0 = page) && (emptyB before_used before_data_b.length) && decide (0 = undoNext) && decide (0 = nextTxn) && decide (txns_n = 0) && decide (dirty_n = 0) && decide (image_b.length = 0))) = true then 2 else (if (inB prev 0 1099511627776) = false then 4 else (if (fitsB before_used before_data_b.length) = false then 6 else (if (fitsB after_used after_data_b.length) = false then 6 else (0))))) : Int) = if alone6 txn prev page slot before_used before_data_b after_used after_data_b undoNext nextTxn txns_b dirty_b image_b = true then 0 else 2 := by
  unfold alone6
  rw [e1, e2]
  simp only [empty_eq, len_eq, inB_page, isSlotB_in, inB_txn, inB_lsn]
  by_cases qtxn : 0 = txn
  case neg => simp only [decide_eq_false qtxn, Bool.false_and, Bool.and_false, Bool.not_false, if_true, Bool.false_eq_true, if_false]
  subst qtxn
  by_cases qprev : 0 = prev
  case neg => simp only [decide_eq_false qprev, Bool.false_and, Bool.and_false, Bool.not_false, if_true, Bool.false_eq_true, if_false]
  subst qprev
  by_cases qpage : 0 = page
  case neg => simp only [decide_eq_false qpage, Bool.false_and, Bool.and_false, Bool.not_false, if_true, Bool.false_eq_true, if_false]
  subst qpage
  by_cases qslot : 0 = slot
  case neg => simp only [decide_eq_false qslot, Bool.false_and, Bool.and_false, Bool.not_false, if_true, Bool.false_eq_true, if_false]
  subst qslot
  cases before_used with
  | true => simp only [show (false == true) = false from rfl, Bool.false_and, Bool.and_false, Bool.not_false, if_true, Bool.false_eq_true, if_false]
  | false =>
  by_cases qbefore : [] = before_data_b
  case neg => simp only [decide_eq_false qbefore, Bool.false_and, Bool.and_false, Bool.not_false, if_true, Bool.false_eq_true, if_false]
  subst qbefore
  cases after_used with
  | true => simp only [show (false == true) = false from rfl, Bool.false_and, Bool.and_false, Bool.not_false, if_true, Bool.false_eq_true, if_false]
  | false =>
  by_cases qafter : [] = after_data_b
  case neg => simp only [decide_eq_false qafter, Bool.false_and, Bool.and_false, Bool.not_false, if_true, Bool.false_eq_true, if_false]
  subst qafter
  by_cases qundoNext : 0 = undoNext
  case neg => simp only [decide_eq_false qundoNext, Bool.false_and, Bool.and_false, Bool.not_false, if_true, Bool.false_eq_true, if_false]
  subst qundoNext
  by_cases qnextTxn : 0 = nextTxn
  case neg => simp only [decide_eq_false qnextTxn, Bool.false_and, Bool.and_false, Bool.not_false, if_true, Bool.false_eq_true, if_false]
  subst qnextTxn
  by_cases qtxns : txns_n = 0
  case neg => simp only [decide_eq_false qtxns, Bool.false_and, Bool.and_false, Bool.not_false, if_true, Bool.false_eq_true, if_false]
  simp only [decide_eq_true qtxns]
  by_cases qdirty : dirty_n = 0
  case neg => simp only [decide_eq_false qdirty, Bool.false_and, Bool.and_false, Bool.not_false, if_true, Bool.false_eq_true, if_false]
  simp only [decide_eq_true qdirty]
  by_cases qimage : [] = image_b
  case neg => simp only [decide_eq_false qimage, Bool.false_and, Bool.and_false, Bool.not_false, if_true, Bool.false_eq_true, if_false]
  subst qimage
  simp only [decide_true, beq_self_eq_true, Bool.and_self, Bool.and_true, Bool.true_and, Bool.not_true, Bool.false_eq_true, if_true, if_false, List.length_nil]
  skip
  simp [isLSN, fitsB]
set_option maxRecDepth 100000 in
set_option maxHeartbeats 4000000 in
theorem eqK_7 (txn prev page slot undoNext nextTxn : Int) (before_used after_used : Bool) (before_data_b after_data_b image_b txns_b dirty_b : List Int) (txns_n dirty_n : Nat) (e1 : txns_b.length / 4 = txns_n) (e2 : dirty_b.length / 2 = dirty_n) :
    ((if (!(decide (0 = txn) && decide (0 = prev) && decide (0 = slot) && (emptyB after_used after_data_b.length) && decide (0 = page) && (emptyB before_used before_data_b.length) && decide (0 = undoNext) && decide (image_b.length = 0))) = true then 2 else (if (inB prev 0 1099511627776) = false then 4 else (if (fitsB before_used before_data_b.length) = false then 6 else (if (fitsB after_used after_data_b.length) = false then 6 else (if ((inB nextTxn 1 2147483648 && allTxns txns_b txns_n && allDirty dirty_b dirty_n)) = false then 8 else (0)))))) : Int) = if alone7 txn prev page slot before_used before_data_b after_used after_data_b undoNext nextTxn txns_b dirty_b image_b = true then tabF nextTxn txns_b (txns_b.length / 4) dirty_b (dirty_b.length / 2) else 2 := by
  unfold alone7
  rw [e1, e2]
  simp only [empty_eq, len_eq, inB_page, isSlotB_in, inB_txn, inB_lsn]
  by_cases qtxn : 0 = txn
  case neg => simp only [decide_eq_false qtxn, Bool.false_and, Bool.and_false, Bool.not_false, if_true, Bool.false_eq_true, if_false]
  subst qtxn
  by_cases qprev : 0 = prev
  case neg => simp only [decide_eq_false qprev, Bool.false_and, Bool.and_false, Bool.not_false, if_true, Bool.false_eq_true, if_false]
  subst qprev
  by_cases qpage : 0 = page
  case neg => simp only [decide_eq_false qpage, Bool.false_and, Bool.and_false, Bool.not_false, if_true, Bool.false_eq_true, if_false]
  subst qpage
  by_cases qslot : 0 = slot
  case neg => simp only [decide_eq_false qslot, Bool.false_and, Bool.and_false, Bool.not_false, if_true, Bool.false_eq_true, if_false]
  subst qslot
  cases before_used with
  | true => simp only [show (false == true) = false from rfl, Bool.false_and, Bool.and_false, Bool.not_false, if_true, Bool.false_eq_true, if_false]
  | false =>
  by_cases qbefore : [] = before_data_b
  case neg => simp only [decide_eq_false qbefore, Bool.false_and, Bool.and_false, Bool.not_false, if_true, Bool.false_eq_true, if_false]
  subst qbefore
  cases after_used with
  | true => simp only [show (false == true) = false from rfl, Bool.false_and, Bool.and_false, Bool.not_false, if_true, Bool.false_eq_true, if_false]
  | false =>
  by_cases qafter : [] = after_data_b
  case neg => simp only [decide_eq_false qafter, Bool.false_and, Bool.and_false, Bool.not_false, if_true, Bool.false_eq_true, if_false]
  subst qafter
  by_cases qundoNext : 0 = undoNext
  case neg => simp only [decide_eq_false qundoNext, Bool.false_and, Bool.and_false, Bool.not_false, if_true, Bool.false_eq_true, if_false]
  subst qundoNext
  by_cases qimage : [] = image_b
  case neg => simp only [decide_eq_false qimage, Bool.false_and, Bool.and_false, Bool.not_false, if_true, Bool.false_eq_true, if_false]
  subst qimage
  simp only [decide_true, beq_self_eq_true, Bool.and_self, Bool.and_true, Bool.true_and, Bool.not_true, Bool.false_eq_true, if_true, if_false, List.length_nil]
  unfold tabF inB
  generalize decide (1 ≤ nextTxn) = g0 at *
  generalize decide (nextTxn ≤ 2147483648) = g1 at *
  generalize allTxns txns_b txns_n = g2 at *
  generalize allDirty dirty_b dirty_n = g3 at *
  cases g0 <;> cases g1 <;> cases g2 <;> cases g3 <;> simp [isLSN, fitsB]
set_option maxRecDepth 100000 in
set_option maxHeartbeats 4000000 in
theorem eqK_8 (txn prev page slot undoNext nextTxn : Int) (before_used after_used : Bool) (before_data_b after_data_b image_b txns_b dirty_b : List Int) (txns_n dirty_n : Nat) (e1 : txns_b.length / 4 = txns_n) (e2 : dirty_b.length / 2 = dirty_n) :
    ((if (!(decide (0 = txn) && decide (0 = prev) && decide (0 = slot) && (emptyB after_used after_data_b.length) && (emptyB before_used before_data_b.length) && decide (0 = undoNext) && decide (0 = nextTxn) && decide (txns_n = 0) && decide (dirty_n = 0))) = true then 2 else (if (inB prev 0 1099511627776) = false then 4 else (if (inB page 0 15) = false then 5 else (if (fitsB before_used before_data_b.length) = false then 6 else (if (fitsB after_used after_data_b.length) = false then 6 else (if pageFault image_b page ≠ 0 then 9 else (0))))))) : Int) = if alone8 txn prev page slot before_used before_data_b after_used after_data_b undoNext nextTxn txns_b dirty_b image_b = true then imgF page image_b else 2 := by
  unfold alone8
  rw [e1, e2]
  simp only [empty_eq, len_eq, inB_page, isSlotB_in, inB_txn, inB_lsn]
  by_cases qtxn : 0 = txn
  case neg => simp only [decide_eq_false qtxn, Bool.false_and, Bool.and_false, Bool.not_false, if_true, Bool.false_eq_true, if_false]
  subst qtxn
  by_cases qprev : 0 = prev
  case neg => simp only [decide_eq_false qprev, Bool.false_and, Bool.and_false, Bool.not_false, if_true, Bool.false_eq_true, if_false]
  subst qprev
  by_cases qslot : 0 = slot
  case neg => simp only [decide_eq_false qslot, Bool.false_and, Bool.and_false, Bool.not_false, if_true, Bool.false_eq_true, if_false]
  subst qslot
  cases before_used with
  | true => simp only [show (false == true) = false from rfl, Bool.false_and, Bool.and_false, Bool.not_false, if_true, Bool.false_eq_true, if_false]
  | false =>
  by_cases qbefore : [] = before_data_b
  case neg => simp only [decide_eq_false qbefore, Bool.false_and, Bool.and_false, Bool.not_false, if_true, Bool.false_eq_true, if_false]
  subst qbefore
  cases after_used with
  | true => simp only [show (false == true) = false from rfl, Bool.false_and, Bool.and_false, Bool.not_false, if_true, Bool.false_eq_true, if_false]
  | false =>
  by_cases qafter : [] = after_data_b
  case neg => simp only [decide_eq_false qafter, Bool.false_and, Bool.and_false, Bool.not_false, if_true, Bool.false_eq_true, if_false]
  subst qafter
  by_cases qundoNext : 0 = undoNext
  case neg => simp only [decide_eq_false qundoNext, Bool.false_and, Bool.and_false, Bool.not_false, if_true, Bool.false_eq_true, if_false]
  subst qundoNext
  by_cases qnextTxn : 0 = nextTxn
  case neg => simp only [decide_eq_false qnextTxn, Bool.false_and, Bool.and_false, Bool.not_false, if_true, Bool.false_eq_true, if_false]
  subst qnextTxn
  by_cases qtxns : txns_n = 0
  case neg => simp only [decide_eq_false qtxns, Bool.false_and, Bool.and_false, Bool.not_false, if_true, Bool.false_eq_true, if_false]
  simp only [decide_eq_true qtxns]
  by_cases qdirty : dirty_n = 0
  case neg => simp only [decide_eq_false qdirty, Bool.false_and, Bool.and_false, Bool.not_false, if_true, Bool.false_eq_true, if_false]
  simp only [decide_eq_true qdirty]
  simp only [decide_true, beq_self_eq_true, Bool.and_self, Bool.and_true, Bool.true_and, Bool.not_true, Bool.false_eq_true, if_true, if_false, List.length_nil]
  unfold imgF
  generalize isPageB page = g0 at *
  generalize pageFault image_b page = PF
  cases g0 <;> by_cases hp : PF = 0 <;> simp [hp, isLSN, fitsB]
end Go.Proofs.Ytclmdpmelifplab
