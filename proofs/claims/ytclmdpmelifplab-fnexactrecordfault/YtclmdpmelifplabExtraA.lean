/-
  l4Extra: kinds 1, 2, 3.
-/
import Derived.Test.YtclmdpmelifplabTyLogRecord
namespace Go.Proofs.Ytclmdpmelifplab
open Go.RowKit
set_option linter.unusedVariables false
set_option linter.unusedSimpArgs false
set_option maxRecDepth 100000 in
set_option maxHeartbeats 16000000 in
theorem extra_1 (txn : Int) (prev : Int) (page : Int) (slot : Int) (beforeu : Bool) (beforea : Option Addr) (beforen beforec : Nat) (afteru : Bool) (aftera : Option Addr) (aftern afterc : Nat) (undoNext : Int) (nextTxn : Int) (txnsa : Option Addr) (txnsn txnsc : Nat) (dirtya : Option Addr) (dirtyn dirtyc : Nat) (imagea : Option Addr) (imagen imagec : Nat) (w : World)  (hmtxns : txnsn ≤ maxLen) (hmdirty : dirtyn ≤ maxLen) (hmimage : imagen ≤ maxLen) :
    Calls Try.prog 32 #[.agg #[.int .i64 1, .int .i64 txn, .int .i64 prev, .int .i64 page, .int .i64 slot, .bool beforeu, .slice beforea beforen beforec, .bool afteru, .slice aftera aftern afterc, .int .i64 undoNext, .int .i64 nextTxn, .slice txnsa txnsn txnsc, .slice dirtya dirtyn dirtyc, .slice imagea imagen imagec]] w fun e w' => e = .returned (.bool (!(decide (0 = undoNext) && decide (0 = nextTxn) && decide (txnsn = 0) && decide (dirtyn = 0) && decide (imagen = 0)))) ∧ Same w w' := by
  unfold maxLen at hmtxns hmdirty hmimage
  by_cases qundoNext : 0 = undoNext
  case neg =>
    rw [decide_eq_false qundoNext]
    simp only [Bool.false_and, Bool.and_false, Bool.not_false]
    have rundoNext : ¬ undoNext = 0 := fun e => qundoNext e.symm
    have HK0 := (show Hid (Same w (w.alloc (.cells #[.int .i64 1, .int .i64 txn, .int .i64 prev, .int .i64 page, .int .i64 slot, .bool beforeu, .slice beforea beforen beforec, .bool afteru, .slice aftera aftern afterc, .int .i64 undoNext, .int .i64 nextTxn, .slice txnsa txnsn txnsc, .slice dirtya dirtyn dirtyc, .slice imagea imagen imagec] 35))) from (Kept.refl _ _).alloc _)
    have HB0 := (show Hid (Blk (w.alloc (.cells #[.int .i64 1, .int .i64 txn, .int .i64 prev, .int .i64 page, .int .i64 slot, .bool beforeu, .slice beforea beforen beforec, .bool afteru, .slice aftera aftern afterc, .int .i64 undoNext, .int .i64 nextTxn, .slice txnsa txnsn txnsc, .slice dirtya dirtyn dirtyc, .slice imagea imagen imagec] 35)) w.heap.size 35 [.int .i64 1, .int .i64 txn, .int .i64 prev, .int .i64 page, .int .i64 slot, .bool beforeu, .slice beforea beforen beforec, .bool afteru, .slice aftera aftern afterc, .int .i64 undoNext, .int .i64 nextTxn, .slice txnsa txnsn txnsc, .slice dirtya dirtyn dirtyc, .slice imagea imagen imagec]) from Blk.new w #[.int .i64 1, .int .i64 txn, .int .i64 prev, .int .i64 page, .int .i64 slot, .bool beforeu, .slice beforea beforen beforec, .bool afteru, .slice aftera aftern afterc, .int .i64 undoNext, .int .i64 nextTxn, .slice txnsa txnsn txnsc, .slice dirtya dirtyn dirtyc, .slice imagea imagen imagec] 35)
    go_enter Try.func32, Try.ntmps32
    go_wp2
    go_ret
    exact ⟨rfl, HK0.out⟩
  subst qundoNext
  rw [decide_eq_true rfl]
  by_cases qnextTxn : 0 = nextTxn
  case neg =>
    rw [decide_eq_false qnextTxn]
    simp only [Bool.false_and, Bool.and_false, Bool.not_false]
    have rnextTxn : ¬ nextTxn = 0 := fun e => qnextTxn e.symm
    have HK0 := (show Hid (Same w (w.alloc (.cells #[.int .i64 1, .int .i64 txn, .int .i64 prev, .int .i64 page, .int .i64 slot, .bool beforeu, .slice beforea beforen beforec, .bool afteru, .slice aftera aftern afterc, .int .i64 0, .int .i64 nextTxn, .slice txnsa txnsn txnsc, .slice dirtya dirtyn dirtyc, .slice imagea imagen imagec] 35))) from (Kept.refl _ _).alloc _)
    have HB0 := (show Hid (Blk (w.alloc (.cells #[.int .i64 1, .int .i64 txn, .int .i64 prev, .int .i64 page, .int .i64 slot, .bool beforeu, .slice beforea beforen beforec, .bool afteru, .slice aftera aftern afterc, .int .i64 0, .int .i64 nextTxn, .slice txnsa txnsn txnsc, .slice dirtya dirtyn dirtyc, .slice imagea imagen imagec] 35)) w.heap.size 35 [.int .i64 1, .int .i64 txn, .int .i64 prev, .int .i64 page, .int .i64 slot, .bool beforeu, .slice beforea beforen beforec, .bool afteru, .slice aftera aftern afterc, .int .i64 0, .int .i64 nextTxn, .slice txnsa txnsn txnsc, .slice dirtya dirtyn dirtyc, .slice imagea imagen imagec]) from Blk.new w #[.int .i64 1, .int .i64 txn, .int .i64 prev, .int .i64 page, .int .i64 slot, .bool beforeu, .slice beforea beforen beforec, .bool afteru, .slice aftera aftern afterc, .int .i64 0, .int .i64 nextTxn, .slice txnsa txnsn txnsc, .slice dirtya dirtyn dirtyc, .slice imagea imagen imagec] 35)
    go_enter Try.func32, Try.ntmps32
    go_wp2
    go_ret
    exact ⟨rfl, HK0.out⟩
  subst qnextTxn
  rw [decide_eq_true rfl]
  by_cases qtxns : txnsn = 0
  case neg =>
    rw [decide_eq_false qtxns]
    simp only [Bool.false_and, Bool.and_false, Bool.not_false]
    have rtxns : (0 : Int) < txnsn := by omega
    have HK0 := (show Hid (Same w (w.alloc (.cells #[.int .i64 1, .int .i64 txn, .int .i64 prev, .int .i64 page, .int .i64 slot, .bool beforeu, .slice beforea beforen beforec, .bool afteru, .slice aftera aftern afterc, .int .i64 0, .int .i64 0, .slice txnsa txnsn txnsc, .slice dirtya dirtyn dirtyc, .slice imagea imagen imagec] 35))) from (Kept.refl _ _).alloc _)
    have HB0 := (show Hid (Blk (w.alloc (.cells #[.int .i64 1, .int .i64 txn, .int .i64 prev, .int .i64 page, .int .i64 slot, .bool beforeu, .slice beforea beforen beforec, .bool afteru, .slice aftera aftern afterc, .int .i64 0, .int .i64 0, .slice txnsa txnsn txnsc, .slice dirtya dirtyn dirtyc, .slice imagea imagen imagec] 35)) w.heap.size 35 [.int .i64 1, .int .i64 txn, .int .i64 prev, .int .i64 page, .int .i64 slot, .bool beforeu, .slice beforea beforen beforec, .bool afteru, .slice aftera aftern afterc, .int .i64 0, .int .i64 0, .slice txnsa txnsn txnsc, .slice dirtya dirtyn dirtyc, .slice imagea imagen imagec]) from Blk.new w #[.int .i64 1, .int .i64 txn, .int .i64 prev, .int .i64 page, .int .i64 slot, .bool beforeu, .slice beforea beforen beforec, .bool afteru, .slice aftera aftern afterc, .int .i64 0, .int .i64 0, .slice txnsa txnsn txnsc, .slice dirtya dirtyn dirtyc, .slice imagea imagen imagec] 35)
    go_enter Try.func32, Try.ntmps32
    go_wp2
    go_ret
    exact ⟨by first | rfl | (simp; omega), HK0.out⟩
  subst qtxns
  rw [decide_eq_true rfl]
  by_cases qdirty : dirtyn = 0
  case neg =>
    rw [decide_eq_false qdirty]
    simp only [Bool.false_and, Bool.and_false, Bool.not_false]
    have rdirty : (0 : Int) < dirtyn := by omega
    have HK0 := (show Hid (Same w (w.alloc (.cells #[.int .i64 1, .int .i64 txn, .int .i64 prev, .int .i64 page, .int .i64 slot, .bool beforeu, .slice beforea beforen beforec, .bool afteru, .slice aftera aftern afterc, .int .i64 0, .int .i64 0, .slice txnsa 0 txnsc, .slice dirtya dirtyn dirtyc, .slice imagea imagen imagec] 35))) from (Kept.refl _ _).alloc _)
    have HB0 := (show Hid (Blk (w.alloc (.cells #[.int .i64 1, .int .i64 txn, .int .i64 prev, .int .i64 page, .int .i64 slot, .bool beforeu, .slice beforea beforen beforec, .bool afteru, .slice aftera aftern afterc, .int .i64 0, .int .i64 0, .slice txnsa 0 txnsc, .slice dirtya dirtyn dirtyc, .slice imagea imagen imagec] 35)) w.heap.size 35 [.int .i64 1, .int .i64 txn, .int .i64 prev, .int .i64 page, .int .i64 slot, .bool beforeu, .slice beforea beforen beforec, .bool afteru, .slice aftera aftern afterc, .int .i64 0, .int .i64 0, .slice txnsa 0 txnsc, .slice dirtya dirtyn dirtyc, .slice imagea imagen imagec]) from Blk.new w #[.int .i64 1, .int .i64 txn, .int .i64 prev, .int .i64 page, .int .i64 slot, .bool beforeu, .slice beforea beforen beforec, .bool afteru, .slice aftera aftern afterc, .int .i64 0, .int .i64 0, .slice txnsa 0 txnsc, .slice dirtya dirtyn dirtyc, .slice imagea imagen imagec] 35)
    go_enter Try.func32, Try.ntmps32
    go_wp2
    go_ret
    exact ⟨by first | rfl | (simp; omega), HK0.out⟩
  subst qdirty
  rw [decide_eq_true rfl]
  by_cases qimage : imagen = 0
  case neg =>
    rw [decide_eq_false qimage]
    simp only [Bool.false_and, Bool.and_false, Bool.not_false]
    have rimage : (0 : Int) < imagen := by omega
    have HK0 := (show Hid (Same w (w.alloc (.cells #[.int .i64 1, .int .i64 txn, .int .i64 prev, .int .i64 page, .int .i64 slot, .bool beforeu, .slice beforea beforen beforec, .bool afteru, .slice aftera aftern afterc, .int .i64 0, .int .i64 0, .slice txnsa 0 txnsc, .slice dirtya 0 dirtyc, .slice imagea imagen imagec] 35))) from (Kept.refl _ _).alloc _)
    have HB0 := (show Hid (Blk (w.alloc (.cells #[.int .i64 1, .int .i64 txn, .int .i64 prev, .int .i64 page, .int .i64 slot, .bool beforeu, .slice beforea beforen beforec, .bool afteru, .slice aftera aftern afterc, .int .i64 0, .int .i64 0, .slice txnsa 0 txnsc, .slice dirtya 0 dirtyc, .slice imagea imagen imagec] 35)) w.heap.size 35 [.int .i64 1, .int .i64 txn, .int .i64 prev, .int .i64 page, .int .i64 slot, .bool beforeu, .slice beforea beforen beforec, .bool afteru, .slice aftera aftern afterc, .int .i64 0, .int .i64 0, .slice txnsa 0 txnsc, .slice dirtya 0 dirtyc, .slice imagea imagen imagec]) from Blk.new w #[.int .i64 1, .int .i64 txn, .int .i64 prev, .int .i64 page, .int .i64 slot, .bool beforeu, .slice beforea beforen beforec, .bool afteru, .slice aftera aftern afterc, .int .i64 0, .int .i64 0, .slice txnsa 0 txnsc, .slice dirtya 0 dirtyc, .slice imagea imagen imagec] 35)
    go_enter Try.func32, Try.ntmps32
    go_wp2
    go_ret
    exact ⟨by first | rfl | (simp; omega), HK0.out⟩
  subst qimage
  rw [decide_eq_true rfl]
  simp only [Bool.and_true, Bool.and_self, Bool.not_true]
  have HK0 := (show Hid (Same w (w.alloc (.cells #[.int .i64 1, .int .i64 txn, .int .i64 prev, .int .i64 page, .int .i64 slot, .bool beforeu, .slice beforea beforen beforec, .bool afteru, .slice aftera aftern afterc, .int .i64 0, .int .i64 0, .slice txnsa 0 txnsc, .slice dirtya 0 dirtyc, .slice imagea 0 imagec] 35))) from (Kept.refl _ _).alloc _)
  have HB0 := (show Hid (Blk (w.alloc (.cells #[.int .i64 1, .int .i64 txn, .int .i64 prev, .int .i64 page, .int .i64 slot, .bool beforeu, .slice beforea beforen beforec, .bool afteru, .slice aftera aftern afterc, .int .i64 0, .int .i64 0, .slice txnsa 0 txnsc, .slice dirtya 0 dirtyc, .slice imagea 0 imagec] 35)) w.heap.size 35 [.int .i64 1, .int .i64 txn, .int .i64 prev, .int .i64 page, .int .i64 slot, .bool beforeu, .slice beforea beforen beforec, .bool afteru, .slice aftera aftern afterc, .int .i64 0, .int .i64 0, .slice txnsa 0 txnsc, .slice dirtya 0 dirtyc, .slice imagea 0 imagec]) from Blk.new w #[.int .i64 1, .int .i64 txn, .int .i64 prev, .int .i64 page, .int .i64 slot, .bool beforeu, .slice beforea beforen beforec, .bool afteru, .slice aftera aftern afterc, .int .i64 0, .int .i64 0, .slice txnsa 0 txnsc, .slice dirtya 0 dirtyc, .slice imagea 0 imagec] 35)
  go_enter Try.func32, Try.ntmps32
  go_wp2
  go_ret
  exact ⟨rfl, HK0.out⟩
set_option maxRecDepth 100000 in
set_option maxHeartbeats 16000000 in
theorem extra_2 (txn : Int) (prev : Int) (page : Int) (slot : Int) (beforeu : Bool) (beforea : Option Addr) (beforen beforec : Nat) (afteru : Bool) (aftera : Option Addr) (aftern afterc : Nat) (undoNext : Int) (nextTxn : Int) (txnsa : Option Addr) (txnsn txnsc : Nat) (dirtya : Option Addr) (dirtyn dirtyc : Nat) (imagea : Option Addr) (imagen imagec : Nat) (w : World) (ebefore : Bool) (hbefore : ∀ wx, Same w wx → Calls Try.prog 52 #[.agg #[.bool beforeu, .slice beforea beforen beforec]] wx fun e w' => e = .returned (.bool ebefore) ∧ Same wx w') (hmtxns : txnsn ≤ maxLen) (hmdirty : dirtyn ≤ maxLen) (hmimage : imagen ≤ maxLen) :
    Calls Try.prog 32 #[.agg #[.int .i64 2, .int .i64 txn, .int .i64 prev, .int .i64 page, .int .i64 slot, .bool beforeu, .slice beforea beforen beforec, .bool afteru, .slice aftera aftern afterc, .int .i64 undoNext, .int .i64 nextTxn, .slice txnsa txnsn txnsc, .slice dirtya dirtyn dirtyc, .slice imagea imagen imagec]] w fun e w' => e = .returned (.bool (!(ebefore && decide (0 = nextTxn) && decide (txnsn = 0) && decide (dirtyn = 0) && decide (imagen = 0)))) ∧ Same w w' := by
  unfold maxLen at hmtxns hmdirty hmimage
  cases ebefore with
  | false =>
    simp only [Bool.false_and, Bool.and_false, Bool.not_false]
    have HK0 := (show Hid (Same w (w.alloc (.cells #[.int .i64 2, .int .i64 txn, .int .i64 prev, .int .i64 page, .int .i64 slot, .bool beforeu, .slice beforea beforen beforec, .bool afteru, .slice aftera aftern afterc, .int .i64 undoNext, .int .i64 nextTxn, .slice txnsa txnsn txnsc, .slice dirtya dirtyn dirtyc, .slice imagea imagen imagec] 35))) from (Kept.refl _ _).alloc _)
    have HB0 := (show Hid (Blk (w.alloc (.cells #[.int .i64 2, .int .i64 txn, .int .i64 prev, .int .i64 page, .int .i64 slot, .bool beforeu, .slice beforea beforen beforec, .bool afteru, .slice aftera aftern afterc, .int .i64 undoNext, .int .i64 nextTxn, .slice txnsa txnsn txnsc, .slice dirtya dirtyn dirtyc, .slice imagea imagen imagec] 35)) w.heap.size 35 [.int .i64 2, .int .i64 txn, .int .i64 prev, .int .i64 page, .int .i64 slot, .bool beforeu, .slice beforea beforen beforec, .bool afteru, .slice aftera aftern afterc, .int .i64 undoNext, .int .i64 nextTxn, .slice txnsa txnsn txnsc, .slice dirtya dirtyn dirtyc, .slice imagea imagen imagec]) from Blk.new w #[.int .i64 2, .int .i64 txn, .int .i64 prev, .int .i64 page, .int .i64 slot, .bool beforeu, .slice beforea beforen beforec, .bool afteru, .slice aftera aftern afterc, .int .i64 undoNext, .int .i64 nextTxn, .slice txnsa txnsn txnsc, .slice dirtya dirtyn dirtyc, .slice imagea imagen imagec] 35)
    go_enter Try.func32, Try.ntmps32
    go_wp2_with fail
    refine (hbefore _ HK0.out).mono ?_
    rintro e w1 ⟨rfl, hk⟩
    have HK1 := (show Hid (Same w w1) from HK0.out.trans hk)
    have HB1 := (show Hid (Blk w1 w.heap.size 35 [.int .i64 2, .int .i64 txn, .int .i64 prev, .int .i64 page, .int .i64 slot, .bool beforeu, .slice beforea beforen beforec, .bool afteru, .slice aftera aftern afterc, .int .i64 undoNext, .int .i64 nextTxn, .slice txnsa txnsn txnsc, .slice dirtya dirtyn dirtyc, .slice imagea imagen imagec]) from HB0.out.same hk)
    clear hk
    have d1_0 : w1.cell? ⟨w.heap.size, 0, none⟩ = some (.int .i64 2) := HB1.out.cell 0
    have d1_1 : w1.cell? ⟨w.heap.size, 1, none⟩ = some (.int .i64 txn) := HB1.out.cell 1
    have d1_2 : w1.cell? ⟨w.heap.size, 2, none⟩ = some (.int .i64 prev) := HB1.out.cell 2
    have d1_3 : w1.cell? ⟨w.heap.size, 3, none⟩ = some (.int .i64 page) := HB1.out.cell 3
    have d1_4 : w1.cell? ⟨w.heap.size, 4, none⟩ = some (.int .i64 slot) := HB1.out.cell 4
    have d1_5 : w1.cell? ⟨w.heap.size, 5, none⟩ = some (.bool beforeu) := HB1.out.cell 5
    have d1_6 : w1.cell? ⟨w.heap.size, 6, none⟩ = some (.slice beforea beforen beforec) := HB1.out.cell 6
    have d1_7 : w1.cell? ⟨w.heap.size, 7, none⟩ = some (.bool afteru) := HB1.out.cell 7
    have d1_8 : w1.cell? ⟨w.heap.size, 8, none⟩ = some (.slice aftera aftern afterc) := HB1.out.cell 8
    have d1_9 : w1.cell? ⟨w.heap.size, 9, none⟩ = some (.int .i64 undoNext) := HB1.out.cell 9
    have d1_10 : w1.cell? ⟨w.heap.size, 10, none⟩ = some (.int .i64 nextTxn) := HB1.out.cell 10
    have d1_11 : w1.cell? ⟨w.heap.size, 11, none⟩ = some (.slice txnsa txnsn txnsc) := HB1.out.cell 11
    have d1_12 : w1.cell? ⟨w.heap.size, 12, none⟩ = some (.slice dirtya dirtyn dirtyc) := HB1.out.cell 12
    have d1_13 : w1.cell? ⟨w.heap.size, 13, none⟩ = some (.slice imagea imagen imagec) := HB1.out.cell 13
    go_wp2
    go_ret
    exact ⟨rfl, HK1.out⟩
  | true =>
    by_cases qnextTxn : 0 = nextTxn
    case neg =>
      rw [decide_eq_false qnextTxn]
      simp only [Bool.false_and, Bool.and_false, Bool.not_false]
      have rnextTxn : ¬ nextTxn = 0 := fun e => qnextTxn e.symm
      have HK0 := (show Hid (Same w (w.alloc (.cells #[.int .i64 2, .int .i64 txn, .int .i64 prev, .int .i64 page, .int .i64 slot, .bool beforeu, .slice beforea beforen beforec, .bool afteru, .slice aftera aftern afterc, .int .i64 undoNext, .int .i64 nextTxn, .slice txnsa txnsn txnsc, .slice dirtya dirtyn dirtyc, .slice imagea imagen imagec] 35))) from (Kept.refl _ _).alloc _)
      have HB0 := (show Hid (Blk (w.alloc (.cells #[.int .i64 2, .int .i64 txn, .int .i64 prev, .int .i64 page, .int .i64 slot, .bool beforeu, .slice beforea beforen beforec, .bool afteru, .slice aftera aftern afterc, .int .i64 undoNext, .int .i64 nextTxn, .slice txnsa txnsn txnsc, .slice dirtya dirtyn dirtyc, .slice imagea imagen imagec] 35)) w.heap.size 35 [.int .i64 2, .int .i64 txn, .int .i64 prev, .int .i64 page, .int .i64 slot, .bool beforeu, .slice beforea beforen beforec, .bool afteru, .slice aftera aftern afterc, .int .i64 undoNext, .int .i64 nextTxn, .slice txnsa txnsn txnsc, .slice dirtya dirtyn dirtyc, .slice imagea imagen imagec]) from Blk.new w #[.int .i64 2, .int .i64 txn, .int .i64 prev, .int .i64 page, .int .i64 slot, .bool beforeu, .slice beforea beforen beforec, .bool afteru, .slice aftera aftern afterc, .int .i64 undoNext, .int .i64 nextTxn, .slice txnsa txnsn txnsc, .slice dirtya dirtyn dirtyc, .slice imagea imagen imagec] 35)
      go_enter Try.func32, Try.ntmps32
      go_wp2_with fail
      refine (hbefore _ HK0.out).mono ?_
      rintro e w1 ⟨rfl, hk⟩
      have HK1 := (show Hid (Same w w1) from HK0.out.trans hk)
      have HB1 := (show Hid (Blk w1 w.heap.size 35 [.int .i64 2, .int .i64 txn, .int .i64 prev, .int .i64 page, .int .i64 slot, .bool beforeu, .slice beforea beforen beforec, .bool afteru, .slice aftera aftern afterc, .int .i64 undoNext, .int .i64 nextTxn, .slice txnsa txnsn txnsc, .slice dirtya dirtyn dirtyc, .slice imagea imagen imagec]) from HB0.out.same hk)
      clear hk
      have d1_0 : w1.cell? ⟨w.heap.size, 0, none⟩ = some (.int .i64 2) := HB1.out.cell 0
      have d1_1 : w1.cell? ⟨w.heap.size, 1, none⟩ = some (.int .i64 txn) := HB1.out.cell 1
      have d1_2 : w1.cell? ⟨w.heap.size, 2, none⟩ = some (.int .i64 prev) := HB1.out.cell 2
      have d1_3 : w1.cell? ⟨w.heap.size, 3, none⟩ = some (.int .i64 page) := HB1.out.cell 3
      have d1_4 : w1.cell? ⟨w.heap.size, 4, none⟩ = some (.int .i64 slot) := HB1.out.cell 4
      have d1_5 : w1.cell? ⟨w.heap.size, 5, none⟩ = some (.bool beforeu) := HB1.out.cell 5
      have d1_6 : w1.cell? ⟨w.heap.size, 6, none⟩ = some (.slice beforea beforen beforec) := HB1.out.cell 6
      have d1_7 : w1.cell? ⟨w.heap.size, 7, none⟩ = some (.bool afteru) := HB1.out.cell 7
      have d1_8 : w1.cell? ⟨w.heap.size, 8, none⟩ = some (.slice aftera aftern afterc) := HB1.out.cell 8
      have d1_9 : w1.cell? ⟨w.heap.size, 9, none⟩ = some (.int .i64 undoNext) := HB1.out.cell 9
      have d1_10 : w1.cell? ⟨w.heap.size, 10, none⟩ = some (.int .i64 nextTxn) := HB1.out.cell 10
      have d1_11 : w1.cell? ⟨w.heap.size, 11, none⟩ = some (.slice txnsa txnsn txnsc) := HB1.out.cell 11
      have d1_12 : w1.cell? ⟨w.heap.size, 12, none⟩ = some (.slice dirtya dirtyn dirtyc) := HB1.out.cell 12
      have d1_13 : w1.cell? ⟨w.heap.size, 13, none⟩ = some (.slice imagea imagen imagec) := HB1.out.cell 13
      go_wp2
      go_ret
      exact ⟨rfl, HK1.out⟩
    subst qnextTxn
    rw [decide_eq_true rfl]
    by_cases qtxns : txnsn = 0
    case neg =>
      rw [decide_eq_false qtxns]
      simp only [Bool.false_and, Bool.and_false, Bool.not_false]
      have rtxns : (0 : Int) < txnsn := by omega
      have HK0 := (show Hid (Same w (w.alloc (.cells #[.int .i64 2, .int .i64 txn, .int .i64 prev, .int .i64 page, .int .i64 slot, .bool beforeu, .slice beforea beforen beforec, .bool afteru, .slice aftera aftern afterc, .int .i64 undoNext, .int .i64 0, .slice txnsa txnsn txnsc, .slice dirtya dirtyn dirtyc, .slice imagea imagen imagec] 35))) from (Kept.refl _ _).alloc _)
      have HB0 := (show Hid (Blk (w.alloc (.cells #[.int .i64 2, .int .i64 txn, .int .i64 prev, .int .i64 page, .int .i64 slot, .bool beforeu, .slice beforea beforen beforec, .bool afteru, .slice aftera aftern afterc, .int .i64 undoNext, .int .i64 0, .slice txnsa txnsn txnsc, .slice dirtya dirtyn dirtyc, .slice imagea imagen imagec] 35)) w.heap.size 35 [.int .i64 2, .int .i64 txn, .int .i64 prev, .int .i64 page, .int .i64 slot, .bool beforeu, .slice beforea beforen beforec, .bool afteru, .slice aftera aftern afterc, .int .i64 undoNext, .int .i64 0, .slice txnsa txnsn txnsc, .slice dirtya dirtyn dirtyc, .slice imagea imagen imagec]) from Blk.new w #[.int .i64 2, .int .i64 txn, .int .i64 prev, .int .i64 page, .int .i64 slot, .bool beforeu, .slice beforea beforen beforec, .bool afteru, .slice aftera aftern afterc, .int .i64 undoNext, .int .i64 0, .slice txnsa txnsn txnsc, .slice dirtya dirtyn dirtyc, .slice imagea imagen imagec] 35)
      go_enter Try.func32, Try.ntmps32
      go_wp2_with fail
      refine (hbefore _ HK0.out).mono ?_
      rintro e w1 ⟨rfl, hk⟩
      have HK1 := (show Hid (Same w w1) from HK0.out.trans hk)
      have HB1 := (show Hid (Blk w1 w.heap.size 35 [.int .i64 2, .int .i64 txn, .int .i64 prev, .int .i64 page, .int .i64 slot, .bool beforeu, .slice beforea beforen beforec, .bool afteru, .slice aftera aftern afterc, .int .i64 undoNext, .int .i64 0, .slice txnsa txnsn txnsc, .slice dirtya dirtyn dirtyc, .slice imagea imagen imagec]) from HB0.out.same hk)
      clear hk
      have d1_0 : w1.cell? ⟨w.heap.size, 0, none⟩ = some (.int .i64 2) := HB1.out.cell 0
      have d1_1 : w1.cell? ⟨w.heap.size, 1, none⟩ = some (.int .i64 txn) := HB1.out.cell 1
      have d1_2 : w1.cell? ⟨w.heap.size, 2, none⟩ = some (.int .i64 prev) := HB1.out.cell 2
      have d1_3 : w1.cell? ⟨w.heap.size, 3, none⟩ = some (.int .i64 page) := HB1.out.cell 3
      have d1_4 : w1.cell? ⟨w.heap.size, 4, none⟩ = some (.int .i64 slot) := HB1.out.cell 4
      have d1_5 : w1.cell? ⟨w.heap.size, 5, none⟩ = some (.bool beforeu) := HB1.out.cell 5
      have d1_6 : w1.cell? ⟨w.heap.size, 6, none⟩ = some (.slice beforea beforen beforec) := HB1.out.cell 6
      have d1_7 : w1.cell? ⟨w.heap.size, 7, none⟩ = some (.bool afteru) := HB1.out.cell 7
      have d1_8 : w1.cell? ⟨w.heap.size, 8, none⟩ = some (.slice aftera aftern afterc) := HB1.out.cell 8
      have d1_9 : w1.cell? ⟨w.heap.size, 9, none⟩ = some (.int .i64 undoNext) := HB1.out.cell 9
      have d1_10 : w1.cell? ⟨w.heap.size, 10, none⟩ = some (.int .i64 0) := HB1.out.cell 10
      have d1_11 : w1.cell? ⟨w.heap.size, 11, none⟩ = some (.slice txnsa txnsn txnsc) := HB1.out.cell 11
      have d1_12 : w1.cell? ⟨w.heap.size, 12, none⟩ = some (.slice dirtya dirtyn dirtyc) := HB1.out.cell 12
      have d1_13 : w1.cell? ⟨w.heap.size, 13, none⟩ = some (.slice imagea imagen imagec) := HB1.out.cell 13
      go_wp2
      go_ret
      exact ⟨by first | rfl | (simp; omega), HK1.out⟩
    subst qtxns
    rw [decide_eq_true rfl]
    by_cases qdirty : dirtyn = 0
    case neg =>
      rw [decide_eq_false qdirty]
      simp only [Bool.false_and, Bool.and_false, Bool.not_false]
      have rdirty : (0 : Int) < dirtyn := by omega
      have HK0 := (show Hid (Same w (w.alloc (.cells #[.int .i64 2, .int .i64 txn, .int .i64 prev, .int .i64 page, .int .i64 slot, .bool beforeu, .slice beforea beforen beforec, .bool afteru, .slice aftera aftern afterc, .int .i64 undoNext, .int .i64 0, .slice txnsa 0 txnsc, .slice dirtya dirtyn dirtyc, .slice imagea imagen imagec] 35))) from (Kept.refl _ _).alloc _)
      have HB0 := (show Hid (Blk (w.alloc (.cells #[.int .i64 2, .int .i64 txn, .int .i64 prev, .int .i64 page, .int .i64 slot, .bool beforeu, .slice beforea beforen beforec, .bool afteru, .slice aftera aftern afterc, .int .i64 undoNext, .int .i64 0, .slice txnsa 0 txnsc, .slice dirtya dirtyn dirtyc, .slice imagea imagen imagec] 35)) w.heap.size 35 [.int .i64 2, .int .i64 txn, .int .i64 prev, .int .i64 page, .int .i64 slot, .bool beforeu, .slice beforea beforen beforec, .bool afteru, .slice aftera aftern afterc, .int .i64 undoNext, .int .i64 0, .slice txnsa 0 txnsc, .slice dirtya dirtyn dirtyc, .slice imagea imagen imagec]) from Blk.new w #[.int .i64 2, .int .i64 txn, .int .i64 prev, .int .i64 page, .int .i64 slot, .bool beforeu, .slice beforea beforen beforec, .bool afteru, .slice aftera aftern afterc, .int .i64 undoNext, .int .i64 0, .slice txnsa 0 txnsc, .slice dirtya dirtyn dirtyc, .slice imagea imagen imagec] 35)
      go_enter Try.func32, Try.ntmps32
      go_wp2_with fail
      refine (hbefore _ HK0.out).mono ?_
      rintro e w1 ⟨rfl, hk⟩
      have HK1 := (show Hid (Same w w1) from HK0.out.trans hk)
      have HB1 := (show Hid (Blk w1 w.heap.size 35 [.int .i64 2, .int .i64 txn, .int .i64 prev, .int .i64 page, .int .i64 slot, .bool beforeu, .slice beforea beforen beforec, .bool afteru, .slice aftera aftern afterc, .int .i64 undoNext, .int .i64 0, .slice txnsa 0 txnsc, .slice dirtya dirtyn dirtyc, .slice imagea imagen imagec]) from HB0.out.same hk)
      clear hk
      have d1_0 : w1.cell? ⟨w.heap.size, 0, none⟩ = some (.int .i64 2) := HB1.out.cell 0
      have d1_1 : w1.cell? ⟨w.heap.size, 1, none⟩ = some (.int .i64 txn) := HB1.out.cell 1
      have d1_2 : w1.cell? ⟨w.heap.size, 2, none⟩ = some (.int .i64 prev) := HB1.out.cell 2
      have d1_3 : w1.cell? ⟨w.heap.size, 3, none⟩ = some (.int .i64 page) := HB1.out.cell 3
      have d1_4 : w1.cell? ⟨w.heap.size, 4, none⟩ = some (.int .i64 slot) := HB1.out.cell 4
      have d1_5 : w1.cell? ⟨w.heap.size, 5, none⟩ = some (.bool beforeu) := HB1.out.cell 5
      have d1_6 : w1.cell? ⟨w.heap.size, 6, none⟩ = some (.slice beforea beforen beforec) := HB1.out.cell 6
      have d1_7 : w1.cell? ⟨w.heap.size, 7, none⟩ = some (.bool afteru) := HB1.out.cell 7
      have d1_8 : w1.cell? ⟨w.heap.size, 8, none⟩ = some (.slice aftera aftern afterc) := HB1.out.cell 8
      have d1_9 : w1.cell? ⟨w.heap.size, 9, none⟩ = some (.int .i64 undoNext) := HB1.out.cell 9
      have d1_10 : w1.cell? ⟨w.heap.size, 10, none⟩ = some (.int .i64 0) := HB1.out.cell 10
      have d1_11 : w1.cell? ⟨w.heap.size, 11, none⟩ = some (.slice txnsa 0 txnsc) := HB1.out.cell 11
      have d1_12 : w1.cell? ⟨w.heap.size, 12, none⟩ = some (.slice dirtya dirtyn dirtyc) := HB1.out.cell 12
      have d1_13 : w1.cell? ⟨w.heap.size, 13, none⟩ = some (.slice imagea imagen imagec) := HB1.out.cell 13
      go_wp2
      go_ret
      exact ⟨by first | rfl | (simp; omega), HK1.out⟩
    subst qdirty
    rw [decide_eq_true rfl]
    by_cases qimage : imagen = 0
    case neg =>
      rw [decide_eq_false qimage]
      simp only [Bool.false_and, Bool.and_false, Bool.not_false]
      have rimage : (0 : Int) < imagen := by omega
      have HK0 := (show Hid (Same w (w.alloc (.cells #[.int .i64 2, .int .i64 txn, .int .i64 prev, .int .i64 page, .int .i64 slot, .bool beforeu, .slice beforea beforen beforec, .bool afteru, .slice aftera aftern afterc, .int .i64 undoNext, .int .i64 0, .slice txnsa 0 txnsc, .slice dirtya 0 dirtyc, .slice imagea imagen imagec] 35))) from (Kept.refl _ _).alloc _)
      have HB0 := (show Hid (Blk (w.alloc (.cells #[.int .i64 2, .int .i64 txn, .int .i64 prev, .int .i64 page, .int .i64 slot, .bool beforeu, .slice beforea beforen beforec, .bool afteru, .slice aftera aftern afterc, .int .i64 undoNext, .int .i64 0, .slice txnsa 0 txnsc, .slice dirtya 0 dirtyc, .slice imagea imagen imagec] 35)) w.heap.size 35 [.int .i64 2, .int .i64 txn, .int .i64 prev, .int .i64 page, .int .i64 slot, .bool beforeu, .slice beforea beforen beforec, .bool afteru, .slice aftera aftern afterc, .int .i64 undoNext, .int .i64 0, .slice txnsa 0 txnsc, .slice dirtya 0 dirtyc, .slice imagea imagen imagec]) from Blk.new w #[.int .i64 2, .int .i64 txn, .int .i64 prev, .int .i64 page, .int .i64 slot, .bool beforeu, .slice beforea beforen beforec, .bool afteru, .slice aftera aftern afterc, .int .i64 undoNext, .int .i64 0, .slice txnsa 0 txnsc, .slice dirtya 0 dirtyc, .slice imagea imagen imagec] 35)
      go_enter Try.func32, Try.ntmps32
      go_wp2_with fail
      refine (hbefore _ HK0.out).mono ?_
      rintro e w1 ⟨rfl, hk⟩
      have HK1 := (show Hid (Same w w1) from HK0.out.trans hk)
      have HB1 := (show Hid (Blk w1 w.heap.size 35 [.int .i64 2, .int .i64 txn, .int .i64 prev, .int .i64 page, .int .i64 slot, .bool beforeu, .slice beforea beforen beforec, .bool afteru, .slice aftera aftern afterc, .int .i64 undoNext, .int .i64 0, .slice txnsa 0 txnsc, .slice dirtya 0 dirtyc, .slice imagea imagen imagec]) from HB0.out.same hk)
      clear hk
      have d1_0 : w1.cell? ⟨w.heap.size, 0, none⟩ = some (.int .i64 2) := HB1.out.cell 0
      have d1_1 : w1.cell? ⟨w.heap.size, 1, none⟩ = some (.int .i64 txn) := HB1.out.cell 1
      have d1_2 : w1.cell? ⟨w.heap.size, 2, none⟩ = some (.int .i64 prev) := HB1.out.cell 2
      have d1_3 : w1.cell? ⟨w.heap.size, 3, none⟩ = some (.int .i64 page) := HB1.out.cell 3
      have d1_4 : w1.cell? ⟨w.heap.size, 4, none⟩ = some (.int .i64 slot) := HB1.out.cell 4
      have d1_5 : w1.cell? ⟨w.heap.size, 5, none⟩ = some (.bool beforeu) := HB1.out.cell 5
      have d1_6 : w1.cell? ⟨w.heap.size, 6, none⟩ = some (.slice beforea beforen beforec) := HB1.out.cell 6
      have d1_7 : w1.cell? ⟨w.heap.size, 7, none⟩ = some (.bool afteru) := HB1.out.cell 7
      have d1_8 : w1.cell? ⟨w.heap.size, 8, none⟩ = some (.slice aftera aftern afterc) := HB1.out.cell 8
      have d1_9 : w1.cell? ⟨w.heap.size, 9, none⟩ = some (.int .i64 undoNext) := HB1.out.cell 9
      have d1_10 : w1.cell? ⟨w.heap.size, 10, none⟩ = some (.int .i64 0) := HB1.out.cell 10
      have d1_11 : w1.cell? ⟨w.heap.size, 11, none⟩ = some (.slice txnsa 0 txnsc) := HB1.out.cell 11
      have d1_12 : w1.cell? ⟨w.heap.size, 12, none⟩ = some (.slice dirtya 0 dirtyc) := HB1.out.cell 12
      have d1_13 : w1.cell? ⟨w.heap.size, 13, none⟩ = some (.slice imagea imagen imagec) := HB1.out.cell 13
      go_wp2
      go_ret
      exact ⟨by first | rfl | (simp; omega), HK1.out⟩
    subst qimage
    rw [decide_eq_true rfl]
    simp only [Bool.and_true, Bool.and_self, Bool.not_true]
    have HK0 := (show Hid (Same w (w.alloc (.cells #[.int .i64 2, .int .i64 txn, .int .i64 prev, .int .i64 page, .int .i64 slot, .bool beforeu, .slice beforea beforen beforec, .bool afteru, .slice aftera aftern afterc, .int .i64 undoNext, .int .i64 0, .slice txnsa 0 txnsc, .slice dirtya 0 dirtyc, .slice imagea 0 imagec] 35))) from (Kept.refl _ _).alloc _)
    have HB0 := (show Hid (Blk (w.alloc (.cells #[.int .i64 2, .int .i64 txn, .int .i64 prev, .int .i64 page, .int .i64 slot, .bool beforeu, .slice beforea beforen beforec, .bool afteru, .slice aftera aftern afterc, .int .i64 undoNext, .int .i64 0, .slice txnsa 0 txnsc, .slice dirtya 0 dirtyc, .slice imagea 0 imagec] 35)) w.heap.size 35 [.int .i64 2, .int .i64 txn, .int .i64 prev, .int .i64 page, .int .i64 slot, .bool beforeu, .slice beforea beforen beforec, .bool afteru, .slice aftera aftern afterc, .int .i64 undoNext, .int .i64 0, .slice txnsa 0 txnsc, .slice dirtya 0 dirtyc, .slice imagea 0 imagec]) from Blk.new w #[.int .i64 2, .int .i64 txn, .int .i64 prev, .int .i64 page, .int .i64 slot, .bool beforeu, .slice beforea beforen beforec, .bool afteru, .slice aftera aftern afterc, .int .i64 undoNext, .int .i64 0, .slice txnsa 0 txnsc, .slice dirtya 0 dirtyc, .slice imagea 0 imagec] 35)
    go_enter Try.func32, Try.ntmps32
    go_wp2_with fail
    refine (hbefore _ HK0.out).mono ?_
    rintro e w1 ⟨rfl, hk⟩
    have HK1 := (show Hid (Same w w1) from HK0.out.trans hk)
    have HB1 := (show Hid (Blk w1 w.heap.size 35 [.int .i64 2, .int .i64 txn, .int .i64 prev, .int .i64 page, .int .i64 slot, .bool beforeu, .slice beforea beforen beforec, .bool afteru, .slice aftera aftern afterc, .int .i64 undoNext, .int .i64 0, .slice txnsa 0 txnsc, .slice dirtya 0 dirtyc, .slice imagea 0 imagec]) from HB0.out.same hk)
    clear hk
    have d1_0 : w1.cell? ⟨w.heap.size, 0, none⟩ = some (.int .i64 2) := HB1.out.cell 0
    have d1_1 : w1.cell? ⟨w.heap.size, 1, none⟩ = some (.int .i64 txn) := HB1.out.cell 1
    have d1_2 : w1.cell? ⟨w.heap.size, 2, none⟩ = some (.int .i64 prev) := HB1.out.cell 2
    have d1_3 : w1.cell? ⟨w.heap.size, 3, none⟩ = some (.int .i64 page) := HB1.out.cell 3
    have d1_4 : w1.cell? ⟨w.heap.size, 4, none⟩ = some (.int .i64 slot) := HB1.out.cell 4
    have d1_5 : w1.cell? ⟨w.heap.size, 5, none⟩ = some (.bool beforeu) := HB1.out.cell 5
    have d1_6 : w1.cell? ⟨w.heap.size, 6, none⟩ = some (.slice beforea beforen beforec) := HB1.out.cell 6
    have d1_7 : w1.cell? ⟨w.heap.size, 7, none⟩ = some (.bool afteru) := HB1.out.cell 7
    have d1_8 : w1.cell? ⟨w.heap.size, 8, none⟩ = some (.slice aftera aftern afterc) := HB1.out.cell 8
    have d1_9 : w1.cell? ⟨w.heap.size, 9, none⟩ = some (.int .i64 undoNext) := HB1.out.cell 9
    have d1_10 : w1.cell? ⟨w.heap.size, 10, none⟩ = some (.int .i64 0) := HB1.out.cell 10
    have d1_11 : w1.cell? ⟨w.heap.size, 11, none⟩ = some (.slice txnsa 0 txnsc) := HB1.out.cell 11
    have d1_12 : w1.cell? ⟨w.heap.size, 12, none⟩ = some (.slice dirtya 0 dirtyc) := HB1.out.cell 12
    have d1_13 : w1.cell? ⟨w.heap.size, 13, none⟩ = some (.slice imagea 0 imagec) := HB1.out.cell 13
    go_wp2
    go_ret
    exact ⟨rfl, HK1.out⟩
set_option maxRecDepth 100000 in
set_option maxHeartbeats 16000000 in
theorem extra_3 (txn : Int) (prev : Int) (page : Int) (slot : Int) (beforeu : Bool) (beforea : Option Addr) (beforen beforec : Nat) (afteru : Bool) (aftera : Option Addr) (aftern afterc : Nat) (undoNext : Int) (nextTxn : Int) (txnsa : Option Addr) (txnsn txnsc : Nat) (dirtya : Option Addr) (dirtyn dirtyc : Nat) (imagea : Option Addr) (imagen imagec : Nat) (w : World) (eafter ebefore : Bool) (hafter : ∀ wx, Same w wx → Calls Try.prog 52 #[.agg #[.bool afteru, .slice aftera aftern afterc]] wx fun e w' => e = .returned (.bool eafter) ∧ Same wx w') (hbefore : ∀ wx, Same w wx → Calls Try.prog 52 #[.agg #[.bool beforeu, .slice beforea beforen beforec]] wx fun e w' => e = .returned (.bool ebefore) ∧ Same wx w') (hmtxns : txnsn ≤ maxLen) (hmdirty : dirtyn ≤ maxLen) (hmimage : imagen ≤ maxLen) :
    Calls Try.prog 32 #[.agg #[.int .i64 3, .int .i64 txn, .int .i64 prev, .int .i64 page, .int .i64 slot, .bool beforeu, .slice beforea beforen beforec, .bool afteru, .slice aftera aftern afterc, .int .i64 undoNext, .int .i64 nextTxn, .slice txnsa txnsn txnsc, .slice dirtya dirtyn dirtyc, .slice imagea imagen imagec]] w fun e w' => e = .returned (.bool (!(decide (0 = slot) && eafter && decide (0 = page) && ebefore && decide (0 = undoNext) && decide (0 = nextTxn) && decide (txnsn = 0) && decide (dirtyn = 0) && decide (imagen = 0)))) ∧ Same w w' := by
  unfold maxLen at hmtxns hmdirty hmimage
  by_cases qslot : 0 = slot
  case neg =>
    rw [decide_eq_false qslot]
    simp only [Bool.false_and, Bool.and_false, Bool.not_false]
    have rslot : ¬ slot = 0 := fun e => qslot e.symm
    have HK0 := (show Hid (Same w (w.alloc (.cells #[.int .i64 3, .int .i64 txn, .int .i64 prev, .int .i64 page, .int .i64 slot, .bool beforeu, .slice beforea beforen beforec, .bool afteru, .slice aftera aftern afterc, .int .i64 undoNext, .int .i64 nextTxn, .slice txnsa txnsn txnsc, .slice dirtya dirtyn dirtyc, .slice imagea imagen imagec] 35))) from (Kept.refl _ _).alloc _)
    have HB0 := (show Hid (Blk (w.alloc (.cells #[.int .i64 3, .int .i64 txn, .int .i64 prev, .int .i64 page, .int .i64 slot, .bool beforeu, .slice beforea beforen beforec, .bool afteru, .slice aftera aftern afterc, .int .i64 undoNext, .int .i64 nextTxn, .slice txnsa txnsn txnsc, .slice dirtya dirtyn dirtyc, .slice imagea imagen imagec] 35)) w.heap.size 35 [.int .i64 3, .int .i64 txn, .int .i64 prev, .int .i64 page, .int .i64 slot, .bool beforeu, .slice beforea beforen beforec, .bool afteru, .slice aftera aftern afterc, .int .i64 undoNext, .int .i64 nextTxn, .slice txnsa txnsn txnsc, .slice dirtya dirtyn dirtyc, .slice imagea imagen imagec]) from Blk.new w #[.int .i64 3, .int .i64 txn, .int .i64 prev, .int .i64 page, .int .i64 slot, .bool beforeu, .slice beforea beforen beforec, .bool afteru, .slice aftera aftern afterc, .int .i64 undoNext, .int .i64 nextTxn, .slice txnsa txnsn txnsc, .slice dirtya dirtyn dirtyc, .slice imagea imagen imagec] 35)
    go_enter Try.func32, Try.ntmps32
    go_wp2
    go_ret
    exact ⟨rfl, HK0.out⟩
  subst qslot
  rw [decide_eq_true rfl]
  cases eafter with
  | false =>
    simp only [Bool.false_and, Bool.and_false, Bool.not_false]
    have HK0 := (show Hid (Same w (w.alloc (.cells #[.int .i64 3, .int .i64 txn, .int .i64 prev, .int .i64 page, .int .i64 0, .bool beforeu, .slice beforea beforen beforec, .bool afteru, .slice aftera aftern afterc, .int .i64 undoNext, .int .i64 nextTxn, .slice txnsa txnsn txnsc, .slice dirtya dirtyn dirtyc, .slice imagea imagen imagec] 35))) from (Kept.refl _ _).alloc _)
    have HB0 := (show Hid (Blk (w.alloc (.cells #[.int .i64 3, .int .i64 txn, .int .i64 prev, .int .i64 page, .int .i64 0, .bool beforeu, .slice beforea beforen beforec, .bool afteru, .slice aftera aftern afterc, .int .i64 undoNext, .int .i64 nextTxn, .slice txnsa txnsn txnsc, .slice dirtya dirtyn dirtyc, .slice imagea imagen imagec] 35)) w.heap.size 35 [.int .i64 3, .int .i64 txn, .int .i64 prev, .int .i64 page, .int .i64 0, .bool beforeu, .slice beforea beforen beforec, .bool afteru, .slice aftera aftern afterc, .int .i64 undoNext, .int .i64 nextTxn, .slice txnsa txnsn txnsc, .slice dirtya dirtyn dirtyc, .slice imagea imagen imagec]) from Blk.new w #[.int .i64 3, .int .i64 txn, .int .i64 prev, .int .i64 page, .int .i64 0, .bool beforeu, .slice beforea beforen beforec, .bool afteru, .slice aftera aftern afterc, .int .i64 undoNext, .int .i64 nextTxn, .slice txnsa txnsn txnsc, .slice dirtya dirtyn dirtyc, .slice imagea imagen imagec] 35)
    go_enter Try.func32, Try.ntmps32
    go_wp2_with fail
    refine (hafter _ HK0.out).mono ?_
    rintro e w1 ⟨rfl, hk⟩
    have HK1 := (show Hid (Same w w1) from HK0.out.trans hk)
    have HB1 := (show Hid (Blk w1 w.heap.size 35 [.int .i64 3, .int .i64 txn, .int .i64 prev, .int .i64 page, .int .i64 0, .bool beforeu, .slice beforea beforen beforec, .bool afteru, .slice aftera aftern afterc, .int .i64 undoNext, .int .i64 nextTxn, .slice txnsa txnsn txnsc, .slice dirtya dirtyn dirtyc, .slice imagea imagen imagec]) from HB0.out.same hk)
    clear hk
    have d1_0 : w1.cell? ⟨w.heap.size, 0, none⟩ = some (.int .i64 3) := HB1.out.cell 0
    have d1_1 : w1.cell? ⟨w.heap.size, 1, none⟩ = some (.int .i64 txn) := HB1.out.cell 1
    have d1_2 : w1.cell? ⟨w.heap.size, 2, none⟩ = some (.int .i64 prev) := HB1.out.cell 2
    have d1_3 : w1.cell? ⟨w.heap.size, 3, none⟩ = some (.int .i64 page) := HB1.out.cell 3
    have d1_4 : w1.cell? ⟨w.heap.size, 4, none⟩ = some (.int .i64 0) := HB1.out.cell 4
    have d1_5 : w1.cell? ⟨w.heap.size, 5, none⟩ = some (.bool beforeu) := HB1.out.cell 5
    have d1_6 : w1.cell? ⟨w.heap.size, 6, none⟩ = some (.slice beforea beforen beforec) := HB1.out.cell 6
    have d1_7 : w1.cell? ⟨w.heap.size, 7, none⟩ = some (.bool afteru) := HB1.out.cell 7
    have d1_8 : w1.cell? ⟨w.heap.size, 8, none⟩ = some (.slice aftera aftern afterc) := HB1.out.cell 8
    have d1_9 : w1.cell? ⟨w.heap.size, 9, none⟩ = some (.int .i64 undoNext) := HB1.out.cell 9
    have d1_10 : w1.cell? ⟨w.heap.size, 10, none⟩ = some (.int .i64 nextTxn) := HB1.out.cell 10
    have d1_11 : w1.cell? ⟨w.heap.size, 11, none⟩ = some (.slice txnsa txnsn txnsc) := HB1.out.cell 11
    have d1_12 : w1.cell? ⟨w.heap.size, 12, none⟩ = some (.slice dirtya dirtyn dirtyc) := HB1.out.cell 12
    have d1_13 : w1.cell? ⟨w.heap.size, 13, none⟩ = some (.slice imagea imagen imagec) := HB1.out.cell 13
    go_wp2
    go_ret
    exact ⟨rfl, HK1.out⟩
  | true =>
    by_cases qpage : 0 = page
    case neg =>
      rw [decide_eq_false qpage]
      simp only [Bool.false_and, Bool.and_false, Bool.not_false]
      have rpage : ¬ page = 0 := fun e => qpage e.symm
      have HK0 := (show Hid (Same w (w.alloc (.cells #[.int .i64 3, .int .i64 txn, .int .i64 prev, .int .i64 page, .int .i64 0, .bool beforeu, .slice beforea beforen beforec, .bool afteru, .slice aftera aftern afterc, .int .i64 undoNext, .int .i64 nextTxn, .slice txnsa txnsn txnsc, .slice dirtya dirtyn dirtyc, .slice imagea imagen imagec] 35))) from (Kept.refl _ _).alloc _)
      have HB0 := (show Hid (Blk (w.alloc (.cells #[.int .i64 3, .int .i64 txn, .int .i64 prev, .int .i64 page, .int .i64 0, .bool beforeu, .slice beforea beforen beforec, .bool afteru, .slice aftera aftern afterc, .int .i64 undoNext, .int .i64 nextTxn, .slice txnsa txnsn txnsc, .slice dirtya dirtyn dirtyc, .slice imagea imagen imagec] 35)) w.heap.size 35 [.int .i64 3, .int .i64 txn, .int .i64 prev, .int .i64 page, .int .i64 0, .bool beforeu, .slice beforea beforen beforec, .bool afteru, .slice aftera aftern afterc, .int .i64 undoNext, .int .i64 nextTxn, .slice txnsa txnsn txnsc, .slice dirtya dirtyn dirtyc, .slice imagea imagen imagec]) from Blk.new w #[.int .i64 3, .int .i64 txn, .int .i64 prev, .int .i64 page, .int .i64 0, .bool beforeu, .slice beforea beforen beforec, .bool afteru, .slice aftera aftern afterc, .int .i64 undoNext, .int .i64 nextTxn, .slice txnsa txnsn txnsc, .slice dirtya dirtyn dirtyc, .slice imagea imagen imagec] 35)
      go_enter Try.func32, Try.ntmps32
      go_wp2_with fail
      refine (hafter _ HK0.out).mono ?_
      rintro e w1 ⟨rfl, hk⟩
      have HK1 := (show Hid (Same w w1) from HK0.out.trans hk)
      have HB1 := (show Hid (Blk w1 w.heap.size 35 [.int .i64 3, .int .i64 txn, .int .i64 prev, .int .i64 page, .int .i64 0, .bool beforeu, .slice beforea beforen beforec, .bool afteru, .slice aftera aftern afterc, .int .i64 undoNext, .int .i64 nextTxn, .slice txnsa txnsn txnsc, .slice dirtya dirtyn dirtyc, .slice imagea imagen imagec]) from HB0.out.same hk)
      clear hk
      have d1_0 : w1.cell? ⟨w.heap.size, 0, none⟩ = some (.int .i64 3) := HB1.out.cell 0
      have d1_1 : w1.cell? ⟨w.heap.size, 1, none⟩ = some (.int .i64 txn) := HB1.out.cell 1
      have d1_2 : w1.cell? ⟨w.heap.size, 2, none⟩ = some (.int .i64 prev) := HB1.out.cell 2
      have d1_3 : w1.cell? ⟨w.heap.size, 3, none⟩ = some (.int .i64 page) := HB1.out.cell 3
      have d1_4 : w1.cell? ⟨w.heap.size, 4, none⟩ = some (.int .i64 0) := HB1.out.cell 4
      have d1_5 : w1.cell? ⟨w.heap.size, 5, none⟩ = some (.bool beforeu) := HB1.out.cell 5
      have d1_6 : w1.cell? ⟨w.heap.size, 6, none⟩ = some (.slice beforea beforen beforec) := HB1.out.cell 6
      have d1_7 : w1.cell? ⟨w.heap.size, 7, none⟩ = some (.bool afteru) := HB1.out.cell 7
      have d1_8 : w1.cell? ⟨w.heap.size, 8, none⟩ = some (.slice aftera aftern afterc) := HB1.out.cell 8
      have d1_9 : w1.cell? ⟨w.heap.size, 9, none⟩ = some (.int .i64 undoNext) := HB1.out.cell 9
      have d1_10 : w1.cell? ⟨w.heap.size, 10, none⟩ = some (.int .i64 nextTxn) := HB1.out.cell 10
      have d1_11 : w1.cell? ⟨w.heap.size, 11, none⟩ = some (.slice txnsa txnsn txnsc) := HB1.out.cell 11
      have d1_12 : w1.cell? ⟨w.heap.size, 12, none⟩ = some (.slice dirtya dirtyn dirtyc) := HB1.out.cell 12
      have d1_13 : w1.cell? ⟨w.heap.size, 13, none⟩ = some (.slice imagea imagen imagec) := HB1.out.cell 13
      go_wp2
      go_ret
      exact ⟨rfl, HK1.out⟩
    subst qpage
    rw [decide_eq_true rfl]
    cases ebefore with
    | false =>
      simp only [Bool.false_and, Bool.and_false, Bool.not_false]
      have HK0 := (show Hid (Same w (w.alloc (.cells #[.int .i64 3, .int .i64 txn, .int .i64 prev, .int .i64 0, .int .i64 0, .bool beforeu, .slice beforea beforen beforec, .bool afteru, .slice aftera aftern afterc, .int .i64 undoNext, .int .i64 nextTxn, .slice txnsa txnsn txnsc, .slice dirtya dirtyn dirtyc, .slice imagea imagen imagec] 35))) from (Kept.refl _ _).alloc _)
      have HB0 := (show Hid (Blk (w.alloc (.cells #[.int .i64 3, .int .i64 txn, .int .i64 prev, .int .i64 0, .int .i64 0, .bool beforeu, .slice beforea beforen beforec, .bool afteru, .slice aftera aftern afterc, .int .i64 undoNext, .int .i64 nextTxn, .slice txnsa txnsn txnsc, .slice dirtya dirtyn dirtyc, .slice imagea imagen imagec] 35)) w.heap.size 35 [.int .i64 3, .int .i64 txn, .int .i64 prev, .int .i64 0, .int .i64 0, .bool beforeu, .slice beforea beforen beforec, .bool afteru, .slice aftera aftern afterc, .int .i64 undoNext, .int .i64 nextTxn, .slice txnsa txnsn txnsc, .slice dirtya dirtyn dirtyc, .slice imagea imagen imagec]) from Blk.new w #[.int .i64 3, .int .i64 txn, .int .i64 prev, .int .i64 0, .int .i64 0, .bool beforeu, .slice beforea beforen beforec, .bool afteru, .slice aftera aftern afterc, .int .i64 undoNext, .int .i64 nextTxn, .slice txnsa txnsn txnsc, .slice dirtya dirtyn dirtyc, .slice imagea imagen imagec] 35)
      go_enter Try.func32, Try.ntmps32
      go_wp2_with fail
      refine (hafter _ HK0.out).mono ?_
      rintro e w1 ⟨rfl, hk⟩
      have HK1 := (show Hid (Same w w1) from HK0.out.trans hk)
      have HB1 := (show Hid (Blk w1 w.heap.size 35 [.int .i64 3, .int .i64 txn, .int .i64 prev, .int .i64 0, .int .i64 0, .bool beforeu, .slice beforea beforen beforec, .bool afteru, .slice aftera aftern afterc, .int .i64 undoNext, .int .i64 nextTxn, .slice txnsa txnsn txnsc, .slice dirtya dirtyn dirtyc, .slice imagea imagen imagec]) from HB0.out.same hk)
      clear hk
      have d1_0 : w1.cell? ⟨w.heap.size, 0, none⟩ = some (.int .i64 3) := HB1.out.cell 0
      have d1_1 : w1.cell? ⟨w.heap.size, 1, none⟩ = some (.int .i64 txn) := HB1.out.cell 1
      have d1_2 : w1.cell? ⟨w.heap.size, 2, none⟩ = some (.int .i64 prev) := HB1.out.cell 2
      have d1_3 : w1.cell? ⟨w.heap.size, 3, none⟩ = some (.int .i64 0) := HB1.out.cell 3
      have d1_4 : w1.cell? ⟨w.heap.size, 4, none⟩ = some (.int .i64 0) := HB1.out.cell 4
      have d1_5 : w1.cell? ⟨w.heap.size, 5, none⟩ = some (.bool beforeu) := HB1.out.cell 5
      have d1_6 : w1.cell? ⟨w.heap.size, 6, none⟩ = some (.slice beforea beforen beforec) := HB1.out.cell 6
      have d1_7 : w1.cell? ⟨w.heap.size, 7, none⟩ = some (.bool afteru) := HB1.out.cell 7
      have d1_8 : w1.cell? ⟨w.heap.size, 8, none⟩ = some (.slice aftera aftern afterc) := HB1.out.cell 8
      have d1_9 : w1.cell? ⟨w.heap.size, 9, none⟩ = some (.int .i64 undoNext) := HB1.out.cell 9
      have d1_10 : w1.cell? ⟨w.heap.size, 10, none⟩ = some (.int .i64 nextTxn) := HB1.out.cell 10
      have d1_11 : w1.cell? ⟨w.heap.size, 11, none⟩ = some (.slice txnsa txnsn txnsc) := HB1.out.cell 11
      have d1_12 : w1.cell? ⟨w.heap.size, 12, none⟩ = some (.slice dirtya dirtyn dirtyc) := HB1.out.cell 12
      have d1_13 : w1.cell? ⟨w.heap.size, 13, none⟩ = some (.slice imagea imagen imagec) := HB1.out.cell 13
      go_wp2_with fail
      refine (hbefore _ HK1.out).mono ?_
      rintro e w2 ⟨rfl, hk⟩
      have HK2 := (show Hid (Same w w2) from HK1.out.trans hk)
      have HB2 := (show Hid (Blk w2 w.heap.size 35 [.int .i64 3, .int .i64 txn, .int .i64 prev, .int .i64 0, .int .i64 0, .bool beforeu, .slice beforea beforen beforec, .bool afteru, .slice aftera aftern afterc, .int .i64 undoNext, .int .i64 nextTxn, .slice txnsa txnsn txnsc, .slice dirtya dirtyn dirtyc, .slice imagea imagen imagec]) from HB1.out.same hk)
      clear hk
      have d2_0 : w2.cell? ⟨w.heap.size, 0, none⟩ = some (.int .i64 3) := HB2.out.cell 0
      have d2_1 : w2.cell? ⟨w.heap.size, 1, none⟩ = some (.int .i64 txn) := HB2.out.cell 1
      have d2_2 : w2.cell? ⟨w.heap.size, 2, none⟩ = some (.int .i64 prev) := HB2.out.cell 2
      have d2_3 : w2.cell? ⟨w.heap.size, 3, none⟩ = some (.int .i64 0) := HB2.out.cell 3
      have d2_4 : w2.cell? ⟨w.heap.size, 4, none⟩ = some (.int .i64 0) := HB2.out.cell 4
      have d2_5 : w2.cell? ⟨w.heap.size, 5, none⟩ = some (.bool beforeu) := HB2.out.cell 5
      have d2_6 : w2.cell? ⟨w.heap.size, 6, none⟩ = some (.slice beforea beforen beforec) := HB2.out.cell 6
      have d2_7 : w2.cell? ⟨w.heap.size, 7, none⟩ = some (.bool afteru) := HB2.out.cell 7
      have d2_8 : w2.cell? ⟨w.heap.size, 8, none⟩ = some (.slice aftera aftern afterc) := HB2.out.cell 8
      have d2_9 : w2.cell? ⟨w.heap.size, 9, none⟩ = some (.int .i64 undoNext) := HB2.out.cell 9
      have d2_10 : w2.cell? ⟨w.heap.size, 10, none⟩ = some (.int .i64 nextTxn) := HB2.out.cell 10
      have d2_11 : w2.cell? ⟨w.heap.size, 11, none⟩ = some (.slice txnsa txnsn txnsc) := HB2.out.cell 11
      have d2_12 : w2.cell? ⟨w.heap.size, 12, none⟩ = some (.slice dirtya dirtyn dirtyc) := HB2.out.cell 12
      have d2_13 : w2.cell? ⟨w.heap.size, 13, none⟩ = some (.slice imagea imagen imagec) := HB2.out.cell 13
      go_wp2
      go_ret
      exact ⟨rfl, HK2.out⟩
    | true =>
      by_cases qundoNext : 0 = undoNext
      case neg =>
        rw [decide_eq_false qundoNext]
        simp only [Bool.false_and, Bool.and_false, Bool.not_false]
        have rundoNext : ¬ undoNext = 0 := fun e => qundoNext e.symm
        have HK0 := (show Hid (Same w (w.alloc (.cells #[.int .i64 3, .int .i64 txn, .int .i64 prev, .int .i64 0, .int .i64 0, .bool beforeu, .slice beforea beforen beforec, .bool afteru, .slice aftera aftern afterc, .int .i64 undoNext, .int .i64 nextTxn, .slice txnsa txnsn txnsc, .slice dirtya dirtyn dirtyc, .slice imagea imagen imagec] 35))) from (Kept.refl _ _).alloc _)
        have HB0 := (show Hid (Blk (w.alloc (.cells #[.int .i64 3, .int .i64 txn, .int .i64 prev, .int .i64 0, .int .i64 0, .bool beforeu, .slice beforea beforen beforec, .bool afteru, .slice aftera aftern afterc, .int .i64 undoNext, .int .i64 nextTxn, .slice txnsa txnsn txnsc, .slice dirtya dirtyn dirtyc, .slice imagea imagen imagec] 35)) w.heap.size 35 [.int .i64 3, .int .i64 txn, .int .i64 prev, .int .i64 0, .int .i64 0, .bool beforeu, .slice beforea beforen beforec, .bool afteru, .slice aftera aftern afterc, .int .i64 undoNext, .int .i64 nextTxn, .slice txnsa txnsn txnsc, .slice dirtya dirtyn dirtyc, .slice imagea imagen imagec]) from Blk.new w #[.int .i64 3, .int .i64 txn, .int .i64 prev, .int .i64 0, .int .i64 0, .bool beforeu, .slice beforea beforen beforec, .bool afteru, .slice aftera aftern afterc, .int .i64 undoNext, .int .i64 nextTxn, .slice txnsa txnsn txnsc, .slice dirtya dirtyn dirtyc, .slice imagea imagen imagec] 35)
        go_enter Try.func32, Try.ntmps32
        go_wp2_with fail
        refine (hafter _ HK0.out).mono ?_
        rintro e w1 ⟨rfl, hk⟩
        have HK1 := (show Hid (Same w w1) from HK0.out.trans hk)
        have HB1 := (show Hid (Blk w1 w.heap.size 35 [.int .i64 3, .int .i64 txn, .int .i64 prev, .int .i64 0, .int .i64 0, .bool beforeu, .slice beforea beforen beforec, .bool afteru, .slice aftera aftern afterc, .int .i64 undoNext, .int .i64 nextTxn, .slice txnsa txnsn txnsc, .slice dirtya dirtyn dirtyc, .slice imagea imagen imagec]) from HB0.out.same hk)
        clear hk
        have d1_0 : w1.cell? ⟨w.heap.size, 0, none⟩ = some (.int .i64 3) := HB1.out.cell 0
        have d1_1 : w1.cell? ⟨w.heap.size, 1, none⟩ = some (.int .i64 txn) := HB1.out.cell 1
        have d1_2 : w1.cell? ⟨w.heap.size, 2, none⟩ = some (.int .i64 prev) := HB1.out.cell 2
        have d1_3 : w1.cell? ⟨w.heap.size, 3, none⟩ = some (.int .i64 0) := HB1.out.cell 3
        have d1_4 : w1.cell? ⟨w.heap.size, 4, none⟩ = some (.int .i64 0) := HB1.out.cell 4
        have d1_5 : w1.cell? ⟨w.heap.size, 5, none⟩ = some (.bool beforeu) := HB1.out.cell 5
        have d1_6 : w1.cell? ⟨w.heap.size, 6, none⟩ = some (.slice beforea beforen beforec) := HB1.out.cell 6
        have d1_7 : w1.cell? ⟨w.heap.size, 7, none⟩ = some (.bool afteru) := HB1.out.cell 7
        have d1_8 : w1.cell? ⟨w.heap.size, 8, none⟩ = some (.slice aftera aftern afterc) := HB1.out.cell 8
        have d1_9 : w1.cell? ⟨w.heap.size, 9, none⟩ = some (.int .i64 undoNext) := HB1.out.cell 9
        have d1_10 : w1.cell? ⟨w.heap.size, 10, none⟩ = some (.int .i64 nextTxn) := HB1.out.cell 10
        have d1_11 : w1.cell? ⟨w.heap.size, 11, none⟩ = some (.slice txnsa txnsn txnsc) := HB1.out.cell 11
        have d1_12 : w1.cell? ⟨w.heap.size, 12, none⟩ = some (.slice dirtya dirtyn dirtyc) := HB1.out.cell 12
        have d1_13 : w1.cell? ⟨w.heap.size, 13, none⟩ = some (.slice imagea imagen imagec) := HB1.out.cell 13
        go_wp2_with fail
        refine (hbefore _ HK1.out).mono ?_
        rintro e w2 ⟨rfl, hk⟩
        have HK2 := (show Hid (Same w w2) from HK1.out.trans hk)
        have HB2 := (show Hid (Blk w2 w.heap.size 35 [.int .i64 3, .int .i64 txn, .int .i64 prev, .int .i64 0, .int .i64 0, .bool beforeu, .slice beforea beforen beforec, .bool afteru, .slice aftera aftern afterc, .int .i64 undoNext, .int .i64 nextTxn, .slice txnsa txnsn txnsc, .slice dirtya dirtyn dirtyc, .slice imagea imagen imagec]) from HB1.out.same hk)
        clear hk
        have d2_0 : w2.cell? ⟨w.heap.size, 0, none⟩ = some (.int .i64 3) := HB2.out.cell 0
        have d2_1 : w2.cell? ⟨w.heap.size, 1, none⟩ = some (.int .i64 txn) := HB2.out.cell 1
        have d2_2 : w2.cell? ⟨w.heap.size, 2, none⟩ = some (.int .i64 prev) := HB2.out.cell 2
        have d2_3 : w2.cell? ⟨w.heap.size, 3, none⟩ = some (.int .i64 0) := HB2.out.cell 3
        have d2_4 : w2.cell? ⟨w.heap.size, 4, none⟩ = some (.int .i64 0) := HB2.out.cell 4
        have d2_5 : w2.cell? ⟨w.heap.size, 5, none⟩ = some (.bool beforeu) := HB2.out.cell 5
        have d2_6 : w2.cell? ⟨w.heap.size, 6, none⟩ = some (.slice beforea beforen beforec) := HB2.out.cell 6
        have d2_7 : w2.cell? ⟨w.heap.size, 7, none⟩ = some (.bool afteru) := HB2.out.cell 7
        have d2_8 : w2.cell? ⟨w.heap.size, 8, none⟩ = some (.slice aftera aftern afterc) := HB2.out.cell 8
        have d2_9 : w2.cell? ⟨w.heap.size, 9, none⟩ = some (.int .i64 undoNext) := HB2.out.cell 9
        have d2_10 : w2.cell? ⟨w.heap.size, 10, none⟩ = some (.int .i64 nextTxn) := HB2.out.cell 10
        have d2_11 : w2.cell? ⟨w.heap.size, 11, none⟩ = some (.slice txnsa txnsn txnsc) := HB2.out.cell 11
        have d2_12 : w2.cell? ⟨w.heap.size, 12, none⟩ = some (.slice dirtya dirtyn dirtyc) := HB2.out.cell 12
        have d2_13 : w2.cell? ⟨w.heap.size, 13, none⟩ = some (.slice imagea imagen imagec) := HB2.out.cell 13
        go_wp2
        go_ret
        exact ⟨rfl, HK2.out⟩
      subst qundoNext
      rw [decide_eq_true rfl]
      by_cases qnextTxn : 0 = nextTxn
      case neg =>
        rw [decide_eq_false qnextTxn]
        simp only [Bool.false_and, Bool.and_false, Bool.not_false]
        have rnextTxn : ¬ nextTxn = 0 := fun e => qnextTxn e.symm
        have HK0 := (show Hid (Same w (w.alloc (.cells #[.int .i64 3, .int .i64 txn, .int .i64 prev, .int .i64 0, .int .i64 0, .bool beforeu, .slice beforea beforen beforec, .bool afteru, .slice aftera aftern afterc, .int .i64 0, .int .i64 nextTxn, .slice txnsa txnsn txnsc, .slice dirtya dirtyn dirtyc, .slice imagea imagen imagec] 35))) from (Kept.refl _ _).alloc _)
        have HB0 := (show Hid (Blk (w.alloc (.cells #[.int .i64 3, .int .i64 txn, .int .i64 prev, .int .i64 0, .int .i64 0, .bool beforeu, .slice beforea beforen beforec, .bool afteru, .slice aftera aftern afterc, .int .i64 0, .int .i64 nextTxn, .slice txnsa txnsn txnsc, .slice dirtya dirtyn dirtyc, .slice imagea imagen imagec] 35)) w.heap.size 35 [.int .i64 3, .int .i64 txn, .int .i64 prev, .int .i64 0, .int .i64 0, .bool beforeu, .slice beforea beforen beforec, .bool afteru, .slice aftera aftern afterc, .int .i64 0, .int .i64 nextTxn, .slice txnsa txnsn txnsc, .slice dirtya dirtyn dirtyc, .slice imagea imagen imagec]) from Blk.new w #[.int .i64 3, .int .i64 txn, .int .i64 prev, .int .i64 0, .int .i64 0, .bool beforeu, .slice beforea beforen beforec, .bool afteru, .slice aftera aftern afterc, .int .i64 0, .int .i64 nextTxn, .slice txnsa txnsn txnsc, .slice dirtya dirtyn dirtyc, .slice imagea imagen imagec] 35)
        go_enter Try.func32, Try.ntmps32
        go_wp2_with fail
        refine (hafter _ HK0.out).mono ?_
        rintro e w1 ⟨rfl, hk⟩
        have HK1 := (show Hid (Same w w1) from HK0.out.trans hk)
        have HB1 := (show Hid (Blk w1 w.heap.size 35 [.int .i64 3, .int .i64 txn, .int .i64 prev, .int .i64 0, .int .i64 0, .bool beforeu, .slice beforea beforen beforec, .bool afteru, .slice aftera aftern afterc, .int .i64 0, .int .i64 nextTxn, .slice txnsa txnsn txnsc, .slice dirtya dirtyn dirtyc, .slice imagea imagen imagec]) from HB0.out.same hk)
        clear hk
        have d1_0 : w1.cell? ⟨w.heap.size, 0, none⟩ = some (.int .i64 3) := HB1.out.cell 0
        have d1_1 : w1.cell? ⟨w.heap.size, 1, none⟩ = some (.int .i64 txn) := HB1.out.cell 1
        have d1_2 : w1.cell? ⟨w.heap.size, 2, none⟩ = some (.int .i64 prev) := HB1.out.cell 2
        have d1_3 : w1.cell? ⟨w.heap.size, 3, none⟩ = some (.int .i64 0) := HB1.out.cell 3
        have d1_4 : w1.cell? ⟨w.heap.size, 4, none⟩ = some (.int .i64 0) := HB1.out.cell 4
        have d1_5 : w1.cell? ⟨w.heap.size, 5, none⟩ = some (.bool beforeu) := HB1.out.cell 5
        have d1_6 : w1.cell? ⟨w.heap.size, 6, none⟩ = some (.slice beforea beforen beforec) := HB1.out.cell 6
        have d1_7 : w1.cell? ⟨w.heap.size, 7, none⟩ = some (.bool afteru) := HB1.out.cell 7
        have d1_8 : w1.cell? ⟨w.heap.size, 8, none⟩ = some (.slice aftera aftern afterc) := HB1.out.cell 8
        have d1_9 : w1.cell? ⟨w.heap.size, 9, none⟩ = some (.int .i64 0) := HB1.out.cell 9
        have d1_10 : w1.cell? ⟨w.heap.size, 10, none⟩ = some (.int .i64 nextTxn) := HB1.out.cell 10
        have d1_11 : w1.cell? ⟨w.heap.size, 11, none⟩ = some (.slice txnsa txnsn txnsc) := HB1.out.cell 11
        have d1_12 : w1.cell? ⟨w.heap.size, 12, none⟩ = some (.slice dirtya dirtyn dirtyc) := HB1.out.cell 12
        have d1_13 : w1.cell? ⟨w.heap.size, 13, none⟩ = some (.slice imagea imagen imagec) := HB1.out.cell 13
        go_wp2_with fail
        refine (hbefore _ HK1.out).mono ?_
        rintro e w2 ⟨rfl, hk⟩
        have HK2 := (show Hid (Same w w2) from HK1.out.trans hk)
        have HB2 := (show Hid (Blk w2 w.heap.size 35 [.int .i64 3, .int .i64 txn, .int .i64 prev, .int .i64 0, .int .i64 0, .bool beforeu, .slice beforea beforen beforec, .bool afteru, .slice aftera aftern afterc, .int .i64 0, .int .i64 nextTxn, .slice txnsa txnsn txnsc, .slice dirtya dirtyn dirtyc, .slice imagea imagen imagec]) from HB1.out.same hk)
        clear hk
        have d2_0 : w2.cell? ⟨w.heap.size, 0, none⟩ = some (.int .i64 3) := HB2.out.cell 0
        have d2_1 : w2.cell? ⟨w.heap.size, 1, none⟩ = some (.int .i64 txn) := HB2.out.cell 1
        have d2_2 : w2.cell? ⟨w.heap.size, 2, none⟩ = some (.int .i64 prev) := HB2.out.cell 2
        have d2_3 : w2.cell? ⟨w.heap.size, 3, none⟩ = some (.int .i64 0) := HB2.out.cell 3
        have d2_4 : w2.cell? ⟨w.heap.size, 4, none⟩ = some (.int .i64 0) := HB2.out.cell 4
        have d2_5 : w2.cell? ⟨w.heap.size, 5, none⟩ = some (.bool beforeu) := HB2.out.cell 5
        have d2_6 : w2.cell? ⟨w.heap.size, 6, none⟩ = some (.slice beforea beforen beforec) := HB2.out.cell 6
        have d2_7 : w2.cell? ⟨w.heap.size, 7, none⟩ = some (.bool afteru) := HB2.out.cell 7
        have d2_8 : w2.cell? ⟨w.heap.size, 8, none⟩ = some (.slice aftera aftern afterc) := HB2.out.cell 8
        have d2_9 : w2.cell? ⟨w.heap.size, 9, none⟩ = some (.int .i64 0) := HB2.out.cell 9
        have d2_10 : w2.cell? ⟨w.heap.size, 10, none⟩ = some (.int .i64 nextTxn) := HB2.out.cell 10
        have d2_11 : w2.cell? ⟨w.heap.size, 11, none⟩ = some (.slice txnsa txnsn txnsc) := HB2.out.cell 11
        have d2_12 : w2.cell? ⟨w.heap.size, 12, none⟩ = some (.slice dirtya dirtyn dirtyc) := HB2.out.cell 12
        have d2_13 : w2.cell? ⟨w.heap.size, 13, none⟩ = some (.slice imagea imagen imagec) := HB2.out.cell 13
        go_wp2
        go_ret
        exact ⟨rfl, HK2.out⟩
      subst qnextTxn
      rw [decide_eq_true rfl]
      by_cases qtxns : txnsn = 0
      case neg =>
        rw [decide_eq_false qtxns]
        simp only [Bool.false_and, Bool.and_false, Bool.not_false]
        have rtxns : (0 : Int) < txnsn := by omega
        have HK0 := (show Hid (Same w (w.alloc (.cells #[.int .i64 3, .int .i64 txn, .int .i64 prev, .int .i64 0, .int .i64 0, .bool beforeu, .slice beforea beforen beforec, .bool afteru, .slice aftera aftern afterc, .int .i64 0, .int .i64 0, .slice txnsa txnsn txnsc, .slice dirtya dirtyn dirtyc, .slice imagea imagen imagec] 35))) from (Kept.refl _ _).alloc _)
        have HB0 := (show Hid (Blk (w.alloc (.cells #[.int .i64 3, .int .i64 txn, .int .i64 prev, .int .i64 0, .int .i64 0, .bool beforeu, .slice beforea beforen beforec, .bool afteru, .slice aftera aftern afterc, .int .i64 0, .int .i64 0, .slice txnsa txnsn txnsc, .slice dirtya dirtyn dirtyc, .slice imagea imagen imagec] 35)) w.heap.size 35 [.int .i64 3, .int .i64 txn, .int .i64 prev, .int .i64 0, .int .i64 0, .bool beforeu, .slice beforea beforen beforec, .bool afteru, .slice aftera aftern afterc, .int .i64 0, .int .i64 0, .slice txnsa txnsn txnsc, .slice dirtya dirtyn dirtyc, .slice imagea imagen imagec]) from Blk.new w #[.int .i64 3, .int .i64 txn, .int .i64 prev, .int .i64 0, .int .i64 0, .bool beforeu, .slice beforea beforen beforec, .bool afteru, .slice aftera aftern afterc, .int .i64 0, .int .i64 0, .slice txnsa txnsn txnsc, .slice dirtya dirtyn dirtyc, .slice imagea imagen imagec] 35)
        go_enter Try.func32, Try.ntmps32
        go_wp2_with fail
        refine (hafter _ HK0.out).mono ?_
        rintro e w1 ⟨rfl, hk⟩
        have HK1 := (show Hid (Same w w1) from HK0.out.trans hk)
        have HB1 := (show Hid (Blk w1 w.heap.size 35 [.int .i64 3, .int .i64 txn, .int .i64 prev, .int .i64 0, .int .i64 0, .bool beforeu, .slice beforea beforen beforec, .bool afteru, .slice aftera aftern afterc, .int .i64 0, .int .i64 0, .slice txnsa txnsn txnsc, .slice dirtya dirtyn dirtyc, .slice imagea imagen imagec]) from HB0.out.same hk)
        clear hk
        have d1_0 : w1.cell? ⟨w.heap.size, 0, none⟩ = some (.int .i64 3) := HB1.out.cell 0
        have d1_1 : w1.cell? ⟨w.heap.size, 1, none⟩ = some (.int .i64 txn) := HB1.out.cell 1
        have d1_2 : w1.cell? ⟨w.heap.size, 2, none⟩ = some (.int .i64 prev) := HB1.out.cell 2
        have d1_3 : w1.cell? ⟨w.heap.size, 3, none⟩ = some (.int .i64 0) := HB1.out.cell 3
        have d1_4 : w1.cell? ⟨w.heap.size, 4, none⟩ = some (.int .i64 0) := HB1.out.cell 4
        have d1_5 : w1.cell? ⟨w.heap.size, 5, none⟩ = some (.bool beforeu) := HB1.out.cell 5
        have d1_6 : w1.cell? ⟨w.heap.size, 6, none⟩ = some (.slice beforea beforen beforec) := HB1.out.cell 6
        have d1_7 : w1.cell? ⟨w.heap.size, 7, none⟩ = some (.bool afteru) := HB1.out.cell 7
        have d1_8 : w1.cell? ⟨w.heap.size, 8, none⟩ = some (.slice aftera aftern afterc) := HB1.out.cell 8
        have d1_9 : w1.cell? ⟨w.heap.size, 9, none⟩ = some (.int .i64 0) := HB1.out.cell 9
        have d1_10 : w1.cell? ⟨w.heap.size, 10, none⟩ = some (.int .i64 0) := HB1.out.cell 10
        have d1_11 : w1.cell? ⟨w.heap.size, 11, none⟩ = some (.slice txnsa txnsn txnsc) := HB1.out.cell 11
        have d1_12 : w1.cell? ⟨w.heap.size, 12, none⟩ = some (.slice dirtya dirtyn dirtyc) := HB1.out.cell 12
        have d1_13 : w1.cell? ⟨w.heap.size, 13, none⟩ = some (.slice imagea imagen imagec) := HB1.out.cell 13
        go_wp2_with fail
        refine (hbefore _ HK1.out).mono ?_
        rintro e w2 ⟨rfl, hk⟩
        have HK2 := (show Hid (Same w w2) from HK1.out.trans hk)
        have HB2 := (show Hid (Blk w2 w.heap.size 35 [.int .i64 3, .int .i64 txn, .int .i64 prev, .int .i64 0, .int .i64 0, .bool beforeu, .slice beforea beforen beforec, .bool afteru, .slice aftera aftern afterc, .int .i64 0, .int .i64 0, .slice txnsa txnsn txnsc, .slice dirtya dirtyn dirtyc, .slice imagea imagen imagec]) from HB1.out.same hk)
        clear hk
        have d2_0 : w2.cell? ⟨w.heap.size, 0, none⟩ = some (.int .i64 3) := HB2.out.cell 0
        have d2_1 : w2.cell? ⟨w.heap.size, 1, none⟩ = some (.int .i64 txn) := HB2.out.cell 1
        have d2_2 : w2.cell? ⟨w.heap.size, 2, none⟩ = some (.int .i64 prev) := HB2.out.cell 2
        have d2_3 : w2.cell? ⟨w.heap.size, 3, none⟩ = some (.int .i64 0) := HB2.out.cell 3
        have d2_4 : w2.cell? ⟨w.heap.size, 4, none⟩ = some (.int .i64 0) := HB2.out.cell 4
        have d2_5 : w2.cell? ⟨w.heap.size, 5, none⟩ = some (.bool beforeu) := HB2.out.cell 5
        have d2_6 : w2.cell? ⟨w.heap.size, 6, none⟩ = some (.slice beforea beforen beforec) := HB2.out.cell 6
        have d2_7 : w2.cell? ⟨w.heap.size, 7, none⟩ = some (.bool afteru) := HB2.out.cell 7
        have d2_8 : w2.cell? ⟨w.heap.size, 8, none⟩ = some (.slice aftera aftern afterc) := HB2.out.cell 8
        have d2_9 : w2.cell? ⟨w.heap.size, 9, none⟩ = some (.int .i64 0) := HB2.out.cell 9
        have d2_10 : w2.cell? ⟨w.heap.size, 10, none⟩ = some (.int .i64 0) := HB2.out.cell 10
        have d2_11 : w2.cell? ⟨w.heap.size, 11, none⟩ = some (.slice txnsa txnsn txnsc) := HB2.out.cell 11
        have d2_12 : w2.cell? ⟨w.heap.size, 12, none⟩ = some (.slice dirtya dirtyn dirtyc) := HB2.out.cell 12
        have d2_13 : w2.cell? ⟨w.heap.size, 13, none⟩ = some (.slice imagea imagen imagec) := HB2.out.cell 13
        go_wp2
        go_ret
        exact ⟨by first | rfl | (simp; omega), HK2.out⟩
      subst qtxns
      rw [decide_eq_true rfl]
      by_cases qdirty : dirtyn = 0
      case neg =>
        rw [decide_eq_false qdirty]
        simp only [Bool.false_and, Bool.and_false, Bool.not_false]
        have rdirty : (0 : Int) < dirtyn := by omega
        have HK0 := (show Hid (Same w (w.alloc (.cells #[.int .i64 3, .int .i64 txn, .int .i64 prev, .int .i64 0, .int .i64 0, .bool beforeu, .slice beforea beforen beforec, .bool afteru, .slice aftera aftern afterc, .int .i64 0, .int .i64 0, .slice txnsa 0 txnsc, .slice dirtya dirtyn dirtyc, .slice imagea imagen imagec] 35))) from (Kept.refl _ _).alloc _)
        have HB0 := (show Hid (Blk (w.alloc (.cells #[.int .i64 3, .int .i64 txn, .int .i64 prev, .int .i64 0, .int .i64 0, .bool beforeu, .slice beforea beforen beforec, .bool afteru, .slice aftera aftern afterc, .int .i64 0, .int .i64 0, .slice txnsa 0 txnsc, .slice dirtya dirtyn dirtyc, .slice imagea imagen imagec] 35)) w.heap.size 35 [.int .i64 3, .int .i64 txn, .int .i64 prev, .int .i64 0, .int .i64 0, .bool beforeu, .slice beforea beforen beforec, .bool afteru, .slice aftera aftern afterc, .int .i64 0, .int .i64 0, .slice txnsa 0 txnsc, .slice dirtya dirtyn dirtyc, .slice imagea imagen imagec]) from Blk.new w #[.int .i64 3, .int .i64 txn, .int .i64 prev, .int .i64 0, .int .i64 0, .bool beforeu, .slice beforea beforen beforec, .bool afteru, .slice aftera aftern afterc, .int .i64 0, .int .i64 0, .slice txnsa 0 txnsc, .slice dirtya dirtyn dirtyc, .slice imagea imagen imagec] 35)
        go_enter Try.func32, Try.ntmps32
        go_wp2_with fail
        refine (hafter _ HK0.out).mono ?_
        rintro e w1 ⟨rfl, hk⟩
        have HK1 := (show Hid (Same w w1) from HK0.out.trans hk)
        have HB1 := (show Hid (Blk w1 w.heap.size 35 [.int .i64 3, .int .i64 txn, .int .i64 prev, .int .i64 0, .int .i64 0, .bool beforeu, .slice beforea beforen beforec, .bool afteru, .slice aftera aftern afterc, .int .i64 0, .int .i64 0, .slice txnsa 0 txnsc, .slice dirtya dirtyn dirtyc, .slice imagea imagen imagec]) from HB0.out.same hk)
        clear hk
        have d1_0 : w1.cell? ⟨w.heap.size, 0, none⟩ = some (.int .i64 3) := HB1.out.cell 0
        have d1_1 : w1.cell? ⟨w.heap.size, 1, none⟩ = some (.int .i64 txn) := HB1.out.cell 1
        have d1_2 : w1.cell? ⟨w.heap.size, 2, none⟩ = some (.int .i64 prev) := HB1.out.cell 2
        have d1_3 : w1.cell? ⟨w.heap.size, 3, none⟩ = some (.int .i64 0) := HB1.out.cell 3
        have d1_4 : w1.cell? ⟨w.heap.size, 4, none⟩ = some (.int .i64 0) := HB1.out.cell 4
        have d1_5 : w1.cell? ⟨w.heap.size, 5, none⟩ = some (.bool beforeu) := HB1.out.cell 5
        have d1_6 : w1.cell? ⟨w.heap.size, 6, none⟩ = some (.slice beforea beforen beforec) := HB1.out.cell 6
        have d1_7 : w1.cell? ⟨w.heap.size, 7, none⟩ = some (.bool afteru) := HB1.out.cell 7
        have d1_8 : w1.cell? ⟨w.heap.size, 8, none⟩ = some (.slice aftera aftern afterc) := HB1.out.cell 8
        have d1_9 : w1.cell? ⟨w.heap.size, 9, none⟩ = some (.int .i64 0) := HB1.out.cell 9
        have d1_10 : w1.cell? ⟨w.heap.size, 10, none⟩ = some (.int .i64 0) := HB1.out.cell 10
        have d1_11 : w1.cell? ⟨w.heap.size, 11, none⟩ = some (.slice txnsa 0 txnsc) := HB1.out.cell 11
        have d1_12 : w1.cell? ⟨w.heap.size, 12, none⟩ = some (.slice dirtya dirtyn dirtyc) := HB1.out.cell 12
        have d1_13 : w1.cell? ⟨w.heap.size, 13, none⟩ = some (.slice imagea imagen imagec) := HB1.out.cell 13
        go_wp2_with fail
        refine (hbefore _ HK1.out).mono ?_
        rintro e w2 ⟨rfl, hk⟩
        have HK2 := (show Hid (Same w w2) from HK1.out.trans hk)
        have HB2 := (show Hid (Blk w2 w.heap.size 35 [.int .i64 3, .int .i64 txn, .int .i64 prev, .int .i64 0, .int .i64 0, .bool beforeu, .slice beforea beforen beforec, .bool afteru, .slice aftera aftern afterc, .int .i64 0, .int .i64 0, .slice txnsa 0 txnsc, .slice dirtya dirtyn dirtyc, .slice imagea imagen imagec]) from HB1.out.same hk)
        clear hk
        have d2_0 : w2.cell? ⟨w.heap.size, 0, none⟩ = some (.int .i64 3) := HB2.out.cell 0
        have d2_1 : w2.cell? ⟨w.heap.size, 1, none⟩ = some (.int .i64 txn) := HB2.out.cell 1
        have d2_2 : w2.cell? ⟨w.heap.size, 2, none⟩ = some (.int .i64 prev) := HB2.out.cell 2
        have d2_3 : w2.cell? ⟨w.heap.size, 3, none⟩ = some (.int .i64 0) := HB2.out.cell 3
        have d2_4 : w2.cell? ⟨w.heap.size, 4, none⟩ = some (.int .i64 0) := HB2.out.cell 4
        have d2_5 : w2.cell? ⟨w.heap.size, 5, none⟩ = some (.bool beforeu) := HB2.out.cell 5
        have d2_6 : w2.cell? ⟨w.heap.size, 6, none⟩ = some (.slice beforea beforen beforec) := HB2.out.cell 6
        have d2_7 : w2.cell? ⟨w.heap.size, 7, none⟩ = some (.bool afteru) := HB2.out.cell 7
        have d2_8 : w2.cell? ⟨w.heap.size, 8, none⟩ = some (.slice aftera aftern afterc) := HB2.out.cell 8
        have d2_9 : w2.cell? ⟨w.heap.size, 9, none⟩ = some (.int .i64 0) := HB2.out.cell 9
        have d2_10 : w2.cell? ⟨w.heap.size, 10, none⟩ = some (.int .i64 0) := HB2.out.cell 10
        have d2_11 : w2.cell? ⟨w.heap.size, 11, none⟩ = some (.slice txnsa 0 txnsc) := HB2.out.cell 11
        have d2_12 : w2.cell? ⟨w.heap.size, 12, none⟩ = some (.slice dirtya dirtyn dirtyc) := HB2.out.cell 12
        have d2_13 : w2.cell? ⟨w.heap.size, 13, none⟩ = some (.slice imagea imagen imagec) := HB2.out.cell 13
        go_wp2
        go_ret
        exact ⟨by first | rfl | (simp; omega), HK2.out⟩
      subst qdirty
      rw [decide_eq_true rfl]
      by_cases qimage : imagen = 0
      case neg =>
        rw [decide_eq_false qimage]
        simp only [Bool.false_and, Bool.and_false, Bool.not_false]
        have rimage : (0 : Int) < imagen := by omega
        have HK0 := (show Hid (Same w (w.alloc (.cells #[.int .i64 3, .int .i64 txn, .int .i64 prev, .int .i64 0, .int .i64 0, .bool beforeu, .slice beforea beforen beforec, .bool afteru, .slice aftera aftern afterc, .int .i64 0, .int .i64 0, .slice txnsa 0 txnsc, .slice dirtya 0 dirtyc, .slice imagea imagen imagec] 35))) from (Kept.refl _ _).alloc _)
        have HB0 := (show Hid (Blk (w.alloc (.cells #[.int .i64 3, .int .i64 txn, .int .i64 prev, .int .i64 0, .int .i64 0, .bool beforeu, .slice beforea beforen beforec, .bool afteru, .slice aftera aftern afterc, .int .i64 0, .int .i64 0, .slice txnsa 0 txnsc, .slice dirtya 0 dirtyc, .slice imagea imagen imagec] 35)) w.heap.size 35 [.int .i64 3, .int .i64 txn, .int .i64 prev, .int .i64 0, .int .i64 0, .bool beforeu, .slice beforea beforen beforec, .bool afteru, .slice aftera aftern afterc, .int .i64 0, .int .i64 0, .slice txnsa 0 txnsc, .slice dirtya 0 dirtyc, .slice imagea imagen imagec]) from Blk.new w #[.int .i64 3, .int .i64 txn, .int .i64 prev, .int .i64 0, .int .i64 0, .bool beforeu, .slice beforea beforen beforec, .bool afteru, .slice aftera aftern afterc, .int .i64 0, .int .i64 0, .slice txnsa 0 txnsc, .slice dirtya 0 dirtyc, .slice imagea imagen imagec] 35)
        go_enter Try.func32, Try.ntmps32
        go_wp2_with fail
        refine (hafter _ HK0.out).mono ?_
        rintro e w1 ⟨rfl, hk⟩
        have HK1 := (show Hid (Same w w1) from HK0.out.trans hk)
        have HB1 := (show Hid (Blk w1 w.heap.size 35 [.int .i64 3, .int .i64 txn, .int .i64 prev, .int .i64 0, .int .i64 0, .bool beforeu, .slice beforea beforen beforec, .bool afteru, .slice aftera aftern afterc, .int .i64 0, .int .i64 0, .slice txnsa 0 txnsc, .slice dirtya 0 dirtyc, .slice imagea imagen imagec]) from HB0.out.same hk)
        clear hk
        have d1_0 : w1.cell? ⟨w.heap.size, 0, none⟩ = some (.int .i64 3) := HB1.out.cell 0
        have d1_1 : w1.cell? ⟨w.heap.size, 1, none⟩ = some (.int .i64 txn) := HB1.out.cell 1
        have d1_2 : w1.cell? ⟨w.heap.size, 2, none⟩ = some (.int .i64 prev) := HB1.out.cell 2
        have d1_3 : w1.cell? ⟨w.heap.size, 3, none⟩ = some (.int .i64 0) := HB1.out.cell 3
        have d1_4 : w1.cell? ⟨w.heap.size, 4, none⟩ = some (.int .i64 0) := HB1.out.cell 4
        have d1_5 : w1.cell? ⟨w.heap.size, 5, none⟩ = some (.bool beforeu) := HB1.out.cell 5
        have d1_6 : w1.cell? ⟨w.heap.size, 6, none⟩ = some (.slice beforea beforen beforec) := HB1.out.cell 6
        have d1_7 : w1.cell? ⟨w.heap.size, 7, none⟩ = some (.bool afteru) := HB1.out.cell 7
        have d1_8 : w1.cell? ⟨w.heap.size, 8, none⟩ = some (.slice aftera aftern afterc) := HB1.out.cell 8
        have d1_9 : w1.cell? ⟨w.heap.size, 9, none⟩ = some (.int .i64 0) := HB1.out.cell 9
        have d1_10 : w1.cell? ⟨w.heap.size, 10, none⟩ = some (.int .i64 0) := HB1.out.cell 10
        have d1_11 : w1.cell? ⟨w.heap.size, 11, none⟩ = some (.slice txnsa 0 txnsc) := HB1.out.cell 11
        have d1_12 : w1.cell? ⟨w.heap.size, 12, none⟩ = some (.slice dirtya 0 dirtyc) := HB1.out.cell 12
        have d1_13 : w1.cell? ⟨w.heap.size, 13, none⟩ = some (.slice imagea imagen imagec) := HB1.out.cell 13
        go_wp2_with fail
        refine (hbefore _ HK1.out).mono ?_
        rintro e w2 ⟨rfl, hk⟩
        have HK2 := (show Hid (Same w w2) from HK1.out.trans hk)
        have HB2 := (show Hid (Blk w2 w.heap.size 35 [.int .i64 3, .int .i64 txn, .int .i64 prev, .int .i64 0, .int .i64 0, .bool beforeu, .slice beforea beforen beforec, .bool afteru, .slice aftera aftern afterc, .int .i64 0, .int .i64 0, .slice txnsa 0 txnsc, .slice dirtya 0 dirtyc, .slice imagea imagen imagec]) from HB1.out.same hk)
        clear hk
        have d2_0 : w2.cell? ⟨w.heap.size, 0, none⟩ = some (.int .i64 3) := HB2.out.cell 0
        have d2_1 : w2.cell? ⟨w.heap.size, 1, none⟩ = some (.int .i64 txn) := HB2.out.cell 1
        have d2_2 : w2.cell? ⟨w.heap.size, 2, none⟩ = some (.int .i64 prev) := HB2.out.cell 2
        have d2_3 : w2.cell? ⟨w.heap.size, 3, none⟩ = some (.int .i64 0) := HB2.out.cell 3
        have d2_4 : w2.cell? ⟨w.heap.size, 4, none⟩ = some (.int .i64 0) := HB2.out.cell 4
        have d2_5 : w2.cell? ⟨w.heap.size, 5, none⟩ = some (.bool beforeu) := HB2.out.cell 5
        have d2_6 : w2.cell? ⟨w.heap.size, 6, none⟩ = some (.slice beforea beforen beforec) := HB2.out.cell 6
        have d2_7 : w2.cell? ⟨w.heap.size, 7, none⟩ = some (.bool afteru) := HB2.out.cell 7
        have d2_8 : w2.cell? ⟨w.heap.size, 8, none⟩ = some (.slice aftera aftern afterc) := HB2.out.cell 8
        have d2_9 : w2.cell? ⟨w.heap.size, 9, none⟩ = some (.int .i64 0) := HB2.out.cell 9
        have d2_10 : w2.cell? ⟨w.heap.size, 10, none⟩ = some (.int .i64 0) := HB2.out.cell 10
        have d2_11 : w2.cell? ⟨w.heap.size, 11, none⟩ = some (.slice txnsa 0 txnsc) := HB2.out.cell 11
        have d2_12 : w2.cell? ⟨w.heap.size, 12, none⟩ = some (.slice dirtya 0 dirtyc) := HB2.out.cell 12
        have d2_13 : w2.cell? ⟨w.heap.size, 13, none⟩ = some (.slice imagea imagen imagec) := HB2.out.cell 13
        go_wp2
        go_ret
        exact ⟨by first | rfl | (simp; omega), HK2.out⟩
      subst qimage
      rw [decide_eq_true rfl]
      simp only [Bool.and_true, Bool.and_self, Bool.not_true]
      have HK0 := (show Hid (Same w (w.alloc (.cells #[.int .i64 3, .int .i64 txn, .int .i64 prev, .int .i64 0, .int .i64 0, .bool beforeu, .slice beforea beforen beforec, .bool afteru, .slice aftera aftern afterc, .int .i64 0, .int .i64 0, .slice txnsa 0 txnsc, .slice dirtya 0 dirtyc, .slice imagea 0 imagec] 35))) from (Kept.refl _ _).alloc _)
      have HB0 := (show Hid (Blk (w.alloc (.cells #[.int .i64 3, .int .i64 txn, .int .i64 prev, .int .i64 0, .int .i64 0, .bool beforeu, .slice beforea beforen beforec, .bool afteru, .slice aftera aftern afterc, .int .i64 0, .int .i64 0, .slice txnsa 0 txnsc, .slice dirtya 0 dirtyc, .slice imagea 0 imagec] 35)) w.heap.size 35 [.int .i64 3, .int .i64 txn, .int .i64 prev, .int .i64 0, .int .i64 0, .bool beforeu, .slice beforea beforen beforec, .bool afteru, .slice aftera aftern afterc, .int .i64 0, .int .i64 0, .slice txnsa 0 txnsc, .slice dirtya 0 dirtyc, .slice imagea 0 imagec]) from Blk.new w #[.int .i64 3, .int .i64 txn, .int .i64 prev, .int .i64 0, .int .i64 0, .bool beforeu, .slice beforea beforen beforec, .bool afteru, .slice aftera aftern afterc, .int .i64 0, .int .i64 0, .slice txnsa 0 txnsc, .slice dirtya 0 dirtyc, .slice imagea 0 imagec] 35)
      go_enter Try.func32, Try.ntmps32
      go_wp2_with fail
      refine (hafter _ HK0.out).mono ?_
      rintro e w1 ⟨rfl, hk⟩
      have HK1 := (show Hid (Same w w1) from HK0.out.trans hk)
      have HB1 := (show Hid (Blk w1 w.heap.size 35 [.int .i64 3, .int .i64 txn, .int .i64 prev, .int .i64 0, .int .i64 0, .bool beforeu, .slice beforea beforen beforec, .bool afteru, .slice aftera aftern afterc, .int .i64 0, .int .i64 0, .slice txnsa 0 txnsc, .slice dirtya 0 dirtyc, .slice imagea 0 imagec]) from HB0.out.same hk)
      clear hk
      have d1_0 : w1.cell? ⟨w.heap.size, 0, none⟩ = some (.int .i64 3) := HB1.out.cell 0
      have d1_1 : w1.cell? ⟨w.heap.size, 1, none⟩ = some (.int .i64 txn) := HB1.out.cell 1
      have d1_2 : w1.cell? ⟨w.heap.size, 2, none⟩ = some (.int .i64 prev) := HB1.out.cell 2
      have d1_3 : w1.cell? ⟨w.heap.size, 3, none⟩ = some (.int .i64 0) := HB1.out.cell 3
      have d1_4 : w1.cell? ⟨w.heap.size, 4, none⟩ = some (.int .i64 0) := HB1.out.cell 4
      have d1_5 : w1.cell? ⟨w.heap.size, 5, none⟩ = some (.bool beforeu) := HB1.out.cell 5
      have d1_6 : w1.cell? ⟨w.heap.size, 6, none⟩ = some (.slice beforea beforen beforec) := HB1.out.cell 6
      have d1_7 : w1.cell? ⟨w.heap.size, 7, none⟩ = some (.bool afteru) := HB1.out.cell 7
      have d1_8 : w1.cell? ⟨w.heap.size, 8, none⟩ = some (.slice aftera aftern afterc) := HB1.out.cell 8
      have d1_9 : w1.cell? ⟨w.heap.size, 9, none⟩ = some (.int .i64 0) := HB1.out.cell 9
      have d1_10 : w1.cell? ⟨w.heap.size, 10, none⟩ = some (.int .i64 0) := HB1.out.cell 10
      have d1_11 : w1.cell? ⟨w.heap.size, 11, none⟩ = some (.slice txnsa 0 txnsc) := HB1.out.cell 11
      have d1_12 : w1.cell? ⟨w.heap.size, 12, none⟩ = some (.slice dirtya 0 dirtyc) := HB1.out.cell 12
      have d1_13 : w1.cell? ⟨w.heap.size, 13, none⟩ = some (.slice imagea 0 imagec) := HB1.out.cell 13
      go_wp2_with fail
      refine (hbefore _ HK1.out).mono ?_
      rintro e w2 ⟨rfl, hk⟩
      have HK2 := (show Hid (Same w w2) from HK1.out.trans hk)
      have HB2 := (show Hid (Blk w2 w.heap.size 35 [.int .i64 3, .int .i64 txn, .int .i64 prev, .int .i64 0, .int .i64 0, .bool beforeu, .slice beforea beforen beforec, .bool afteru, .slice aftera aftern afterc, .int .i64 0, .int .i64 0, .slice txnsa 0 txnsc, .slice dirtya 0 dirtyc, .slice imagea 0 imagec]) from HB1.out.same hk)
      clear hk
      have d2_0 : w2.cell? ⟨w.heap.size, 0, none⟩ = some (.int .i64 3) := HB2.out.cell 0
      have d2_1 : w2.cell? ⟨w.heap.size, 1, none⟩ = some (.int .i64 txn) := HB2.out.cell 1
      have d2_2 : w2.cell? ⟨w.heap.size, 2, none⟩ = some (.int .i64 prev) := HB2.out.cell 2
      have d2_3 : w2.cell? ⟨w.heap.size, 3, none⟩ = some (.int .i64 0) := HB2.out.cell 3
      have d2_4 : w2.cell? ⟨w.heap.size, 4, none⟩ = some (.int .i64 0) := HB2.out.cell 4
      have d2_5 : w2.cell? ⟨w.heap.size, 5, none⟩ = some (.bool beforeu) := HB2.out.cell 5
      have d2_6 : w2.cell? ⟨w.heap.size, 6, none⟩ = some (.slice beforea beforen beforec) := HB2.out.cell 6
      have d2_7 : w2.cell? ⟨w.heap.size, 7, none⟩ = some (.bool afteru) := HB2.out.cell 7
      have d2_8 : w2.cell? ⟨w.heap.size, 8, none⟩ = some (.slice aftera aftern afterc) := HB2.out.cell 8
      have d2_9 : w2.cell? ⟨w.heap.size, 9, none⟩ = some (.int .i64 0) := HB2.out.cell 9
      have d2_10 : w2.cell? ⟨w.heap.size, 10, none⟩ = some (.int .i64 0) := HB2.out.cell 10
      have d2_11 : w2.cell? ⟨w.heap.size, 11, none⟩ = some (.slice txnsa 0 txnsc) := HB2.out.cell 11
      have d2_12 : w2.cell? ⟨w.heap.size, 12, none⟩ = some (.slice dirtya 0 dirtyc) := HB2.out.cell 12
      have d2_13 : w2.cell? ⟨w.heap.size, 13, none⟩ = some (.slice imagea 0 imagec) := HB2.out.cell 13
      go_wp2
      go_ret
      exact ⟨rfl, HK2.out⟩
end Go.Proofs.Ytclmdpmelifplab
