/-
  spec.RecordFault, over what its parts answer: kinds 3, 4, 5.
-/
import Derived.Test.YtclmdpmelifplabTyLogRecord
namespace Go.Proofs.Ytclmdpmelifplab
open Go.RowKit
set_option linter.unusedVariables false
set_option linter.unusedSimpArgs false
set_option maxRecDepth 100000 in
set_option maxHeartbeats 16000000 in
theorem recS_3 (txn : Int) (prev : Int) (page : Int) (slot : Int) (beforeu : Bool) (beforea : Option Addr) (beforen beforec : Nat) (afteru : Bool) (aftera : Option Addr) (aftern afterc : Nat) (undoNext : Int) (nextTxn : Int) (txnsa : Option Addr) (txnsn txnsc : Nat) (dirtya : Option Addr) (dirtyn dirtyc : Nat) (imagea : Option Addr) (imagen imagec : Nat) (w : World) (EX b1 b2 b5 b6 : Bool) (PF : Int) (hkind : ∀ wx, Same w wx → Calls Try.prog 31 #[.int .i64 3, .int .i64 1, .int .i64 8] wx fun e w' => e = .returned (.bool true) ∧ Same wx w') (hex : ∀ wx, Same w wx → Calls Try.prog 32 #[.agg #[.int .i64 3, .int .i64 txn, .int .i64 prev, .int .i64 page, .int .i64 slot, .bool beforeu, .slice beforea beforen beforec, .bool afteru, .slice aftera aftern afterc, .int .i64 undoNext, .int .i64 nextTxn, .slice txnsa txnsn txnsc, .slice dirtya dirtyn dirtyc, .slice imagea imagen imagec]] wx fun e w' => e = .returned (.bool EX) ∧ Same wx w') (htxn : ∀ wx, Same w wx → Calls Try.prog 31 #[.int .i64 txn, .int .i64 1, .int .i64 2147483647] wx fun e w' => e = .returned (.bool b1) ∧ Same wx w') (hprev : ∀ wx, Same w wx → Calls Try.prog 31 #[.int .i64 prev, .int .i64 0, .int .i64 1099511627776] wx fun e w' => e = .returned (.bool b2) ∧ Same wx w') (hbef : ∀ wx, Same w wx → Calls Try.prog 33 #[.agg #[.bool beforeu, .slice beforea beforen beforec]] wx fun e w' => e = .returned (.bool b5) ∧ Same wx w') (haft : ∀ wx, Same w wx → Calls Try.prog 33 #[.agg #[.bool afteru, .slice aftera aftern afterc]] wx fun e w' => e = .returned (.bool b6) ∧ Same wx w') :
    Calls Try.prog 11 #[.agg #[.int .i64 3, .int .i64 txn, .int .i64 prev, .int .i64 page, .int .i64 slot, .bool beforeu, .slice beforea beforen beforec, .bool afteru, .slice aftera aftern afterc, .int .i64 undoNext, .int .i64 nextTxn, .slice txnsa txnsn txnsc, .slice dirtya dirtyn dirtyc, .slice imagea imagen imagec]] w fun e w' => e = .returned (.int .i64 (if EX = true then 2 else (if b1 = false then 3 else (if b2 = false then 4 else (if b5 = false then 6 else (if b6 = false then 6 else (0))))))) ∧ Same w w' := by
  have HK0 := (show Hid (Same w (w.alloc (.cells #[.int .i64 3, .int .i64 txn, .int .i64 prev, .int .i64 page, .int .i64 slot, .bool beforeu, .slice beforea beforen beforec, .bool afteru, .slice aftera aftern afterc, .int .i64 undoNext, .int .i64 nextTxn, .slice txnsa txnsn txnsc, .slice dirtya dirtyn dirtyc, .slice imagea imagen imagec] 35))) from (Kept.refl _ _).alloc _)
  have HB0 := (show Hid (Blk (w.alloc (.cells #[.int .i64 3, .int .i64 txn, .int .i64 prev, .int .i64 page, .int .i64 slot, .bool beforeu, .slice beforea beforen beforec, .bool afteru, .slice aftera aftern afterc, .int .i64 undoNext, .int .i64 nextTxn, .slice txnsa txnsn txnsc, .slice dirtya dirtyn dirtyc, .slice imagea imagen imagec] 35)) w.heap.size 35 [.int .i64 3, .int .i64 txn, .int .i64 prev, .int .i64 page, .int .i64 slot, .bool beforeu, .slice beforea beforen beforec, .bool afteru, .slice aftera aftern afterc, .int .i64 undoNext, .int .i64 nextTxn, .slice txnsa txnsn txnsc, .slice dirtya dirtyn dirtyc, .slice imagea imagen imagec]) from Blk.new w #[.int .i64 3, .int .i64 txn, .int .i64 prev, .int .i64 page, .int .i64 slot, .bool beforeu, .slice beforea beforen beforec, .bool afteru, .slice aftera aftern afterc, .int .i64 undoNext, .int .i64 nextTxn, .slice txnsa txnsn txnsc, .slice dirtya dirtyn dirtyc, .slice imagea imagen imagec] 35)
  go_enter Try.func11, Try.ntmps11
  go_wp2_with fail
  refine (hkind _ HK0.out).mono ?_
  rintro e w1 ⟨rfl, hk⟩
  have HK1 := (show Hid (Same w w1) from HK0.out.trans hk)
  have HB1 := (show Hid (Blk w1 w.heap.size 35 [.int .i64 3, .int .i64 txn, .int .i64 prev, .int .i64 page, .int .i64 slot, .bool beforeu, .slice beforea beforen beforec, .bool afteru, .slice aftera aftern afterc, .int .i64 undoNext, .int .i64 nextTxn, .slice txnsa txnsn txnsc, .slice dirtya dirtyn dirtyc, .slice imagea imagen imagec]) from HB0.out.same hk)
  clear hk HK0 HB0
  have d0 : w1.cell? ⟨w.heap.size, 0, none⟩ = some (.int .i64 3) := HB1.out.cell 0
  have d1 : w1.cell? ⟨w.heap.size, 1, none⟩ = some (.int .i64 txn) := HB1.out.cell 1
  have d2 : w1.cell? ⟨w.heap.size, 2, none⟩ = some (.int .i64 prev) := HB1.out.cell 2
  have d3 : w1.cell? ⟨w.heap.size, 3, none⟩ = some (.int .i64 page) := HB1.out.cell 3
  have d4 : w1.cell? ⟨w.heap.size, 4, none⟩ = some (.int .i64 slot) := HB1.out.cell 4
  have d5 : w1.cell? ⟨w.heap.size, 5, none⟩ = some (.bool beforeu) := HB1.out.cell 5
  have d6 : w1.cell? ⟨w.heap.size, 6, none⟩ = some (.slice beforea beforen beforec) := HB1.out.cell 6
  have d7 : w1.cell? ⟨w.heap.size, 7, none⟩ = some (.bool afteru) := HB1.out.cell 7
  have d8 : w1.cell? ⟨w.heap.size, 8, none⟩ = some (.slice aftera aftern afterc) := HB1.out.cell 8
  have d9 : w1.cell? ⟨w.heap.size, 9, none⟩ = some (.int .i64 undoNext) := HB1.out.cell 9
  have d10 : w1.cell? ⟨w.heap.size, 10, none⟩ = some (.int .i64 nextTxn) := HB1.out.cell 10
  have d11 : w1.cell? ⟨w.heap.size, 11, none⟩ = some (.slice txnsa txnsn txnsc) := HB1.out.cell 11
  have d12 : w1.cell? ⟨w.heap.size, 12, none⟩ = some (.slice dirtya dirtyn dirtyc) := HB1.out.cell 12
  have d13 : w1.cell? ⟨w.heap.size, 13, none⟩ = some (.slice imagea imagen imagec) := HB1.out.cell 13
  go_wp2_with fail
  refine (hex _ HK1.out).mono ?_
  rintro e w2 ⟨rfl, hk⟩
  clear d0 d1 d2 d3 d4 d5 d6 d7 d8 d9 d10 d11 d12 d13
  have HK2 := (show Hid (Same w w2) from HK1.out.trans hk)
  have HB2 := (show Hid (Blk w2 w.heap.size 35 [.int .i64 3, .int .i64 txn, .int .i64 prev, .int .i64 page, .int .i64 slot, .bool beforeu, .slice beforea beforen beforec, .bool afteru, .slice aftera aftern afterc, .int .i64 undoNext, .int .i64 nextTxn, .slice txnsa txnsn txnsc, .slice dirtya dirtyn dirtyc, .slice imagea imagen imagec]) from HB1.out.same hk)
  clear hk HK1 HB1
  have d0 : w2.cell? ⟨w.heap.size, 0, none⟩ = some (.int .i64 3) := HB2.out.cell 0
  have d1 : w2.cell? ⟨w.heap.size, 1, none⟩ = some (.int .i64 txn) := HB2.out.cell 1
  have d2 : w2.cell? ⟨w.heap.size, 2, none⟩ = some (.int .i64 prev) := HB2.out.cell 2
  have d3 : w2.cell? ⟨w.heap.size, 3, none⟩ = some (.int .i64 page) := HB2.out.cell 3
  have d4 : w2.cell? ⟨w.heap.size, 4, none⟩ = some (.int .i64 slot) := HB2.out.cell 4
  have d5 : w2.cell? ⟨w.heap.size, 5, none⟩ = some (.bool beforeu) := HB2.out.cell 5
  have d6 : w2.cell? ⟨w.heap.size, 6, none⟩ = some (.slice beforea beforen beforec) := HB2.out.cell 6
  have d7 : w2.cell? ⟨w.heap.size, 7, none⟩ = some (.bool afteru) := HB2.out.cell 7
  have d8 : w2.cell? ⟨w.heap.size, 8, none⟩ = some (.slice aftera aftern afterc) := HB2.out.cell 8
  have d9 : w2.cell? ⟨w.heap.size, 9, none⟩ = some (.int .i64 undoNext) := HB2.out.cell 9
  have d10 : w2.cell? ⟨w.heap.size, 10, none⟩ = some (.int .i64 nextTxn) := HB2.out.cell 10
  have d11 : w2.cell? ⟨w.heap.size, 11, none⟩ = some (.slice txnsa txnsn txnsc) := HB2.out.cell 11
  have d12 : w2.cell? ⟨w.heap.size, 12, none⟩ = some (.slice dirtya dirtyn dirtyc) := HB2.out.cell 12
  have d13 : w2.cell? ⟨w.heap.size, 13, none⟩ = some (.slice imagea imagen imagec) := HB2.out.cell 13
  cases EX with
  | true =>
    go_wp2
    go_ret
    exact ⟨by first | rfl | simp, HK2.out⟩
  | false =>
    go_wp2_with fail
    refine (htxn _ HK2.out).mono ?_
    rintro e w3 ⟨rfl, hk⟩
    clear d0 d1 d2 d3 d4 d5 d6 d7 d8 d9 d10 d11 d12 d13
    have HK3 := (show Hid (Same w w3) from HK2.out.trans hk)
    have HB3 := (show Hid (Blk w3 w.heap.size 35 [.int .i64 3, .int .i64 txn, .int .i64 prev, .int .i64 page, .int .i64 slot, .bool beforeu, .slice beforea beforen beforec, .bool afteru, .slice aftera aftern afterc, .int .i64 undoNext, .int .i64 nextTxn, .slice txnsa txnsn txnsc, .slice dirtya dirtyn dirtyc, .slice imagea imagen imagec]) from HB2.out.same hk)
    clear hk HK2 HB2
    have d0 : w3.cell? ⟨w.heap.size, 0, none⟩ = some (.int .i64 3) := HB3.out.cell 0
    have d1 : w3.cell? ⟨w.heap.size, 1, none⟩ = some (.int .i64 txn) := HB3.out.cell 1
    have d2 : w3.cell? ⟨w.heap.size, 2, none⟩ = some (.int .i64 prev) := HB3.out.cell 2
    have d3 : w3.cell? ⟨w.heap.size, 3, none⟩ = some (.int .i64 page) := HB3.out.cell 3
    have d4 : w3.cell? ⟨w.heap.size, 4, none⟩ = some (.int .i64 slot) := HB3.out.cell 4
    have d5 : w3.cell? ⟨w.heap.size, 5, none⟩ = some (.bool beforeu) := HB3.out.cell 5
    have d6 : w3.cell? ⟨w.heap.size, 6, none⟩ = some (.slice beforea beforen beforec) := HB3.out.cell 6
    have d7 : w3.cell? ⟨w.heap.size, 7, none⟩ = some (.bool afteru) := HB3.out.cell 7
    have d8 : w3.cell? ⟨w.heap.size, 8, none⟩ = some (.slice aftera aftern afterc) := HB3.out.cell 8
    have d9 : w3.cell? ⟨w.heap.size, 9, none⟩ = some (.int .i64 undoNext) := HB3.out.cell 9
    have d10 : w3.cell? ⟨w.heap.size, 10, none⟩ = some (.int .i64 nextTxn) := HB3.out.cell 10
    have d11 : w3.cell? ⟨w.heap.size, 11, none⟩ = some (.slice txnsa txnsn txnsc) := HB3.out.cell 11
    have d12 : w3.cell? ⟨w.heap.size, 12, none⟩ = some (.slice dirtya dirtyn dirtyc) := HB3.out.cell 12
    have d13 : w3.cell? ⟨w.heap.size, 13, none⟩ = some (.slice imagea imagen imagec) := HB3.out.cell 13
    cases b1 with
    | false =>
      go_wp2
      go_ret
      exact ⟨by first | rfl | simp, HK3.out⟩
    | true =>
      go_wp2_with fail
      refine (hprev _ HK3.out).mono ?_
      rintro e w4 ⟨rfl, hk⟩
      clear d0 d1 d2 d3 d4 d5 d6 d7 d8 d9 d10 d11 d12 d13
      have HK4 := (show Hid (Same w w4) from HK3.out.trans hk)
      have HB4 := (show Hid (Blk w4 w.heap.size 35 [.int .i64 3, .int .i64 txn, .int .i64 prev, .int .i64 page, .int .i64 slot, .bool beforeu, .slice beforea beforen beforec, .bool afteru, .slice aftera aftern afterc, .int .i64 undoNext, .int .i64 nextTxn, .slice txnsa txnsn txnsc, .slice dirtya dirtyn dirtyc, .slice imagea imagen imagec]) from HB3.out.same hk)
      clear hk HK3 HB3
      have d0 : w4.cell? ⟨w.heap.size, 0, none⟩ = some (.int .i64 3) := HB4.out.cell 0
      have d1 : w4.cell? ⟨w.heap.size, 1, none⟩ = some (.int .i64 txn) := HB4.out.cell 1
      have d2 : w4.cell? ⟨w.heap.size, 2, none⟩ = some (.int .i64 prev) := HB4.out.cell 2
      have d3 : w4.cell? ⟨w.heap.size, 3, none⟩ = some (.int .i64 page) := HB4.out.cell 3
      have d4 : w4.cell? ⟨w.heap.size, 4, none⟩ = some (.int .i64 slot) := HB4.out.cell 4
      have d5 : w4.cell? ⟨w.heap.size, 5, none⟩ = some (.bool beforeu) := HB4.out.cell 5
      have d6 : w4.cell? ⟨w.heap.size, 6, none⟩ = some (.slice beforea beforen beforec) := HB4.out.cell 6
      have d7 : w4.cell? ⟨w.heap.size, 7, none⟩ = some (.bool afteru) := HB4.out.cell 7
      have d8 : w4.cell? ⟨w.heap.size, 8, none⟩ = some (.slice aftera aftern afterc) := HB4.out.cell 8
      have d9 : w4.cell? ⟨w.heap.size, 9, none⟩ = some (.int .i64 undoNext) := HB4.out.cell 9
      have d10 : w4.cell? ⟨w.heap.size, 10, none⟩ = some (.int .i64 nextTxn) := HB4.out.cell 10
      have d11 : w4.cell? ⟨w.heap.size, 11, none⟩ = some (.slice txnsa txnsn txnsc) := HB4.out.cell 11
      have d12 : w4.cell? ⟨w.heap.size, 12, none⟩ = some (.slice dirtya dirtyn dirtyc) := HB4.out.cell 12
      have d13 : w4.cell? ⟨w.heap.size, 13, none⟩ = some (.slice imagea imagen imagec) := HB4.out.cell 13
      cases b2 with
      | false =>
        go_wp2
        go_ret
        exact ⟨by first | rfl | simp, HK4.out⟩
      | true =>
        go_wp2_with fail
        refine (hbef _ HK4.out).mono ?_
        rintro e w5 ⟨rfl, hk⟩
        clear d0 d1 d2 d3 d4 d5 d6 d7 d8 d9 d10 d11 d12 d13
        have HK5 := (show Hid (Same w w5) from HK4.out.trans hk)
        have HB5 := (show Hid (Blk w5 w.heap.size 35 [.int .i64 3, .int .i64 txn, .int .i64 prev, .int .i64 page, .int .i64 slot, .bool beforeu, .slice beforea beforen beforec, .bool afteru, .slice aftera aftern afterc, .int .i64 undoNext, .int .i64 nextTxn, .slice txnsa txnsn txnsc, .slice dirtya dirtyn dirtyc, .slice imagea imagen imagec]) from HB4.out.same hk)
        clear hk HK4 HB4
        have d0 : w5.cell? ⟨w.heap.size, 0, none⟩ = some (.int .i64 3) := HB5.out.cell 0
        have d1 : w5.cell? ⟨w.heap.size, 1, none⟩ = some (.int .i64 txn) := HB5.out.cell 1
        have d2 : w5.cell? ⟨w.heap.size, 2, none⟩ = some (.int .i64 prev) := HB5.out.cell 2
        have d3 : w5.cell? ⟨w.heap.size, 3, none⟩ = some (.int .i64 page) := HB5.out.cell 3
        have d4 : w5.cell? ⟨w.heap.size, 4, none⟩ = some (.int .i64 slot) := HB5.out.cell 4
        have d5 : w5.cell? ⟨w.heap.size, 5, none⟩ = some (.bool beforeu) := HB5.out.cell 5
        have d6 : w5.cell? ⟨w.heap.size, 6, none⟩ = some (.slice beforea beforen beforec) := HB5.out.cell 6
        have d7 : w5.cell? ⟨w.heap.size, 7, none⟩ = some (.bool afteru) := HB5.out.cell 7
        have d8 : w5.cell? ⟨w.heap.size, 8, none⟩ = some (.slice aftera aftern afterc) := HB5.out.cell 8
        have d9 : w5.cell? ⟨w.heap.size, 9, none⟩ = some (.int .i64 undoNext) := HB5.out.cell 9
        have d10 : w5.cell? ⟨w.heap.size, 10, none⟩ = some (.int .i64 nextTxn) := HB5.out.cell 10
        have d11 : w5.cell? ⟨w.heap.size, 11, none⟩ = some (.slice txnsa txnsn txnsc) := HB5.out.cell 11
        have d12 : w5.cell? ⟨w.heap.size, 12, none⟩ = some (.slice dirtya dirtyn dirtyc) := HB5.out.cell 12
        have d13 : w5.cell? ⟨w.heap.size, 13, none⟩ = some (.slice imagea imagen imagec) := HB5.out.cell 13
        cases b5 with
        | false =>
          go_wp2
          go_ret
          exact ⟨by first | rfl | simp, HK5.out⟩
        | true =>
          go_wp2_with fail
          refine (haft _ HK5.out).mono ?_
          rintro e w6 ⟨rfl, hk⟩
          clear d0 d1 d2 d3 d4 d5 d6 d7 d8 d9 d10 d11 d12 d13
          have HK6 := (show Hid (Same w w6) from HK5.out.trans hk)
          have HB6 := (show Hid (Blk w6 w.heap.size 35 [.int .i64 3, .int .i64 txn, .int .i64 prev, .int .i64 page, .int .i64 slot, .bool beforeu, .slice beforea beforen beforec, .bool afteru, .slice aftera aftern afterc, .int .i64 undoNext, .int .i64 nextTxn, .slice txnsa txnsn txnsc, .slice dirtya dirtyn dirtyc, .slice imagea imagen imagec]) from HB5.out.same hk)
          clear hk HK5 HB5
          have d0 : w6.cell? ⟨w.heap.size, 0, none⟩ = some (.int .i64 3) := HB6.out.cell 0
          have d1 : w6.cell? ⟨w.heap.size, 1, none⟩ = some (.int .i64 txn) := HB6.out.cell 1
          have d2 : w6.cell? ⟨w.heap.size, 2, none⟩ = some (.int .i64 prev) := HB6.out.cell 2
          have d3 : w6.cell? ⟨w.heap.size, 3, none⟩ = some (.int .i64 page) := HB6.out.cell 3
          have d4 : w6.cell? ⟨w.heap.size, 4, none⟩ = some (.int .i64 slot) := HB6.out.cell 4
          have d5 : w6.cell? ⟨w.heap.size, 5, none⟩ = some (.bool beforeu) := HB6.out.cell 5
          have d6 : w6.cell? ⟨w.heap.size, 6, none⟩ = some (.slice beforea beforen beforec) := HB6.out.cell 6
          have d7 : w6.cell? ⟨w.heap.size, 7, none⟩ = some (.bool afteru) := HB6.out.cell 7
          have d8 : w6.cell? ⟨w.heap.size, 8, none⟩ = some (.slice aftera aftern afterc) := HB6.out.cell 8
          have d9 : w6.cell? ⟨w.heap.size, 9, none⟩ = some (.int .i64 undoNext) := HB6.out.cell 9
          have d10 : w6.cell? ⟨w.heap.size, 10, none⟩ = some (.int .i64 nextTxn) := HB6.out.cell 10
          have d11 : w6.cell? ⟨w.heap.size, 11, none⟩ = some (.slice txnsa txnsn txnsc) := HB6.out.cell 11
          have d12 : w6.cell? ⟨w.heap.size, 12, none⟩ = some (.slice dirtya dirtyn dirtyc) := HB6.out.cell 12
          have d13 : w6.cell? ⟨w.heap.size, 13, none⟩ = some (.slice imagea imagen imagec) := HB6.out.cell 13
          cases b6 with
          | false =>
            go_wp2
            go_ret
            exact ⟨by first | rfl | simp, HK6.out⟩
          | true =>
            go_wp2
            go_ret
            exact ⟨by first | rfl | simp, HK6.out⟩
set_option maxRecDepth 100000 in
set_option maxHeartbeats 16000000 in
theorem recS_4 (txn : Int) (prev : Int) (page : Int) (slot : Int) (beforeu : Bool) (beforea : Option Addr) (beforen beforec : Nat) (afteru : Bool) (aftera : Option Addr) (aftern afterc : Nat) (undoNext : Int) (nextTxn : Int) (txnsa : Option Addr) (txnsn txnsc : Nat) (dirtya : Option Addr) (dirtyn dirtyc : Nat) (imagea : Option Addr) (imagen imagec : Nat) (w : World) (EX b1 b2 b5 b6 : Bool) (PF : Int) (hkind : ∀ wx, Same w wx → Calls Try.prog 31 #[.int .i64 4, .int .i64 1, .int .i64 8] wx fun e w' => e = .returned (.bool true) ∧ Same wx w') (hex : ∀ wx, Same w wx → Calls Try.prog 32 #[.agg #[.int .i64 4, .int .i64 txn, .int .i64 prev, .int .i64 page, .int .i64 slot, .bool beforeu, .slice beforea beforen beforec, .bool afteru, .slice aftera aftern afterc, .int .i64 undoNext, .int .i64 nextTxn, .slice txnsa txnsn txnsc, .slice dirtya dirtyn dirtyc, .slice imagea imagen imagec]] wx fun e w' => e = .returned (.bool EX) ∧ Same wx w') (htxn : ∀ wx, Same w wx → Calls Try.prog 31 #[.int .i64 txn, .int .i64 1, .int .i64 2147483647] wx fun e w' => e = .returned (.bool b1) ∧ Same wx w') (hprev : ∀ wx, Same w wx → Calls Try.prog 31 #[.int .i64 prev, .int .i64 0, .int .i64 1099511627776] wx fun e w' => e = .returned (.bool b2) ∧ Same wx w') (hbef : ∀ wx, Same w wx → Calls Try.prog 33 #[.agg #[.bool beforeu, .slice beforea beforen beforec]] wx fun e w' => e = .returned (.bool b5) ∧ Same wx w') (haft : ∀ wx, Same w wx → Calls Try.prog 33 #[.agg #[.bool afteru, .slice aftera aftern afterc]] wx fun e w' => e = .returned (.bool b6) ∧ Same wx w') :
    Calls Try.prog 11 #[.agg #[.int .i64 4, .int .i64 txn, .int .i64 prev, .int .i64 page, .int .i64 slot, .bool beforeu, .slice beforea beforen beforec, .bool afteru, .slice aftera aftern afterc, .int .i64 undoNext, .int .i64 nextTxn, .slice txnsa txnsn txnsc, .slice dirtya dirtyn dirtyc, .slice imagea imagen imagec]] w fun e w' => e = .returned (.int .i64 (if EX = true then 2 else (if b1 = false then 3 else (if b2 = false then 4 else (if b5 = false then 6 else (if b6 = false then 6 else (0))))))) ∧ Same w w' := by
  have HK0 := (show Hid (Same w (w.alloc (.cells #[.int .i64 4, .int .i64 txn, .int .i64 prev, .int .i64 page, .int .i64 slot, .bool beforeu, .slice beforea beforen beforec, .bool afteru, .slice aftera aftern afterc, .int .i64 undoNext, .int .i64 nextTxn, .slice txnsa txnsn txnsc, .slice dirtya dirtyn dirtyc, .slice imagea imagen imagec] 35))) from (Kept.refl _ _).alloc _)
  have HB0 := (show Hid (Blk (w.alloc (.cells #[.int .i64 4, .int .i64 txn, .int .i64 prev, .int .i64 page, .int .i64 slot, .bool beforeu, .slice beforea beforen beforec, .bool afteru, .slice aftera aftern afterc, .int .i64 undoNext, .int .i64 nextTxn, .slice txnsa txnsn txnsc, .slice dirtya dirtyn dirtyc, .slice imagea imagen imagec] 35)) w.heap.size 35 [.int .i64 4, .int .i64 txn, .int .i64 prev, .int .i64 page, .int .i64 slot, .bool beforeu, .slice beforea beforen beforec, .bool afteru, .slice aftera aftern afterc, .int .i64 undoNext, .int .i64 nextTxn, .slice txnsa txnsn txnsc, .slice dirtya dirtyn dirtyc, .slice imagea imagen imagec]) from Blk.new w #[.int .i64 4, .int .i64 txn, .int .i64 prev, .int .i64 page, .int .i64 slot, .bool beforeu, .slice beforea beforen beforec, .bool afteru, .slice aftera aftern afterc, .int .i64 undoNext, .int .i64 nextTxn, .slice txnsa txnsn txnsc, .slice dirtya dirtyn dirtyc, .slice imagea imagen imagec] 35)
  go_enter Try.func11, Try.ntmps11
  go_wp2_with fail
  refine (hkind _ HK0.out).mono ?_
  rintro e w1 ⟨rfl, hk⟩
  have HK1 := (show Hid (Same w w1) from HK0.out.trans hk)
  have HB1 := (show Hid (Blk w1 w.heap.size 35 [.int .i64 4, .int .i64 txn, .int .i64 prev, .int .i64 page, .int .i64 slot, .bool beforeu, .slice beforea beforen beforec, .bool afteru, .slice aftera aftern afterc, .int .i64 undoNext, .int .i64 nextTxn, .slice txnsa txnsn txnsc, .slice dirtya dirtyn dirtyc, .slice imagea imagen imagec]) from HB0.out.same hk)
  clear hk HK0 HB0
  have d0 : w1.cell? ⟨w.heap.size, 0, none⟩ = some (.int .i64 4) := HB1.out.cell 0
  have d1 : w1.cell? ⟨w.heap.size, 1, none⟩ = some (.int .i64 txn) := HB1.out.cell 1
  have d2 : w1.cell? ⟨w.heap.size, 2, none⟩ = some (.int .i64 prev) := HB1.out.cell 2
  have d3 : w1.cell? ⟨w.heap.size, 3, none⟩ = some (.int .i64 page) := HB1.out.cell 3
  have d4 : w1.cell? ⟨w.heap.size, 4, none⟩ = some (.int .i64 slot) := HB1.out.cell 4
  have d5 : w1.cell? ⟨w.heap.size, 5, none⟩ = some (.bool beforeu) := HB1.out.cell 5
  have d6 : w1.cell? ⟨w.heap.size, 6, none⟩ = some (.slice beforea beforen beforec) := HB1.out.cell 6
  have d7 : w1.cell? ⟨w.heap.size, 7, none⟩ = some (.bool afteru) := HB1.out.cell 7
  have d8 : w1.cell? ⟨w.heap.size, 8, none⟩ = some (.slice aftera aftern afterc) := HB1.out.cell 8
  have d9 : w1.cell? ⟨w.heap.size, 9, none⟩ = some (.int .i64 undoNext) := HB1.out.cell 9
  have d10 : w1.cell? ⟨w.heap.size, 10, none⟩ = some (.int .i64 nextTxn) := HB1.out.cell 10
  have d11 : w1.cell? ⟨w.heap.size, 11, none⟩ = some (.slice txnsa txnsn txnsc) := HB1.out.cell 11
  have d12 : w1.cell? ⟨w.heap.size, 12, none⟩ = some (.slice dirtya dirtyn dirtyc) := HB1.out.cell 12
  have d13 : w1.cell? ⟨w.heap.size, 13, none⟩ = some (.slice imagea imagen imagec) := HB1.out.cell 13
  go_wp2_with fail
  refine (hex _ HK1.out).mono ?_
  rintro e w2 ⟨rfl, hk⟩
  clear d0 d1 d2 d3 d4 d5 d6 d7 d8 d9 d10 d11 d12 d13
  have HK2 := (show Hid (Same w w2) from HK1.out.trans hk)
  have HB2 := (show Hid (Blk w2 w.heap.size 35 [.int .i64 4, .int .i64 txn, .int .i64 prev, .int .i64 page, .int .i64 slot, .bool beforeu, .slice beforea beforen beforec, .bool afteru, .slice aftera aftern afterc, .int .i64 undoNext, .int .i64 nextTxn, .slice txnsa txnsn txnsc, .slice dirtya dirtyn dirtyc, .slice imagea imagen imagec]) from HB1.out.same hk)
  clear hk HK1 HB1
  have d0 : w2.cell? ⟨w.heap.size, 0, none⟩ = some (.int .i64 4) := HB2.out.cell 0
  have d1 : w2.cell? ⟨w.heap.size, 1, none⟩ = some (.int .i64 txn) := HB2.out.cell 1
  have d2 : w2.cell? ⟨w.heap.size, 2, none⟩ = some (.int .i64 prev) := HB2.out.cell 2
  have d3 : w2.cell? ⟨w.heap.size, 3, none⟩ = some (.int .i64 page) := HB2.out.cell 3
  have d4 : w2.cell? ⟨w.heap.size, 4, none⟩ = some (.int .i64 slot) := HB2.out.cell 4
  have d5 : w2.cell? ⟨w.heap.size, 5, none⟩ = some (.bool beforeu) := HB2.out.cell 5
  have d6 : w2.cell? ⟨w.heap.size, 6, none⟩ = some (.slice beforea beforen beforec) := HB2.out.cell 6
  have d7 : w2.cell? ⟨w.heap.size, 7, none⟩ = some (.bool afteru) := HB2.out.cell 7
  have d8 : w2.cell? ⟨w.heap.size, 8, none⟩ = some (.slice aftera aftern afterc) := HB2.out.cell 8
  have d9 : w2.cell? ⟨w.heap.size, 9, none⟩ = some (.int .i64 undoNext) := HB2.out.cell 9
  have d10 : w2.cell? ⟨w.heap.size, 10, none⟩ = some (.int .i64 nextTxn) := HB2.out.cell 10
  have d11 : w2.cell? ⟨w.heap.size, 11, none⟩ = some (.slice txnsa txnsn txnsc) := HB2.out.cell 11
  have d12 : w2.cell? ⟨w.heap.size, 12, none⟩ = some (.slice dirtya dirtyn dirtyc) := HB2.out.cell 12
  have d13 : w2.cell? ⟨w.heap.size, 13, none⟩ = some (.slice imagea imagen imagec) := HB2.out.cell 13
  cases EX with
  | true =>
    go_wp2
    go_ret
    exact ⟨by first | rfl | simp, HK2.out⟩
  | false =>
    go_wp2_with fail
    refine (htxn _ HK2.out).mono ?_
    rintro e w3 ⟨rfl, hk⟩
    clear d0 d1 d2 d3 d4 d5 d6 d7 d8 d9 d10 d11 d12 d13
    have HK3 := (show Hid (Same w w3) from HK2.out.trans hk)
    have HB3 := (show Hid (Blk w3 w.heap.size 35 [.int .i64 4, .int .i64 txn, .int .i64 prev, .int .i64 page, .int .i64 slot, .bool beforeu, .slice beforea beforen beforec, .bool afteru, .slice aftera aftern afterc, .int .i64 undoNext, .int .i64 nextTxn, .slice txnsa txnsn txnsc, .slice dirtya dirtyn dirtyc, .slice imagea imagen imagec]) from HB2.out.same hk)
    clear hk HK2 HB2
    have d0 : w3.cell? ⟨w.heap.size, 0, none⟩ = some (.int .i64 4) := HB3.out.cell 0
    have d1 : w3.cell? ⟨w.heap.size, 1, none⟩ = some (.int .i64 txn) := HB3.out.cell 1
    have d2 : w3.cell? ⟨w.heap.size, 2, none⟩ = some (.int .i64 prev) := HB3.out.cell 2
    have d3 : w3.cell? ⟨w.heap.size, 3, none⟩ = some (.int .i64 page) := HB3.out.cell 3
    have d4 : w3.cell? ⟨w.heap.size, 4, none⟩ = some (.int .i64 slot) := HB3.out.cell 4
    have d5 : w3.cell? ⟨w.heap.size, 5, none⟩ = some (.bool beforeu) := HB3.out.cell 5
    have d6 : w3.cell? ⟨w.heap.size, 6, none⟩ = some (.slice beforea beforen beforec) := HB3.out.cell 6
    have d7 : w3.cell? ⟨w.heap.size, 7, none⟩ = some (.bool afteru) := HB3.out.cell 7
    have d8 : w3.cell? ⟨w.heap.size, 8, none⟩ = some (.slice aftera aftern afterc) := HB3.out.cell 8
    have d9 : w3.cell? ⟨w.heap.size, 9, none⟩ = some (.int .i64 undoNext) := HB3.out.cell 9
    have d10 : w3.cell? ⟨w.heap.size, 10, none⟩ = some (.int .i64 nextTxn) := HB3.out.cell 10
    have d11 : w3.cell? ⟨w.heap.size, 11, none⟩ = some (.slice txnsa txnsn txnsc) := HB3.out.cell 11
    have d12 : w3.cell? ⟨w.heap.size, 12, none⟩ = some (.slice dirtya dirtyn dirtyc) := HB3.out.cell 12
    have d13 : w3.cell? ⟨w.heap.size, 13, none⟩ = some (.slice imagea imagen imagec) := HB3.out.cell 13
    cases b1 with
    | false =>
      go_wp2
      go_ret
      exact ⟨by first | rfl | simp, HK3.out⟩
    | true =>
      go_wp2_with fail
      refine (hprev _ HK3.out).mono ?_
      rintro e w4 ⟨rfl, hk⟩
      clear d0 d1 d2 d3 d4 d5 d6 d7 d8 d9 d10 d11 d12 d13
      have HK4 := (show Hid (Same w w4) from HK3.out.trans hk)
      have HB4 := (show Hid (Blk w4 w.heap.size 35 [.int .i64 4, .int .i64 txn, .int .i64 prev, .int .i64 page, .int .i64 slot, .bool beforeu, .slice beforea beforen beforec, .bool afteru, .slice aftera aftern afterc, .int .i64 undoNext, .int .i64 nextTxn, .slice txnsa txnsn txnsc, .slice dirtya dirtyn dirtyc, .slice imagea imagen imagec]) from HB3.out.same hk)
      clear hk HK3 HB3
      have d0 : w4.cell? ⟨w.heap.size, 0, none⟩ = some (.int .i64 4) := HB4.out.cell 0
      have d1 : w4.cell? ⟨w.heap.size, 1, none⟩ = some (.int .i64 txn) := HB4.out.cell 1
      have d2 : w4.cell? ⟨w.heap.size, 2, none⟩ = some (.int .i64 prev) := HB4.out.cell 2
      have d3 : w4.cell? ⟨w.heap.size, 3, none⟩ = some (.int .i64 page) := HB4.out.cell 3
      have d4 : w4.cell? ⟨w.heap.size, 4, none⟩ = some (.int .i64 slot) := HB4.out.cell 4
      have d5 : w4.cell? ⟨w.heap.size, 5, none⟩ = some (.bool beforeu) := HB4.out.cell 5
      have d6 : w4.cell? ⟨w.heap.size, 6, none⟩ = some (.slice beforea beforen beforec) := HB4.out.cell 6
      have d7 : w4.cell? ⟨w.heap.size, 7, none⟩ = some (.bool afteru) := HB4.out.cell 7
      have d8 : w4.cell? ⟨w.heap.size, 8, none⟩ = some (.slice aftera aftern afterc) := HB4.out.cell 8
      have d9 : w4.cell? ⟨w.heap.size, 9, none⟩ = some (.int .i64 undoNext) := HB4.out.cell 9
      have d10 : w4.cell? ⟨w.heap.size, 10, none⟩ = some (.int .i64 nextTxn) := HB4.out.cell 10
      have d11 : w4.cell? ⟨w.heap.size, 11, none⟩ = some (.slice txnsa txnsn txnsc) := HB4.out.cell 11
      have d12 : w4.cell? ⟨w.heap.size, 12, none⟩ = some (.slice dirtya dirtyn dirtyc) := HB4.out.cell 12
      have d13 : w4.cell? ⟨w.heap.size, 13, none⟩ = some (.slice imagea imagen imagec) := HB4.out.cell 13
      cases b2 with
      | false =>
        go_wp2
        go_ret
        exact ⟨by first | rfl | simp, HK4.out⟩
      | true =>
        go_wp2_with fail
        refine (hbef _ HK4.out).mono ?_
        rintro e w5 ⟨rfl, hk⟩
        clear d0 d1 d2 d3 d4 d5 d6 d7 d8 d9 d10 d11 d12 d13
        have HK5 := (show Hid (Same w w5) from HK4.out.trans hk)
        have HB5 := (show Hid (Blk w5 w.heap.size 35 [.int .i64 4, .int .i64 txn, .int .i64 prev, .int .i64 page, .int .i64 slot, .bool beforeu, .slice beforea beforen beforec, .bool afteru, .slice aftera aftern afterc, .int .i64 undoNext, .int .i64 nextTxn, .slice txnsa txnsn txnsc, .slice dirtya dirtyn dirtyc, .slice imagea imagen imagec]) from HB4.out.same hk)
        clear hk HK4 HB4
        have d0 : w5.cell? ⟨w.heap.size, 0, none⟩ = some (.int .i64 4) := HB5.out.cell 0
        have d1 : w5.cell? ⟨w.heap.size, 1, none⟩ = some (.int .i64 txn) := HB5.out.cell 1
        have d2 : w5.cell? ⟨w.heap.size, 2, none⟩ = some (.int .i64 prev) := HB5.out.cell 2
        have d3 : w5.cell? ⟨w.heap.size, 3, none⟩ = some (.int .i64 page) := HB5.out.cell 3
        have d4 : w5.cell? ⟨w.heap.size, 4, none⟩ = some (.int .i64 slot) := HB5.out.cell 4
        have d5 : w5.cell? ⟨w.heap.size, 5, none⟩ = some (.bool beforeu) := HB5.out.cell 5
        have d6 : w5.cell? ⟨w.heap.size, 6, none⟩ = some (.slice beforea beforen beforec) := HB5.out.cell 6
        have d7 : w5.cell? ⟨w.heap.size, 7, none⟩ = some (.bool afteru) := HB5.out.cell 7
        have d8 : w5.cell? ⟨w.heap.size, 8, none⟩ = some (.slice aftera aftern afterc) := HB5.out.cell 8
        have d9 : w5.cell? ⟨w.heap.size, 9, none⟩ = some (.int .i64 undoNext) := HB5.out.cell 9
        have d10 : w5.cell? ⟨w.heap.size, 10, none⟩ = some (.int .i64 nextTxn) := HB5.out.cell 10
        have d11 : w5.cell? ⟨w.heap.size, 11, none⟩ = some (.slice txnsa txnsn txnsc) := HB5.out.cell 11
        have d12 : w5.cell? ⟨w.heap.size, 12, none⟩ = some (.slice dirtya dirtyn dirtyc) := HB5.out.cell 12
        have d13 : w5.cell? ⟨w.heap.size, 13, none⟩ = some (.slice imagea imagen imagec) := HB5.out.cell 13
        cases b5 with
        | false =>
          go_wp2
          go_ret
          exact ⟨by first | rfl | simp, HK5.out⟩
        | true =>
          go_wp2_with fail
          refine (haft _ HK5.out).mono ?_
          rintro e w6 ⟨rfl, hk⟩
          clear d0 d1 d2 d3 d4 d5 d6 d7 d8 d9 d10 d11 d12 d13
          have HK6 := (show Hid (Same w w6) from HK5.out.trans hk)
          have HB6 := (show Hid (Blk w6 w.heap.size 35 [.int .i64 4, .int .i64 txn, .int .i64 prev, .int .i64 page, .int .i64 slot, .bool beforeu, .slice beforea beforen beforec, .bool afteru, .slice aftera aftern afterc, .int .i64 undoNext, .int .i64 nextTxn, .slice txnsa txnsn txnsc, .slice dirtya dirtyn dirtyc, .slice imagea imagen imagec]) from HB5.out.same hk)
          clear hk HK5 HB5
          have d0 : w6.cell? ⟨w.heap.size, 0, none⟩ = some (.int .i64 4) := HB6.out.cell 0
          have d1 : w6.cell? ⟨w.heap.size, 1, none⟩ = some (.int .i64 txn) := HB6.out.cell 1
          have d2 : w6.cell? ⟨w.heap.size, 2, none⟩ = some (.int .i64 prev) := HB6.out.cell 2
          have d3 : w6.cell? ⟨w.heap.size, 3, none⟩ = some (.int .i64 page) := HB6.out.cell 3
          have d4 : w6.cell? ⟨w.heap.size, 4, none⟩ = some (.int .i64 slot) := HB6.out.cell 4
          have d5 : w6.cell? ⟨w.heap.size, 5, none⟩ = some (.bool beforeu) := HB6.out.cell 5
          have d6 : w6.cell? ⟨w.heap.size, 6, none⟩ = some (.slice beforea beforen beforec) := HB6.out.cell 6
          have d7 : w6.cell? ⟨w.heap.size, 7, none⟩ = some (.bool afteru) := HB6.out.cell 7
          have d8 : w6.cell? ⟨w.heap.size, 8, none⟩ = some (.slice aftera aftern afterc) := HB6.out.cell 8
          have d9 : w6.cell? ⟨w.heap.size, 9, none⟩ = some (.int .i64 undoNext) := HB6.out.cell 9
          have d10 : w6.cell? ⟨w.heap.size, 10, none⟩ = some (.int .i64 nextTxn) := HB6.out.cell 10
          have d11 : w6.cell? ⟨w.heap.size, 11, none⟩ = some (.slice txnsa txnsn txnsc) := HB6.out.cell 11
          have d12 : w6.cell? ⟨w.heap.size, 12, none⟩ = some (.slice dirtya dirtyn dirtyc) := HB6.out.cell 12
          have d13 : w6.cell? ⟨w.heap.size, 13, none⟩ = some (.slice imagea imagen imagec) := HB6.out.cell 13
          cases b6 with
          | false =>
            go_wp2
            go_ret
            exact ⟨by first | rfl | simp, HK6.out⟩
          | true =>
            go_wp2
            go_ret
            exact ⟨by first | rfl | simp, HK6.out⟩
set_option maxRecDepth 100000 in
set_option maxHeartbeats 16000000 in
theorem recS_5 (txn : Int) (prev : Int) (page : Int) (slot : Int) (beforeu : Bool) (beforea : Option Addr) (beforen beforec : Nat) (afteru : Bool) (aftera : Option Addr) (aftern afterc : Nat) (undoNext : Int) (nextTxn : Int) (txnsa : Option Addr) (txnsn txnsc : Nat) (dirtya : Option Addr) (dirtyn dirtyc : Nat) (imagea : Option Addr) (imagen imagec : Nat) (w : World) (EX b1 b2 b5 b6 : Bool) (PF : Int) (hkind : ∀ wx, Same w wx → Calls Try.prog 31 #[.int .i64 5, .int .i64 1, .int .i64 8] wx fun e w' => e = .returned (.bool true) ∧ Same wx w') (hex : ∀ wx, Same w wx → Calls Try.prog 32 #[.agg #[.int .i64 5, .int .i64 txn, .int .i64 prev, .int .i64 page, .int .i64 slot, .bool beforeu, .slice beforea beforen beforec, .bool afteru, .slice aftera aftern afterc, .int .i64 undoNext, .int .i64 nextTxn, .slice txnsa txnsn txnsc, .slice dirtya dirtyn dirtyc, .slice imagea imagen imagec]] wx fun e w' => e = .returned (.bool EX) ∧ Same wx w') (htxn : ∀ wx, Same w wx → Calls Try.prog 31 #[.int .i64 txn, .int .i64 1, .int .i64 2147483647] wx fun e w' => e = .returned (.bool b1) ∧ Same wx w') (hprev : ∀ wx, Same w wx → Calls Try.prog 31 #[.int .i64 prev, .int .i64 0, .int .i64 1099511627776] wx fun e w' => e = .returned (.bool b2) ∧ Same wx w') (hbef : ∀ wx, Same w wx → Calls Try.prog 33 #[.agg #[.bool beforeu, .slice beforea beforen beforec]] wx fun e w' => e = .returned (.bool b5) ∧ Same wx w') (haft : ∀ wx, Same w wx → Calls Try.prog 33 #[.agg #[.bool afteru, .slice aftera aftern afterc]] wx fun e w' => e = .returned (.bool b6) ∧ Same wx w') :
    Calls Try.prog 11 #[.agg #[.int .i64 5, .int .i64 txn, .int .i64 prev, .int .i64 page, .int .i64 slot, .bool beforeu, .slice beforea beforen beforec, .bool afteru, .slice aftera aftern afterc, .int .i64 undoNext, .int .i64 nextTxn, .slice txnsa txnsn txnsc, .slice dirtya dirtyn dirtyc, .slice imagea imagen imagec]] w fun e w' => e = .returned (.int .i64 (if EX = true then 2 else (if b1 = false then 3 else (if b2 = false then 4 else (if b5 = false then 6 else (if b6 = false then 6 else (0))))))) ∧ Same w w' := by
  have HK0 := (show Hid (Same w (w.alloc (.cells #[.int .i64 5, .int .i64 txn, .int .i64 prev, .int .i64 page, .int .i64 slot, .bool beforeu, .slice beforea beforen beforec, .bool afteru, .slice aftera aftern afterc, .int .i64 undoNext, .int .i64 nextTxn, .slice txnsa txnsn txnsc, .slice dirtya dirtyn dirtyc, .slice imagea imagen imagec] 35))) from (Kept.refl _ _).alloc _)
  have HB0 := (show Hid (Blk (w.alloc (.cells #[.int .i64 5, .int .i64 txn, .int .i64 prev, .int .i64 page, .int .i64 slot, .bool beforeu, .slice beforea beforen beforec, .bool afteru, .slice aftera aftern afterc, .int .i64 undoNext, .int .i64 nextTxn, .slice txnsa txnsn txnsc, .slice dirtya dirtyn dirtyc, .slice imagea imagen imagec] 35)) w.heap.size 35 [.int .i64 5, .int .i64 txn, .int .i64 prev, .int .i64 page, .int .i64 slot, .bool beforeu, .slice beforea beforen beforec, .bool afteru, .slice aftera aftern afterc, .int .i64 undoNext, .int .i64 nextTxn, .slice txnsa txnsn txnsc, .slice dirtya dirtyn dirtyc, .slice imagea imagen imagec]) from Blk.new w #[.int .i64 5, .int .i64 txn, .int .i64 prev, .int .i64 page, .int .i64 slot, .bool beforeu, .slice beforea beforen beforec, .bool afteru, .slice aftera aftern afterc, .int .i64 undoNext, .int .i64 nextTxn, .slice txnsa txnsn txnsc, .slice dirtya dirtyn dirtyc, .slice imagea imagen imagec] 35)
  go_enter Try.func11, Try.ntmps11
  go_wp2_with fail
  refine (hkind _ HK0.out).mono ?_
  rintro e w1 ⟨rfl, hk⟩
  have HK1 := (show Hid (Same w w1) from HK0.out.trans hk)
  have HB1 := (show Hid (Blk w1 w.heap.size 35 [.int .i64 5, .int .i64 txn, .int .i64 prev, .int .i64 page, .int .i64 slot, .bool beforeu, .slice beforea beforen beforec, .bool afteru, .slice aftera aftern afterc, .int .i64 undoNext, .int .i64 nextTxn, .slice txnsa txnsn txnsc, .slice dirtya dirtyn dirtyc, .slice imagea imagen imagec]) from HB0.out.same hk)
  clear hk HK0 HB0
  have d0 : w1.cell? ⟨w.heap.size, 0, none⟩ = some (.int .i64 5) := HB1.out.cell 0
  have d1 : w1.cell? ⟨w.heap.size, 1, none⟩ = some (.int .i64 txn) := HB1.out.cell 1
  have d2 : w1.cell? ⟨w.heap.size, 2, none⟩ = some (.int .i64 prev) := HB1.out.cell 2
  have d3 : w1.cell? ⟨w.heap.size, 3, none⟩ = some (.int .i64 page) := HB1.out.cell 3
  have d4 : w1.cell? ⟨w.heap.size, 4, none⟩ = some (.int .i64 slot) := HB1.out.cell 4
  have d5 : w1.cell? ⟨w.heap.size, 5, none⟩ = some (.bool beforeu) := HB1.out.cell 5
  have d6 : w1.cell? ⟨w.heap.size, 6, none⟩ = some (.slice beforea beforen beforec) := HB1.out.cell 6
  have d7 : w1.cell? ⟨w.heap.size, 7, none⟩ = some (.bool afteru) := HB1.out.cell 7
  have d8 : w1.cell? ⟨w.heap.size, 8, none⟩ = some (.slice aftera aftern afterc) := HB1.out.cell 8
  have d9 : w1.cell? ⟨w.heap.size, 9, none⟩ = some (.int .i64 undoNext) := HB1.out.cell 9
  have d10 : w1.cell? ⟨w.heap.size, 10, none⟩ = some (.int .i64 nextTxn) := HB1.out.cell 10
  have d11 : w1.cell? ⟨w.heap.size, 11, none⟩ = some (.slice txnsa txnsn txnsc) := HB1.out.cell 11
  have d12 : w1.cell? ⟨w.heap.size, 12, none⟩ = some (.slice dirtya dirtyn dirtyc) := HB1.out.cell 12
  have d13 : w1.cell? ⟨w.heap.size, 13, none⟩ = some (.slice imagea imagen imagec) := HB1.out.cell 13
  go_wp2_with fail
  refine (hex _ HK1.out).mono ?_
  rintro e w2 ⟨rfl, hk⟩
  clear d0 d1 d2 d3 d4 d5 d6 d7 d8 d9 d10 d11 d12 d13
  have HK2 := (show Hid (Same w w2) from HK1.out.trans hk)
  have HB2 := (show Hid (Blk w2 w.heap.size 35 [.int .i64 5, .int .i64 txn, .int .i64 prev, .int .i64 page, .int .i64 slot, .bool beforeu, .slice beforea beforen beforec, .bool afteru, .slice aftera aftern afterc, .int .i64 undoNext, .int .i64 nextTxn, .slice txnsa txnsn txnsc, .slice dirtya dirtyn dirtyc, .slice imagea imagen imagec]) from HB1.out.same hk)
  clear hk HK1 HB1
  have d0 : w2.cell? ⟨w.heap.size, 0, none⟩ = some (.int .i64 5) := HB2.out.cell 0
  have d1 : w2.cell? ⟨w.heap.size, 1, none⟩ = some (.int .i64 txn) := HB2.out.cell 1
  have d2 : w2.cell? ⟨w.heap.size, 2, none⟩ = some (.int .i64 prev) := HB2.out.cell 2
  have d3 : w2.cell? ⟨w.heap.size, 3, none⟩ = some (.int .i64 page) := HB2.out.cell 3
  have d4 : w2.cell? ⟨w.heap.size, 4, none⟩ = some (.int .i64 slot) := HB2.out.cell 4
  have d5 : w2.cell? ⟨w.heap.size, 5, none⟩ = some (.bool beforeu) := HB2.out.cell 5
  have d6 : w2.cell? ⟨w.heap.size, 6, none⟩ = some (.slice beforea beforen beforec) := HB2.out.cell 6
  have d7 : w2.cell? ⟨w.heap.size, 7, none⟩ = some (.bool afteru) := HB2.out.cell 7
  have d8 : w2.cell? ⟨w.heap.size, 8, none⟩ = some (.slice aftera aftern afterc) := HB2.out.cell 8
  have d9 : w2.cell? ⟨w.heap.size, 9, none⟩ = some (.int .i64 undoNext) := HB2.out.cell 9
  have d10 : w2.cell? ⟨w.heap.size, 10, none⟩ = some (.int .i64 nextTxn) := HB2.out.cell 10
  have d11 : w2.cell? ⟨w.heap.size, 11, none⟩ = some (.slice txnsa txnsn txnsc) := HB2.out.cell 11
  have d12 : w2.cell? ⟨w.heap.size, 12, none⟩ = some (.slice dirtya dirtyn dirtyc) := HB2.out.cell 12
  have d13 : w2.cell? ⟨w.heap.size, 13, none⟩ = some (.slice imagea imagen imagec) := HB2.out.cell 13
  cases EX with
  | true =>
    go_wp2
    go_ret
    exact ⟨by first | rfl | simp, HK2.out⟩
  | false =>
    go_wp2_with fail
    refine (htxn _ HK2.out).mono ?_
    rintro e w3 ⟨rfl, hk⟩
    clear d0 d1 d2 d3 d4 d5 d6 d7 d8 d9 d10 d11 d12 d13
    have HK3 := (show Hid (Same w w3) from HK2.out.trans hk)
    have HB3 := (show Hid (Blk w3 w.heap.size 35 [.int .i64 5, .int .i64 txn, .int .i64 prev, .int .i64 page, .int .i64 slot, .bool beforeu, .slice beforea beforen beforec, .bool afteru, .slice aftera aftern afterc, .int .i64 undoNext, .int .i64 nextTxn, .slice txnsa txnsn txnsc, .slice dirtya dirtyn dirtyc, .slice imagea imagen imagec]) from HB2.out.same hk)
    clear hk HK2 HB2
    have d0 : w3.cell? ⟨w.heap.size, 0, none⟩ = some (.int .i64 5) := HB3.out.cell 0
    have d1 : w3.cell? ⟨w.heap.size, 1, none⟩ = some (.int .i64 txn) := HB3.out.cell 1
    have d2 : w3.cell? ⟨w.heap.size, 2, none⟩ = some (.int .i64 prev) := HB3.out.cell 2
    have d3 : w3.cell? ⟨w.heap.size, 3, none⟩ = some (.int .i64 page) := HB3.out.cell 3
    have d4 : w3.cell? ⟨w.heap.size, 4, none⟩ = some (.int .i64 slot) := HB3.out.cell 4
    have d5 : w3.cell? ⟨w.heap.size, 5, none⟩ = some (.bool beforeu) := HB3.out.cell 5
    have d6 : w3.cell? ⟨w.heap.size, 6, none⟩ = some (.slice beforea beforen beforec) := HB3.out.cell 6
    have d7 : w3.cell? ⟨w.heap.size, 7, none⟩ = some (.bool afteru) := HB3.out.cell 7
    have d8 : w3.cell? ⟨w.heap.size, 8, none⟩ = some (.slice aftera aftern afterc) := HB3.out.cell 8
    have d9 : w3.cell? ⟨w.heap.size, 9, none⟩ = some (.int .i64 undoNext) := HB3.out.cell 9
    have d10 : w3.cell? ⟨w.heap.size, 10, none⟩ = some (.int .i64 nextTxn) := HB3.out.cell 10
    have d11 : w3.cell? ⟨w.heap.size, 11, none⟩ = some (.slice txnsa txnsn txnsc) := HB3.out.cell 11
    have d12 : w3.cell? ⟨w.heap.size, 12, none⟩ = some (.slice dirtya dirtyn dirtyc) := HB3.out.cell 12
    have d13 : w3.cell? ⟨w.heap.size, 13, none⟩ = some (.slice imagea imagen imagec) := HB3.out.cell 13
    cases b1 with
    | false =>
      go_wp2
      go_ret
      exact ⟨by first | rfl | simp, HK3.out⟩
    | true =>
      go_wp2_with fail
      refine (hprev _ HK3.out).mono ?_
      rintro e w4 ⟨rfl, hk⟩
      clear d0 d1 d2 d3 d4 d5 d6 d7 d8 d9 d10 d11 d12 d13
      have HK4 := (show Hid (Same w w4) from HK3.out.trans hk)
      have HB4 := (show Hid (Blk w4 w.heap.size 35 [.int .i64 5, .int .i64 txn, .int .i64 prev, .int .i64 page, .int .i64 slot, .bool beforeu, .slice beforea beforen beforec, .bool afteru, .slice aftera aftern afterc, .int .i64 undoNext, .int .i64 nextTxn, .slice txnsa txnsn txnsc, .slice dirtya dirtyn dirtyc, .slice imagea imagen imagec]) from HB3.out.same hk)
      clear hk HK3 HB3
      have d0 : w4.cell? ⟨w.heap.size, 0, none⟩ = some (.int .i64 5) := HB4.out.cell 0
      have d1 : w4.cell? ⟨w.heap.size, 1, none⟩ = some (.int .i64 txn) := HB4.out.cell 1
      have d2 : w4.cell? ⟨w.heap.size, 2, none⟩ = some (.int .i64 prev) := HB4.out.cell 2
      have d3 : w4.cell? ⟨w.heap.size, 3, none⟩ = some (.int .i64 page) := HB4.out.cell 3
      have d4 : w4.cell? ⟨w.heap.size, 4, none⟩ = some (.int .i64 slot) := HB4.out.cell 4
      have d5 : w4.cell? ⟨w.heap.size, 5, none⟩ = some (.bool beforeu) := HB4.out.cell 5
      have d6 : w4.cell? ⟨w.heap.size, 6, none⟩ = some (.slice beforea beforen beforec) := HB4.out.cell 6
      have d7 : w4.cell? ⟨w.heap.size, 7, none⟩ = some (.bool afteru) := HB4.out.cell 7
      have d8 : w4.cell? ⟨w.heap.size, 8, none⟩ = some (.slice aftera aftern afterc) := HB4.out.cell 8
      have d9 : w4.cell? ⟨w.heap.size, 9, none⟩ = some (.int .i64 undoNext) := HB4.out.cell 9
      have d10 : w4.cell? ⟨w.heap.size, 10, none⟩ = some (.int .i64 nextTxn) := HB4.out.cell 10
      have d11 : w4.cell? ⟨w.heap.size, 11, none⟩ = some (.slice txnsa txnsn txnsc) := HB4.out.cell 11
      have d12 : w4.cell? ⟨w.heap.size, 12, none⟩ = some (.slice dirtya dirtyn dirtyc) := HB4.out.cell 12
      have d13 : w4.cell? ⟨w.heap.size, 13, none⟩ = some (.slice imagea imagen imagec) := HB4.out.cell 13
      cases b2 with
      | false =>
        go_wp2
        go_ret
        exact ⟨by first | rfl | simp, HK4.out⟩
      | true =>
        go_wp2_with fail
        refine (hbef _ HK4.out).mono ?_
        rintro e w5 ⟨rfl, hk⟩
        clear d0 d1 d2 d3 d4 d5 d6 d7 d8 d9 d10 d11 d12 d13
        have HK5 := (show Hid (Same w w5) from HK4.out.trans hk)
        have HB5 := (show Hid (Blk w5 w.heap.size 35 [.int .i64 5, .int .i64 txn, .int .i64 prev, .int .i64 page, .int .i64 slot, .bool beforeu, .slice beforea beforen beforec, .bool afteru, .slice aftera aftern afterc, .int .i64 undoNext, .int .i64 nextTxn, .slice txnsa txnsn txnsc, .slice dirtya dirtyn dirtyc, .slice imagea imagen imagec]) from HB4.out.same hk)
        clear hk HK4 HB4
        have d0 : w5.cell? ⟨w.heap.size, 0, none⟩ = some (.int .i64 5) := HB5.out.cell 0
        have d1 : w5.cell? ⟨w.heap.size, 1, none⟩ = some (.int .i64 txn) := HB5.out.cell 1
        have d2 : w5.cell? ⟨w.heap.size, 2, none⟩ = some (.int .i64 prev) := HB5.out.cell 2
        have d3 : w5.cell? ⟨w.heap.size, 3, none⟩ = some (.int .i64 page) := HB5.out.cell 3
        have d4 : w5.cell? ⟨w.heap.size, 4, none⟩ = some (.int .i64 slot) := HB5.out.cell 4
        have d5 : w5.cell? ⟨w.heap.size, 5, none⟩ = some (.bool beforeu) := HB5.out.cell 5
        have d6 : w5.cell? ⟨w.heap.size, 6, none⟩ = some (.slice beforea beforen beforec) := HB5.out.cell 6
        have d7 : w5.cell? ⟨w.heap.size, 7, none⟩ = some (.bool afteru) := HB5.out.cell 7
        have d8 : w5.cell? ⟨w.heap.size, 8, none⟩ = some (.slice aftera aftern afterc) := HB5.out.cell 8
        have d9 : w5.cell? ⟨w.heap.size, 9, none⟩ = some (.int .i64 undoNext) := HB5.out.cell 9
        have d10 : w5.cell? ⟨w.heap.size, 10, none⟩ = some (.int .i64 nextTxn) := HB5.out.cell 10
        have d11 : w5.cell? ⟨w.heap.size, 11, none⟩ = some (.slice txnsa txnsn txnsc) := HB5.out.cell 11
        have d12 : w5.cell? ⟨w.heap.size, 12, none⟩ = some (.slice dirtya dirtyn dirtyc) := HB5.out.cell 12
        have d13 : w5.cell? ⟨w.heap.size, 13, none⟩ = some (.slice imagea imagen imagec) := HB5.out.cell 13
        cases b5 with
        | false =>
          go_wp2
          go_ret
          exact ⟨by first | rfl | simp, HK5.out⟩
        | true =>
          go_wp2_with fail
          refine (haft _ HK5.out).mono ?_
          rintro e w6 ⟨rfl, hk⟩
          clear d0 d1 d2 d3 d4 d5 d6 d7 d8 d9 d10 d11 d12 d13
          have HK6 := (show Hid (Same w w6) from HK5.out.trans hk)
          have HB6 := (show Hid (Blk w6 w.heap.size 35 [.int .i64 5, .int .i64 txn, .int .i64 prev, .int .i64 page, .int .i64 slot, .bool beforeu, .slice beforea beforen beforec, .bool afteru, .slice aftera aftern afterc, .int .i64 undoNext, .int .i64 nextTxn, .slice txnsa txnsn txnsc, .slice dirtya dirtyn dirtyc, .slice imagea imagen imagec]) from HB5.out.same hk)
          clear hk HK5 HB5
          have d0 : w6.cell? ⟨w.heap.size, 0, none⟩ = some (.int .i64 5) := HB6.out.cell 0
          have d1 : w6.cell? ⟨w.heap.size, 1, none⟩ = some (.int .i64 txn) := HB6.out.cell 1
          have d2 : w6.cell? ⟨w.heap.size, 2, none⟩ = some (.int .i64 prev) := HB6.out.cell 2
          have d3 : w6.cell? ⟨w.heap.size, 3, none⟩ = some (.int .i64 page) := HB6.out.cell 3
          have d4 : w6.cell? ⟨w.heap.size, 4, none⟩ = some (.int .i64 slot) := HB6.out.cell 4
          have d5 : w6.cell? ⟨w.heap.size, 5, none⟩ = some (.bool beforeu) := HB6.out.cell 5
          have d6 : w6.cell? ⟨w.heap.size, 6, none⟩ = some (.slice beforea beforen beforec) := HB6.out.cell 6
          have d7 : w6.cell? ⟨w.heap.size, 7, none⟩ = some (.bool afteru) := HB6.out.cell 7
          have d8 : w6.cell? ⟨w.heap.size, 8, none⟩ = some (.slice aftera aftern afterc) := HB6.out.cell 8
          have d9 : w6.cell? ⟨w.heap.size, 9, none⟩ = some (.int .i64 undoNext) := HB6.out.cell 9
          have d10 : w6.cell? ⟨w.heap.size, 10, none⟩ = some (.int .i64 nextTxn) := HB6.out.cell 10
          have d11 : w6.cell? ⟨w.heap.size, 11, none⟩ = some (.slice txnsa txnsn txnsc) := HB6.out.cell 11
          have d12 : w6.cell? ⟨w.heap.size, 12, none⟩ = some (.slice dirtya dirtyn dirtyc) := HB6.out.cell 12
          have d13 : w6.cell? ⟨w.heap.size, 13, none⟩ = some (.slice imagea imagen imagec) := HB6.out.cell 13
          cases b6 with
          | false =>
            go_wp2
            go_ret
            exact ⟨by first | rfl | simp, HK6.out⟩
          | true =>
            go_wp2
            go_ret
            exact ⟨by first | rfl | simp, HK6.out⟩
end Go.Proofs.Ytclmdpmelifplab
