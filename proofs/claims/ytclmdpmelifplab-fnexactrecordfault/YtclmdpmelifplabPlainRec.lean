/-
  plainRecord: the plain struct of a record of a kind.
-/
import Derived.Test.YtclmdpmelifplabTypeRec
import Derived.Test.YtclmdpmelifplabDrawn
namespace Go.Proofs.Ytclmdpmelifplab
open Go.RowKit
set_option linter.unusedVariables false
set_option linter.unusedSimpArgs false
@[go_sem] theorem as1_1 (v : Value) (w : World) : (Instr.typeAssert (.iface 100 v) 59 100 true).run Try.prog w = .ok (.tuple #[v, .bool true]) w := by kernel_rfl
@[go_sem] theorem as2_1 (v : Value) (w : World) : (Instr.typeAssert (.iface 102 v) 59 100 true).run Try.prog w = .ok (.tuple #[.agg #[.int .i64 0, .int .i64 0, .int .i64 0, .int .i64 0, .bool false, .slice none 0 0, .bool false, .slice none 0 0], .bool false]) w := by kernel_rfl
@[go_sem] theorem as2_2 (v : Value) (w : World) : (Instr.typeAssert (.iface 102 v) 59 102 true).run Try.prog w = .ok (.tuple #[v, .bool true]) w := by kernel_rfl
@[go_sem] theorem as3_1 (v : Value) (w : World) : (Instr.typeAssert (.iface 104 v) 59 100 true).run Try.prog w = .ok (.tuple #[.agg #[.int .i64 0, .int .i64 0, .int .i64 0, .int .i64 0, .bool false, .slice none 0 0, .bool false, .slice none 0 0], .bool false]) w := by kernel_rfl
@[go_sem] theorem as3_2 (v : Value) (w : World) : (Instr.typeAssert (.iface 104 v) 59 102 true).run Try.prog w = .ok (.tuple #[.agg #[.int .i64 0, .int .i64 0, .int .i64 0, .int .i64 0, .bool false, .slice none 0 0, .int .i64 0], .bool false]) w := by kernel_rfl
@[go_sem] theorem as3_3 (v : Value) (w : World) : (Instr.typeAssert (.iface 104 v) 59 104 true).run Try.prog w = .ok (.tuple #[v, .bool true]) w := by kernel_rfl
@[go_sem] theorem as4_1 (v : Value) (w : World) : (Instr.typeAssert (.iface 105 v) 59 100 true).run Try.prog w = .ok (.tuple #[.agg #[.int .i64 0, .int .i64 0, .int .i64 0, .int .i64 0, .bool false, .slice none 0 0, .bool false, .slice none 0 0], .bool false]) w := by kernel_rfl
@[go_sem] theorem as4_2 (v : Value) (w : World) : (Instr.typeAssert (.iface 105 v) 59 102 true).run Try.prog w = .ok (.tuple #[.agg #[.int .i64 0, .int .i64 0, .int .i64 0, .int .i64 0, .bool false, .slice none 0 0, .int .i64 0], .bool false]) w := by kernel_rfl
@[go_sem] theorem as4_3 (v : Value) (w : World) : (Instr.typeAssert (.iface 105 v) 59 104 true).run Try.prog w = .ok (.tuple #[.agg #[.int .i64 0, .int .i64 0], .bool false]) w := by kernel_rfl
@[go_sem] theorem as4_4 (v : Value) (w : World) : (Instr.typeAssert (.iface 105 v) 59 105 true).run Try.prog w = .ok (.tuple #[v, .bool true]) w := by kernel_rfl
@[go_sem] theorem as5_1 (v : Value) (w : World) : (Instr.typeAssert (.iface 106 v) 59 100 true).run Try.prog w = .ok (.tuple #[.agg #[.int .i64 0, .int .i64 0, .int .i64 0, .int .i64 0, .bool false, .slice none 0 0, .bool false, .slice none 0 0], .bool false]) w := by kernel_rfl
@[go_sem] theorem as5_2 (v : Value) (w : World) : (Instr.typeAssert (.iface 106 v) 59 102 true).run Try.prog w = .ok (.tuple #[.agg #[.int .i64 0, .int .i64 0, .int .i64 0, .int .i64 0, .bool false, .slice none 0 0, .int .i64 0], .bool false]) w := by kernel_rfl
@[go_sem] theorem as5_3 (v : Value) (w : World) : (Instr.typeAssert (.iface 106 v) 59 104 true).run Try.prog w = .ok (.tuple #[.agg #[.int .i64 0, .int .i64 0], .bool false]) w := by kernel_rfl
@[go_sem] theorem as5_4 (v : Value) (w : World) : (Instr.typeAssert (.iface 106 v) 59 105 true).run Try.prog w = .ok (.tuple #[.agg #[.int .i64 0, .int .i64 0], .bool false]) w := by kernel_rfl
@[go_sem] theorem as5_5 (v : Value) (w : World) : (Instr.typeAssert (.iface 106 v) 59 106 true).run Try.prog w = .ok (.tuple #[v, .bool true]) w := by kernel_rfl
@[go_sem] theorem as6_1 (v : Value) (w : World) : (Instr.typeAssert (.iface 107 v) 59 100 true).run Try.prog w = .ok (.tuple #[.agg #[.int .i64 0, .int .i64 0, .int .i64 0, .int .i64 0, .bool false, .slice none 0 0, .bool false, .slice none 0 0], .bool false]) w := by kernel_rfl
@[go_sem] theorem as6_2 (v : Value) (w : World) : (Instr.typeAssert (.iface 107 v) 59 102 true).run Try.prog w = .ok (.tuple #[.agg #[.int .i64 0, .int .i64 0, .int .i64 0, .int .i64 0, .bool false, .slice none 0 0, .int .i64 0], .bool false]) w := by kernel_rfl
@[go_sem] theorem as6_3 (v : Value) (w : World) : (Instr.typeAssert (.iface 107 v) 59 104 true).run Try.prog w = .ok (.tuple #[.agg #[.int .i64 0, .int .i64 0], .bool false]) w := by kernel_rfl
@[go_sem] theorem as6_4 (v : Value) (w : World) : (Instr.typeAssert (.iface 107 v) 59 105 true).run Try.prog w = .ok (.tuple #[.agg #[.int .i64 0, .int .i64 0], .bool false]) w := by kernel_rfl
@[go_sem] theorem as6_5 (v : Value) (w : World) : (Instr.typeAssert (.iface 107 v) 59 106 true).run Try.prog w = .ok (.tuple #[.agg #[.int .i64 0, .int .i64 0], .bool false]) w := by kernel_rfl
@[go_sem] theorem as6_6 (v : Value) (w : World) : (Instr.typeAssert (.iface 107 v) 59 107 true).run Try.prog w = .ok (.tuple #[v, .bool true]) w := by kernel_rfl
@[go_sem] theorem as7_1 (v : Value) (w : World) : (Instr.typeAssert (.iface 109 v) 59 100 true).run Try.prog w = .ok (.tuple #[.agg #[.int .i64 0, .int .i64 0, .int .i64 0, .int .i64 0, .bool false, .slice none 0 0, .bool false, .slice none 0 0], .bool false]) w := by kernel_rfl
@[go_sem] theorem as7_2 (v : Value) (w : World) : (Instr.typeAssert (.iface 109 v) 59 102 true).run Try.prog w = .ok (.tuple #[.agg #[.int .i64 0, .int .i64 0, .int .i64 0, .int .i64 0, .bool false, .slice none 0 0, .int .i64 0], .bool false]) w := by kernel_rfl
@[go_sem] theorem as7_3 (v : Value) (w : World) : (Instr.typeAssert (.iface 109 v) 59 104 true).run Try.prog w = .ok (.tuple #[.agg #[.int .i64 0, .int .i64 0], .bool false]) w := by kernel_rfl
@[go_sem] theorem as7_4 (v : Value) (w : World) : (Instr.typeAssert (.iface 109 v) 59 105 true).run Try.prog w = .ok (.tuple #[.agg #[.int .i64 0, .int .i64 0], .bool false]) w := by kernel_rfl
@[go_sem] theorem as7_5 (v : Value) (w : World) : (Instr.typeAssert (.iface 109 v) 59 106 true).run Try.prog w = .ok (.tuple #[.agg #[.int .i64 0, .int .i64 0], .bool false]) w := by kernel_rfl
@[go_sem] theorem as7_6 (v : Value) (w : World) : (Instr.typeAssert (.iface 109 v) 59 107 true).run Try.prog w = .ok (.tuple #[.agg #[.int .i64 0, .int .i64 0], .bool false]) w := by kernel_rfl
@[go_sem] theorem as7_7 (v : Value) (w : World) : (Instr.typeAssert (.iface 109 v) 59 109 true).run Try.prog w = .ok (.tuple #[v, .bool true]) w := by kernel_rfl
@[go_sem] theorem as8_1 (v : Value) (w : World) : (Instr.typeAssert (.iface 111 v) 59 100 true).run Try.prog w = .ok (.tuple #[.agg #[.int .i64 0, .int .i64 0, .int .i64 0, .int .i64 0, .bool false, .slice none 0 0, .bool false, .slice none 0 0], .bool false]) w := by kernel_rfl
@[go_sem] theorem as8_2 (v : Value) (w : World) : (Instr.typeAssert (.iface 111 v) 59 102 true).run Try.prog w = .ok (.tuple #[.agg #[.int .i64 0, .int .i64 0, .int .i64 0, .int .i64 0, .bool false, .slice none 0 0, .int .i64 0], .bool false]) w := by kernel_rfl
@[go_sem] theorem as8_3 (v : Value) (w : World) : (Instr.typeAssert (.iface 111 v) 59 104 true).run Try.prog w = .ok (.tuple #[.agg #[.int .i64 0, .int .i64 0], .bool false]) w := by kernel_rfl
@[go_sem] theorem as8_4 (v : Value) (w : World) : (Instr.typeAssert (.iface 111 v) 59 105 true).run Try.prog w = .ok (.tuple #[.agg #[.int .i64 0, .int .i64 0], .bool false]) w := by kernel_rfl
@[go_sem] theorem as8_5 (v : Value) (w : World) : (Instr.typeAssert (.iface 111 v) 59 106 true).run Try.prog w = .ok (.tuple #[.agg #[.int .i64 0, .int .i64 0], .bool false]) w := by kernel_rfl
@[go_sem] theorem as8_6 (v : Value) (w : World) : (Instr.typeAssert (.iface 111 v) 59 107 true).run Try.prog w = .ok (.tuple #[.agg #[.int .i64 0, .int .i64 0], .bool false]) w := by kernel_rfl
@[go_sem] theorem as8_7 (v : Value) (w : World) : (Instr.typeAssert (.iface 111 v) 59 109 true).run Try.prog w = .ok (.tuple #[.agg #[.int .i64 0, .int .i64 0, .int .i64 0, .slice none 0 0, .slice none 0 0], .bool false]) w := by kernel_rfl
@[go_sem] theorem as8_8 (v : Value) (w : World) : (Instr.typeAssert (.iface 111 v) 59 111 true).run Try.prog w = .ok (.tuple #[v, .bool true]) w := by kernel_rfl
set_option maxRecDepth 100000 in
theorem kind_1 (v : Value) (txn : Int) (prev : Int) (page : Int) (slot : Int) (before_used : Bool) (before_data_a : Option Addr) (before_data_n before_data_c : Nat) (after_used : Bool) (after_data_a : Option Addr) (after_data_n after_data_c : Nat) (undoNext : Int) (nextTxn : Int) (txns_a : Option Addr) (txns_n txns_c : Nat) (dirty_a : Option Addr) (dirty_n dirty_c : Nat) (image_a : Option Addr) (image_n image_c : Nat) (w : World) : Calls Try.prog 60 #[.agg #[.int .i64 txn, .int .i64 prev, .int .i64 page, .int .i64 slot, .bool before_used, .slice before_data_a before_data_n before_data_c, .bool after_used, .slice after_data_a after_data_n after_data_c]] w fun e w' => e = .returned (.int .i64 1) ∧ Same w w' := by
  go_enter Try.func60, Try.ntmps60
  go_wp2
  go_ret
  exact ⟨rfl, (Kept.refl _ _).alloc _⟩
set_option maxRecDepth 100000 in
theorem kind_2 (v : Value) (txn : Int) (prev : Int) (page : Int) (slot : Int) (before_used : Bool) (before_data_a : Option Addr) (before_data_n before_data_c : Nat) (after_used : Bool) (after_data_a : Option Addr) (after_data_n after_data_c : Nat) (undoNext : Int) (nextTxn : Int) (txns_a : Option Addr) (txns_n txns_c : Nat) (dirty_a : Option Addr) (dirty_n dirty_c : Nat) (image_a : Option Addr) (image_n image_c : Nat) (w : World) : Calls Try.prog 63 #[.agg #[.int .i64 txn, .int .i64 prev, .int .i64 page, .int .i64 slot, .bool after_used, .slice after_data_a after_data_n after_data_c, .int .i64 undoNext]] w fun e w' => e = .returned (.int .i64 2) ∧ Same w w' := by
  go_enter Try.func63, Try.ntmps63
  go_wp2
  go_ret
  exact ⟨rfl, (Kept.refl _ _).alloc _⟩
set_option maxRecDepth 100000 in
theorem kind_3 (v : Value) (txn : Int) (prev : Int) (page : Int) (slot : Int) (before_used : Bool) (before_data_a : Option Addr) (before_data_n before_data_c : Nat) (after_used : Bool) (after_data_a : Option Addr) (after_data_n after_data_c : Nat) (undoNext : Int) (nextTxn : Int) (txns_a : Option Addr) (txns_n txns_c : Nat) (dirty_a : Option Addr) (dirty_n dirty_c : Nat) (image_a : Option Addr) (image_n image_c : Nat) (w : World) : Calls Try.prog 64 #[.agg #[.int .i64 txn, .int .i64 prev]] w fun e w' => e = .returned (.int .i64 3) ∧ Same w w' := by
  go_enter Try.func64, Try.ntmps64
  go_wp2
  go_ret
  exact ⟨rfl, (Kept.refl _ _).alloc _⟩
set_option maxRecDepth 100000 in
theorem kind_4 (v : Value) (txn : Int) (prev : Int) (page : Int) (slot : Int) (before_used : Bool) (before_data_a : Option Addr) (before_data_n before_data_c : Nat) (after_used : Bool) (after_data_a : Option Addr) (after_data_n after_data_c : Nat) (undoNext : Int) (nextTxn : Int) (txns_a : Option Addr) (txns_n txns_c : Nat) (dirty_a : Option Addr) (dirty_n dirty_c : Nat) (image_a : Option Addr) (image_n image_c : Nat) (w : World) : Calls Try.prog 65 #[.agg #[.int .i64 txn, .int .i64 prev]] w fun e w' => e = .returned (.int .i64 4) ∧ Same w w' := by
  go_enter Try.func65, Try.ntmps65
  go_wp2
  go_ret
  exact ⟨rfl, (Kept.refl _ _).alloc _⟩
set_option maxRecDepth 100000 in
theorem kind_5 (v : Value) (txn : Int) (prev : Int) (page : Int) (slot : Int) (before_used : Bool) (before_data_a : Option Addr) (before_data_n before_data_c : Nat) (after_used : Bool) (after_data_a : Option Addr) (after_data_n after_data_c : Nat) (undoNext : Int) (nextTxn : Int) (txns_a : Option Addr) (txns_n txns_c : Nat) (dirty_a : Option Addr) (dirty_n dirty_c : Nat) (image_a : Option Addr) (image_n image_c : Nat) (w : World) : Calls Try.prog 66 #[.agg #[.int .i64 txn, .int .i64 prev]] w fun e w' => e = .returned (.int .i64 5) ∧ Same w w' := by
  go_enter Try.func66, Try.ntmps66
  go_wp2
  go_ret
  exact ⟨rfl, (Kept.refl _ _).alloc _⟩
set_option maxRecDepth 100000 in
theorem kind_6 (v : Value) (txn : Int) (prev : Int) (page : Int) (slot : Int) (before_used : Bool) (before_data_a : Option Addr) (before_data_n before_data_c : Nat) (after_used : Bool) (after_data_a : Option Addr) (after_data_n after_data_c : Nat) (undoNext : Int) (nextTxn : Int) (txns_a : Option Addr) (txns_n txns_c : Nat) (dirty_a : Option Addr) (dirty_n dirty_c : Nat) (image_a : Option Addr) (image_n image_c : Nat) (w : World) : Calls Try.prog 67 #[.agg #[.int .i64 0, .int .i64 0]] w fun e w' => e = .returned (.int .i64 6) ∧ Same w w' := by
  go_enter Try.func67, Try.ntmps67
  go_wp2
  go_ret
  exact ⟨rfl, (Kept.refl _ _).alloc _⟩
set_option maxRecDepth 100000 in
theorem kind_7 (v : Value) (txn : Int) (prev : Int) (page : Int) (slot : Int) (before_used : Bool) (before_data_a : Option Addr) (before_data_n before_data_c : Nat) (after_used : Bool) (after_data_a : Option Addr) (after_data_n after_data_c : Nat) (undoNext : Int) (nextTxn : Int) (txns_a : Option Addr) (txns_n txns_c : Nat) (dirty_a : Option Addr) (dirty_n dirty_c : Nat) (image_a : Option Addr) (image_n image_c : Nat) (w : World) : Calls Try.prog 68 #[.agg #[.int .i64 0, .int .i64 0, .int .i64 nextTxn, .slice txns_a txns_n txns_c, .slice dirty_a dirty_n dirty_c]] w fun e w' => e = .returned (.int .i64 7) ∧ Same w w' := by
  go_enter Try.func68, Try.ntmps68
  go_wp2
  go_ret
  exact ⟨rfl, (Kept.refl _ _).alloc _⟩
set_option maxRecDepth 100000 in
theorem kind_8 (v : Value) (txn : Int) (prev : Int) (page : Int) (slot : Int) (before_used : Bool) (before_data_a : Option Addr) (before_data_n before_data_c : Nat) (after_used : Bool) (after_data_a : Option Addr) (after_data_n after_data_c : Nat) (undoNext : Int) (nextTxn : Int) (txns_a : Option Addr) (txns_n txns_c : Nat) (dirty_a : Option Addr) (dirty_n dirty_c : Nat) (image_a : Option Addr) (image_n image_c : Nat) (w : World) : Calls Try.prog 69 #[.agg #[.int .i64 0, .int .i64 0, .int .i64 page, .slice image_a image_n image_c]] w fun e w' => e = .returned (.int .i64 8) ∧ Same w w' := by
  go_enter Try.func69, Try.ntmps69
  go_wp2
  go_ret
  exact ⟨rfl, (Kept.refl _ _).alloc _⟩
theorem head_transaction (txn prev : Int) (w : World) : Calls Try.prog 61 #[.agg #[.int .i64 txn, .int .i64 prev]] w fun e w' => e = .returned (.int .i64 txn) ∧ Same w w' := by
  go_enter Try.func61, Try.ntmps61
  go_wp2
  go_ret
  exact ⟨rfl, (Kept.refl _ _).alloc _⟩
theorem head_ahead (txn prev : Int) (w : World) : Calls Try.prog 62 #[.agg #[.int .i64 txn, .int .i64 prev]] w fun e w' => e = .returned (.int .i64 prev) ∧ Same w w' := by
  go_enter Try.func62, Try.ntmps62
  go_wp2
  go_ret
  exact ⟨rfl, (Kept.refl _ _).alloc _⟩
set_option maxRecDepth 100000 in
set_option maxHeartbeats 16000000 in
theorem plainRecord_1 (txn : Int) (prev : Int) (page : Int) (slot : Int) (before_used : Bool) (before_data_a : Option Addr) (before_data_n before_data_c : Nat) (after_used : Bool) (after_data_a : Option Addr) (after_data_n after_data_c : Nat) (undoNext : Int) (nextTxn : Int) (txns_a : Option Addr) (txns_n txns_c : Nat) (dirty_a : Option Addr) (dirty_n dirty_c : Nat) (image_a : Option Addr) (image_n image_c : Nat) (w : World) : Calls Try.prog 38 #[.iface 100 (.agg #[.int .i64 txn, .int .i64 prev, .int .i64 page, .int .i64 slot, .bool before_used, .slice before_data_a before_data_n before_data_c, .bool after_used, .slice after_data_a after_data_n after_data_c])] w fun e w' => e = .returned (.agg #[.int .i64 1, .int .i64 txn, .int .i64 prev, .int .i64 page, .int .i64 slot, .bool before_used, .slice before_data_a before_data_n before_data_c, .bool after_used, .slice after_data_a after_data_n after_data_c, .int .i64 0, .int .i64 0, .slice none 0 0, .slice none 0 0, .slice none 0 0]) ∧ Same w w' := by
  have hb0 : Blk ((w.alloc (.cells #[.int .i64 0, .int .i64 0, .int .i64 0, .int .i64 0, .int .i64 0, .bool false, .slice none 0 0, .bool false, .slice none 0 0, .int .i64 0, .int .i64 0, .slice none 0 0, .slice none 0 0, .slice none 0 0] 35)).alloc (.cells #[.int .i64 txn, .int .i64 prev, .int .i64 page, .int .i64 slot, .bool before_used, .slice before_data_a before_data_n before_data_c, .bool after_used, .slice after_data_a after_data_n after_data_c] 100)) (w.heap.size) 35 [.int .i64 0, .int .i64 0, .int .i64 0, .int .i64 0, .int .i64 0, .bool false, .slice none 0 0, .bool false, .slice none 0 0, .int .i64 0, .int .i64 0, .slice none 0 0, .slice none 0 0, .slice none 0 0] := (Blk.new w #[.int .i64 0, .int .i64 0, .int .i64 0, .int .i64 0, .int .i64 0, .bool false, .slice none 0 0, .bool false, .slice none 0 0, .int .i64 0, .int .i64 0, .slice none 0 0, .slice none 0 0, .slice none 0 0] 35).alloc _
  have hb1 : Blk ((w.alloc (.cells #[.int .i64 0, .int .i64 0, .int .i64 0, .int .i64 0, .int .i64 0, .bool false, .slice none 0 0, .bool false, .slice none 0 0, .int .i64 0, .int .i64 0, .slice none 0 0, .slice none 0 0, .slice none 0 0] 35)).alloc (.cells #[.int .i64 txn, .int .i64 prev, .int .i64 page, .int .i64 slot, .bool before_used, .slice before_data_a before_data_n before_data_c, .bool after_used, .slice after_data_a after_data_n after_data_c] 100)) (w.heap.size + 1) 100 [.int .i64 txn, .int .i64 prev, .int .i64 page, .int .i64 slot, .bool before_used, .slice before_data_a before_data_n before_data_c, .bool after_used, .slice after_data_a after_data_n after_data_c] := by have h := Blk.new (w.alloc (.cells #[.int .i64 0, .int .i64 0, .int .i64 0, .int .i64 0, .int .i64 0, .bool false, .slice none 0 0, .bool false, .slice none 0 0, .int .i64 0, .int .i64 0, .slice none 0 0, .slice none 0 0, .slice none 0 0] 35)) #[.int .i64 txn, .int .i64 prev, .int .i64 page, .int .i64 slot, .bool before_used, .slice before_data_a before_data_n before_data_c, .bool after_used, .slice after_data_a after_data_n after_data_c] 100; rwa [World.size_alloc] at h
  have hk1 : Same w ((w.alloc (.cells #[.int .i64 0, .int .i64 0, .int .i64 0, .int .i64 0, .int .i64 0, .bool false, .slice none 0 0, .bool false, .slice none 0 0, .int .i64 0, .int .i64 0, .slice none 0 0, .slice none 0 0, .slice none 0 0] 35)).alloc (.cells #[.int .i64 txn, .int .i64 prev, .int .i64 page, .int .i64 slot, .bool before_used, .slice before_data_a before_data_n before_data_c, .bool after_used, .slice after_data_a after_data_n after_data_c] 100)) := ((Kept.refl _ _).alloc _).alloc _
  go_enter Try.func38, Try.ntmps38
  go_wp2_with fail
  obtain ⟨w1, hw1⟩ : ∃ w1, ((w.alloc (.cells #[.int .i64 0, .int .i64 0, .int .i64 0, .int .i64 0, .int .i64 0, .bool false, .slice none 0 0, .bool false, .slice none 0 0, .int .i64 0, .int .i64 0, .slice none 0 0, .slice none 0 0, .slice none 0 0] 35)).alloc (.cells #[.int .i64 txn, .int .i64 prev, .int .i64 page, .int .i64 slot, .bool before_used, .slice before_data_a before_data_n before_data_c, .bool after_used, .slice after_data_a after_data_n after_data_c] 100)) = w1 := ⟨_, rfl⟩
  rw [hw1] at hb0 hb1 hk1 ⊢
  clear hw1
  have hSx : ∀ wx, Same w1 wx → (fun wx : World => wx.cell? ⟨w.heap.size + 1, 0, none⟩ = some (.int .i64 txn) ∧ wx.cell? ⟨w.heap.size + 1, 1, none⟩ = some (.int .i64 prev) ∧ wx.cell? ⟨w.heap.size + 1, 2, none⟩ = some (.int .i64 page) ∧ wx.cell? ⟨w.heap.size + 1, 3, none⟩ = some (.int .i64 slot) ∧ wx.cell? ⟨w.heap.size + 1, 4, none⟩ = some (.bool before_used) ∧ wx.cell? ⟨w.heap.size + 1, 5, none⟩ = some (.slice before_data_a before_data_n before_data_c) ∧ wx.cell? ⟨w.heap.size + 1, 6, none⟩ = some (.bool after_used) ∧ wx.cell? ⟨w.heap.size + 1, 7, none⟩ = some (.slice after_data_a after_data_n after_data_c)) wx := fun wx h => ⟨(hb1.same h).cell 0, (hb1.same h).cell 1, (hb1.same h).cell 2, (hb1.same h).cell 3, (hb1.same h).cell 4, (hb1.same h).cell 5, (hb1.same h).cell 6, (hb1.same h).cell 7⟩
  have hS : (fun wx : World => wx.cell? ⟨w.heap.size + 1, 0, none⟩ = some (.int .i64 txn) ∧ wx.cell? ⟨w.heap.size + 1, 1, none⟩ = some (.int .i64 prev) ∧ wx.cell? ⟨w.heap.size + 1, 2, none⟩ = some (.int .i64 page) ∧ wx.cell? ⟨w.heap.size + 1, 3, none⟩ = some (.int .i64 slot) ∧ wx.cell? ⟨w.heap.size + 1, 4, none⟩ = some (.bool before_used) ∧ wx.cell? ⟨w.heap.size + 1, 5, none⟩ = some (.slice before_data_a before_data_n before_data_c) ∧ wx.cell? ⟨w.heap.size + 1, 6, none⟩ = some (.bool after_used) ∧ wx.cell? ⟨w.heap.size + 1, 7, none⟩ = some (.slice after_data_a after_data_n after_data_c)) w1.drew := by exact hSx _ (Kept.refl _ _).drew
  refine wp_region_V (fun wx : World => wx.cell? ⟨w.heap.size + 1, 0, none⟩ = some (.int .i64 txn) ∧ wx.cell? ⟨w.heap.size + 1, 1, none⟩ = some (.int .i64 prev) ∧ wx.cell? ⟨w.heap.size + 1, 2, none⟩ = some (.int .i64 page) ∧ wx.cell? ⟨w.heap.size + 1, 3, none⟩ = some (.int .i64 slot) ∧ wx.cell? ⟨w.heap.size + 1, 4, none⟩ = some (.bool before_used) ∧ wx.cell? ⟨w.heap.size + 1, 5, none⟩ = some (.slice before_data_a before_data_n before_data_c) ∧ wx.cell? ⟨w.heap.size + 1, 6, none⟩ = some (.bool after_used) ∧ wx.cell? ⟨w.heap.size + 1, 7, none⟩ = some (.slice after_data_a after_data_n after_data_c)) 19 20 rfl (by kernel_rfl) ?_
  refine wpAnyV_take (i := 0) (v := ?vq1) (some 15) rfl rfl (by kernel_rfl) (by kernel_rfl) (by kernel_rfl) (by kernel_rfl) (fun _ _ _ h => h) (Or.inl ⟨by rfl, ?hyq1⟩) hS ?_
  case hyq1 => (intro w hSw; (try dsimp only at hSw); go_simp; (try with_reducible rfl))
  try simp only [Act.put, List.setIfInBounds_toArray, List.set_cons_zero, List.set_cons_succ]
  refine wpAnyV_take (i := 2) (v := ?vq2) (some 17) rfl rfl (by kernel_rfl) (by kernel_rfl) (by kernel_rfl) (by kernel_rfl) (fun _ _ _ h => h) (Or.inl ⟨by rfl, ?hyq2⟩) hS ?_
  case hyq2 => (intro w hSw; (try dsimp only at hSw); go_simp; (try with_reducible rfl))
  try simp only [Act.put, List.setIfInBounds_toArray, List.set_cons_zero, List.set_cons_succ]
  refine wpAnyV_take (i := 3) (v := ?vq3) (some 18) rfl rfl (by kernel_rfl) (by kernel_rfl) (by kernel_rfl) (by kernel_rfl) (fun _ _ _ h => h) (Or.inl ⟨by rfl, ?hyq3⟩) hS ?_
  case hyq3 => (intro w hSw; (try dsimp only at hSw); go_simp; (try with_reducible rfl))
  try simp only [Act.put, List.setIfInBounds_toArray, List.set_cons_zero, List.set_cons_succ]
  refine wpAnyV_take (i := 5) (v := ?vq4) (some 20) rfl rfl (by kernel_rfl) (by kernel_rfl) (by kernel_rfl) (by kernel_rfl) (fun _ _ _ h => h) (Or.inl ⟨by rfl, ?hyq4⟩) hS ?_
  case hyq4 => (intro w hSw; (try dsimp only at hSw); go_simp; (try with_reducible rfl))
  try simp only [Act.put, List.setIfInBounds_toArray, List.set_cons_zero, List.set_cons_succ]
  refine wpAnyV_take (i := 6) (v := ?vq5) (some 21) rfl rfl (by kernel_rfl) (by kernel_rfl) (by kernel_rfl) (by kernel_rfl) (fun _ _ _ h => h) (Or.inl ⟨by rfl, ?hyq5⟩) hS ?_
  case hyq5 => (intro w hSw; (try dsimp only at hSw); go_simp; (try with_reducible rfl))
  try simp only [Act.put, List.setIfInBounds_toArray, List.set_cons_zero, List.set_cons_succ]
  refine wpAnyV_take (i := 8) (v := ?vq6) (some 23) rfl rfl (by kernel_rfl) (by kernel_rfl) (by kernel_rfl) (by kernel_rfl) (fun _ _ _ h => h) (Or.inl ⟨by rfl, ?hyq6⟩) hS ?_
  case hyq6 => (intro w hSw; (try dsimp only at hSw); go_simp; (try with_reducible rfl))
  try simp only [Act.put, List.setIfInBounds_toArray, List.set_cons_zero, List.set_cons_succ]
  refine wpAnyV_take (i := 9) (v := ?vq7) (some 24) rfl rfl (by kernel_rfl) (by kernel_rfl) (by kernel_rfl) (by kernel_rfl) (fun _ _ _ h => h) (Or.inl ⟨by rfl, ?hyq7⟩) hS ?_
  case hyq7 => (intro w hSw; (try dsimp only at hSw); go_simp; (try with_reducible rfl))
  try simp only [Act.put, List.setIfInBounds_toArray, List.set_cons_zero, List.set_cons_succ]
  refine wpAnyV_take (i := 10) (v := ?vq8) (some 25) rfl rfl (by kernel_rfl) (by kernel_rfl) (by kernel_rfl) (by kernel_rfl) (fun _ _ _ h => h) (Or.inl ⟨by rfl, ?hyq8⟩) hS ?_
  case hyq8 => (intro w hSw; (try dsimp only at hSw); go_simp; (try with_reducible rfl))
  try simp only [Act.put, List.setIfInBounds_toArray, List.set_cons_zero, List.set_cons_succ]
  refine wpAnyV_take (i := 11) (v := ?vq9) (some 26) rfl rfl (by kernel_rfl) (by kernel_rfl) (by kernel_rfl) (by kernel_rfl) (fun _ _ _ h => h) (Or.inl ⟨by rfl, ?hyq9⟩) hS ?_
  case hyq9 => (intro w hSw; (try dsimp only at hSw); go_simp; (try with_reducible rfl))
  try simp only [Act.put, List.setIfInBounds_toArray, List.set_cons_zero, List.set_cons_succ]
  refine wpAnyV_take (i := 12) (v := ?vq10) (some 27) rfl rfl (by kernel_rfl) (by kernel_rfl) (by kernel_rfl) (by kernel_rfl) (fun _ _ _ h => h) (Or.inl ⟨by rfl, ?hyq10⟩) hS ?_
  case hyq10 => (intro w hSw; (try dsimp only at hSw); go_simp; (try with_reducible rfl))
  try simp only [Act.put, List.setIfInBounds_toArray, List.set_cons_zero, List.set_cons_succ]
  refine wpAnyV_take (i := 13) (v := ?vq11) (some 28) rfl rfl (by kernel_rfl) (by kernel_rfl) (by kernel_rfl) (by kernel_rfl) (fun _ _ _ h => h) (Or.inl ⟨by rfl, ?hyq11⟩) hS ?_
  case hyq11 => (intro w hSw; (try dsimp only at hSw); go_simp; (try with_reducible rfl))
  try simp only [Act.put, List.setIfInBounds_toArray, List.set_cons_zero, List.set_cons_succ]
  refine wpAnyV_take (i := 14) (v := ?vq12) (some 29) rfl rfl (by kernel_rfl) (by kernel_rfl) (by kernel_rfl) (by kernel_rfl) (fun _ _ _ h => h) (Or.inl ⟨by rfl, ?hyq12⟩) hS ?_
  case hyq12 => (intro w hSw; (try dsimp only at hSw); go_simp; (try with_reducible rfl))
  try simp only [Act.put, List.setIfInBounds_toArray, List.set_cons_zero, List.set_cons_succ]
  refine wpAnyV_take (i := 15) (v := ?vq13) (some 30) rfl rfl (by kernel_rfl) (by kernel_rfl) (by kernel_rfl) (by kernel_rfl) (fun _ _ _ h => h) (Or.inl ⟨by rfl, ?hyq13⟩) hS ?_
  case hyq13 => (intro w hSw; (try dsimp only at hSw); go_simp; (try with_reducible rfl))
  try simp only [Act.put, List.setIfInBounds_toArray, List.set_cons_zero, List.set_cons_succ]
  refine wpAnyV_take (i := 16) (v := ?vq14) (some 31) rfl rfl (by kernel_rfl) (by kernel_rfl) (by kernel_rfl) (by kernel_rfl) (fun _ _ _ h => h) (Or.inl ⟨by rfl, ?hyq14⟩) hS ?_
  case hyq14 => (intro w hSw; (try dsimp only at hSw); go_simp; (try with_reducible rfl))
  try simp only [Act.put, List.setIfInBounds_toArray, List.set_cons_zero, List.set_cons_succ]
  refine wpAnyV_take (i := 17) (v := ?vq15) (some 32) rfl rfl (by kernel_rfl) (by kernel_rfl) (by kernel_rfl) (by kernel_rfl) (fun _ _ _ h => h) (Or.inl ⟨by rfl, ?hyq15⟩) hS ?_
  case hyq15 => (intro w hSw; (try dsimp only at hSw); go_simp; (try with_reducible rfl))
  try simp only [Act.put, List.setIfInBounds_toArray, List.set_cons_zero, List.set_cons_succ]
  refine wpAnyV_one (i := 1) (by kernel_rfl) rfl (fun K hK => ?_)
  go_simp
  have hc := kind_1 undef txn prev page slot before_used before_data_a before_data_n before_data_c after_used after_data_a after_data_n after_data_c undoNext nextTxn txns_a txns_n txns_c dirty_a dirty_n dirty_c image_a image_n image_c (w1.drew)
  with_reducible refine hc.mono ?_
  clear hc
  rintro e w2 ⟨rfl, hkk⟩
  have hkw2 : Same w1 w2 := Kept.trans ((Kept.refl _ _).drew) hkk
  clear hkk
  have hS : (fun wx : World => wx.cell? ⟨w.heap.size + 1, 0, none⟩ = some (.int .i64 txn) ∧ wx.cell? ⟨w.heap.size + 1, 1, none⟩ = some (.int .i64 prev) ∧ wx.cell? ⟨w.heap.size + 1, 2, none⟩ = some (.int .i64 page) ∧ wx.cell? ⟨w.heap.size + 1, 3, none⟩ = some (.int .i64 slot) ∧ wx.cell? ⟨w.heap.size + 1, 4, none⟩ = some (.bool before_used) ∧ wx.cell? ⟨w.heap.size + 1, 5, none⟩ = some (.slice before_data_a before_data_n before_data_c) ∧ wx.cell? ⟨w.heap.size + 1, 6, none⟩ = some (.bool after_used) ∧ wx.cell? ⟨w.heap.size + 1, 7, none⟩ = some (.slice after_data_a after_data_n after_data_c)) w2 := hSx _ hkw2
  refine hK.out _ _ (fun _ => hS) ?_
  clear hK K
  try simp only [Act.put, List.setIfInBounds_toArray, List.set_cons_zero, List.set_cons_succ]
  refine wpAnyV_one (i := 4) (by kernel_rfl) rfl (fun K hK => ?_)
  go_simp
  have hc := head_transaction txn prev (w2)
  with_reducible refine hc.mono ?_
  clear hc
  rintro e w3 ⟨rfl, hkk⟩
  have hkw3 : Same w1 w3 := Kept.trans (hkw2) hkk
  clear hkk
  have hS : (fun wx : World => wx.cell? ⟨w.heap.size + 1, 0, none⟩ = some (.int .i64 txn) ∧ wx.cell? ⟨w.heap.size + 1, 1, none⟩ = some (.int .i64 prev) ∧ wx.cell? ⟨w.heap.size + 1, 2, none⟩ = some (.int .i64 page) ∧ wx.cell? ⟨w.heap.size + 1, 3, none⟩ = some (.int .i64 slot) ∧ wx.cell? ⟨w.heap.size + 1, 4, none⟩ = some (.bool before_used) ∧ wx.cell? ⟨w.heap.size + 1, 5, none⟩ = some (.slice before_data_a before_data_n before_data_c) ∧ wx.cell? ⟨w.heap.size + 1, 6, none⟩ = some (.bool after_used) ∧ wx.cell? ⟨w.heap.size + 1, 7, none⟩ = some (.slice after_data_a after_data_n after_data_c)) w3 := hSx _ hkw3
  refine hK.out _ _ (fun _ => hS) ?_
  clear hK K
  try simp only [Act.put, List.setIfInBounds_toArray, List.set_cons_zero, List.set_cons_succ]
  refine wpAnyV_one (i := 7) (by kernel_rfl) rfl (fun K hK => ?_)
  go_simp
  have hc := head_ahead txn prev (w3)
  with_reducible refine hc.mono ?_
  clear hc
  rintro e w4 ⟨rfl, hkk⟩
  have hkw4 : Same w1 w4 := Kept.trans (hkw3) hkk
  clear hkk
  have hS : (fun wx : World => wx.cell? ⟨w.heap.size + 1, 0, none⟩ = some (.int .i64 txn) ∧ wx.cell? ⟨w.heap.size + 1, 1, none⟩ = some (.int .i64 prev) ∧ wx.cell? ⟨w.heap.size + 1, 2, none⟩ = some (.int .i64 page) ∧ wx.cell? ⟨w.heap.size + 1, 3, none⟩ = some (.int .i64 slot) ∧ wx.cell? ⟨w.heap.size + 1, 4, none⟩ = some (.bool before_used) ∧ wx.cell? ⟨w.heap.size + 1, 5, none⟩ = some (.slice before_data_a before_data_n before_data_c) ∧ wx.cell? ⟨w.heap.size + 1, 6, none⟩ = some (.bool after_used) ∧ wx.cell? ⟨w.heap.size + 1, 7, none⟩ = some (.slice after_data_a after_data_n after_data_c)) w4 := hSx _ hkw4
  refine hK.out _ _ (fun _ => hS) ?_
  clear hK K
  try simp only [Act.put, List.setIfInBounds_toArray, List.set_cons_zero, List.set_cons_succ]
  refine wpAnyV_take (i := 18) (v := ?vq16) (some 33) rfl rfl (by kernel_rfl) (by kernel_rfl) (by kernel_rfl) (by kernel_rfl) (fun _ _ _ h => h) (Or.inl ⟨by rfl, ?hyq16⟩) hS ?_
  case hyq16 => (intro w hSw; (try dsimp only at hSw); go_simp; (try with_reducible rfl))
  try simp only [Act.put, List.setIfInBounds_toArray, List.set_cons_zero, List.set_cons_succ]
  have d0 : w4.cell? ⟨w.heap.size, 0, none⟩ = some (.int .i64 0) := (hb0.same hkw4).cell 0
  have f0 : w4.frozen? ⟨w.heap.size, 0, none⟩ = false := (hb0.same hkw4).frozen 0
  have d1 : w4.cell? ⟨w.heap.size, 1, none⟩ = some (.int .i64 0) := (hb0.same hkw4).cell 1
  have f1 : w4.frozen? ⟨w.heap.size, 1, none⟩ = false := (hb0.same hkw4).frozen 1
  have d2 : w4.cell? ⟨w.heap.size, 2, none⟩ = some (.int .i64 0) := (hb0.same hkw4).cell 2
  have f2 : w4.frozen? ⟨w.heap.size, 2, none⟩ = false := (hb0.same hkw4).frozen 2
  have d3 : w4.cell? ⟨w.heap.size, 3, none⟩ = some (.int .i64 0) := (hb0.same hkw4).cell 3
  have f3 : w4.frozen? ⟨w.heap.size, 3, none⟩ = false := (hb0.same hkw4).frozen 3
  have d4 : w4.cell? ⟨w.heap.size, 4, none⟩ = some (.int .i64 0) := (hb0.same hkw4).cell 4
  have f4 : w4.frozen? ⟨w.heap.size, 4, none⟩ = false := (hb0.same hkw4).frozen 4
  have d5 : w4.cell? ⟨w.heap.size, 5, none⟩ = some (.bool false) := (hb0.same hkw4).cell 5
  have f5 : w4.frozen? ⟨w.heap.size, 5, none⟩ = false := (hb0.same hkw4).frozen 5
  have d6 : w4.cell? ⟨w.heap.size, 6, none⟩ = some (.slice none 0 0) := (hb0.same hkw4).cell 6
  have f6 : w4.frozen? ⟨w.heap.size, 6, none⟩ = false := (hb0.same hkw4).frozen 6
  have d7 : w4.cell? ⟨w.heap.size, 7, none⟩ = some (.bool false) := (hb0.same hkw4).cell 7
  have f7 : w4.frozen? ⟨w.heap.size, 7, none⟩ = false := (hb0.same hkw4).frozen 7
  have d8 : w4.cell? ⟨w.heap.size, 8, none⟩ = some (.slice none 0 0) := (hb0.same hkw4).cell 8
  have f8 : w4.frozen? ⟨w.heap.size, 8, none⟩ = false := (hb0.same hkw4).frozen 8
  have d9 : w4.cell? ⟨w.heap.size, 9, none⟩ = some (.int .i64 0) := (hb0.same hkw4).cell 9
  have f9 : w4.frozen? ⟨w.heap.size, 9, none⟩ = false := (hb0.same hkw4).frozen 9
  have d10 : w4.cell? ⟨w.heap.size, 10, none⟩ = some (.int .i64 0) := (hb0.same hkw4).cell 10
  have f10 : w4.frozen? ⟨w.heap.size, 10, none⟩ = false := (hb0.same hkw4).frozen 10
  have d11 : w4.cell? ⟨w.heap.size, 11, none⟩ = some (.slice none 0 0) := (hb0.same hkw4).cell 11
  have f11 : w4.frozen? ⟨w.heap.size, 11, none⟩ = false := (hb0.same hkw4).frozen 11
  have d12 : w4.cell? ⟨w.heap.size, 12, none⟩ = some (.slice none 0 0) := (hb0.same hkw4).cell 12
  have f12 : w4.frozen? ⟨w.heap.size, 12, none⟩ = false := (hb0.same hkw4).frozen 12
  have d13 : w4.cell? ⟨w.heap.size, 13, none⟩ = some (.slice none 0 0) := (hb0.same hkw4).cell 13
  have f13 : w4.frozen? ⟨w.heap.size, 13, none⟩ = false := (hb0.same hkw4).frozen 13
  refine wpAnyV_one (i := 19) (by kernel_rfl) rfl (fun K hK => ?_)
  go_simp
  refine hK.out _ _ (fun h => absurd rfl h) ?_
  clear hK K
  refine wpAnyV_done (by kernel_rfl) ?_
  try simp only [Act.put, List.setIfInBounds_toArray, List.set_cons_zero, List.set_cons_succ]
  have hz : Same w w4 := hk1.trans hkw4
  go_wp2
  refine bodyPost_ret (v := .agg #[.int .i64 1, .int .i64 txn, .int .i64 prev, .int .i64 page, .int .i64 slot, .bool before_used, .slice before_data_a before_data_n before_data_c, .bool after_used, .slice after_data_a after_data_n after_data_c, .int .i64 0, .int .i64 0, .slice none 0 0, .slice none 0 0, .slice none 0 0]) (by simp [results, Try.results38, go_sem, d0, d1, d2, d3, d4, d5, d6, d7, d8, d9, d10, d11, d12, d13]) rfl ⟨rfl, ?_⟩
  exact ((((((((((((((hz.setCell (p := ⟨w.heap.size, 0, none⟩) (.inl (Nat.le_refl _)) _).setCell (p := ⟨w.heap.size, 1, none⟩) (.inl (Nat.le_refl _)) _).setCell (p := ⟨w.heap.size, 2, none⟩) (.inl (Nat.le_refl _)) _).setCell (p := ⟨w.heap.size, 3, none⟩) (.inl (Nat.le_refl _)) _).setCell (p := ⟨w.heap.size, 4, none⟩) (.inl (Nat.le_refl _)) _).setCell (p := ⟨w.heap.size, 5, none⟩) (.inl (Nat.le_refl _)) _).setCell (p := ⟨w.heap.size, 6, none⟩) (.inl (Nat.le_refl _)) _).setCell (p := ⟨w.heap.size, 7, none⟩) (.inl (Nat.le_refl _)) _).setCell (p := ⟨w.heap.size, 8, none⟩) (.inl (Nat.le_refl _)) _).setCell (p := ⟨w.heap.size, 9, none⟩) (.inl (Nat.le_refl _)) _).setCell (p := ⟨w.heap.size, 10, none⟩) (.inl (Nat.le_refl _)) _).setCell (p := ⟨w.heap.size, 11, none⟩) (.inl (Nat.le_refl _)) _).setCell (p := ⟨w.heap.size, 12, none⟩) (.inl (Nat.le_refl _)) _).setCell (p := ⟨w.heap.size, 13, none⟩) (.inl (Nat.le_refl _)) _)
set_option maxRecDepth 100000 in
set_option maxHeartbeats 16000000 in
theorem plainRecord_2 (txn : Int) (prev : Int) (page : Int) (slot : Int) (before_used : Bool) (before_data_a : Option Addr) (before_data_n before_data_c : Nat) (after_used : Bool) (after_data_a : Option Addr) (after_data_n after_data_c : Nat) (undoNext : Int) (nextTxn : Int) (txns_a : Option Addr) (txns_n txns_c : Nat) (dirty_a : Option Addr) (dirty_n dirty_c : Nat) (image_a : Option Addr) (image_n image_c : Nat) (w : World) : Calls Try.prog 38 #[.iface 102 (.agg #[.int .i64 txn, .int .i64 prev, .int .i64 page, .int .i64 slot, .bool after_used, .slice after_data_a after_data_n after_data_c, .int .i64 undoNext])] w fun e w' => e = .returned (.agg #[.int .i64 2, .int .i64 txn, .int .i64 prev, .int .i64 page, .int .i64 slot, .bool false, .slice none 0 0, .bool after_used, .slice after_data_a after_data_n after_data_c, .int .i64 undoNext, .int .i64 0, .slice none 0 0, .slice none 0 0, .slice none 0 0]) ∧ Same w w' := by
  have hb0 : Blk ((w.alloc (.cells #[.int .i64 0, .int .i64 0, .int .i64 0, .int .i64 0, .int .i64 0, .bool false, .slice none 0 0, .bool false, .slice none 0 0, .int .i64 0, .int .i64 0, .slice none 0 0, .slice none 0 0, .slice none 0 0] 35)).alloc (.cells #[.int .i64 txn, .int .i64 prev, .int .i64 page, .int .i64 slot, .bool after_used, .slice after_data_a after_data_n after_data_c, .int .i64 undoNext] 102)) (w.heap.size) 35 [.int .i64 0, .int .i64 0, .int .i64 0, .int .i64 0, .int .i64 0, .bool false, .slice none 0 0, .bool false, .slice none 0 0, .int .i64 0, .int .i64 0, .slice none 0 0, .slice none 0 0, .slice none 0 0] := (Blk.new w #[.int .i64 0, .int .i64 0, .int .i64 0, .int .i64 0, .int .i64 0, .bool false, .slice none 0 0, .bool false, .slice none 0 0, .int .i64 0, .int .i64 0, .slice none 0 0, .slice none 0 0, .slice none 0 0] 35).alloc _
  have hb1 : Blk ((w.alloc (.cells #[.int .i64 0, .int .i64 0, .int .i64 0, .int .i64 0, .int .i64 0, .bool false, .slice none 0 0, .bool false, .slice none 0 0, .int .i64 0, .int .i64 0, .slice none 0 0, .slice none 0 0, .slice none 0 0] 35)).alloc (.cells #[.int .i64 txn, .int .i64 prev, .int .i64 page, .int .i64 slot, .bool after_used, .slice after_data_a after_data_n after_data_c, .int .i64 undoNext] 102)) (w.heap.size + 1) 102 [.int .i64 txn, .int .i64 prev, .int .i64 page, .int .i64 slot, .bool after_used, .slice after_data_a after_data_n after_data_c, .int .i64 undoNext] := by have h := Blk.new (w.alloc (.cells #[.int .i64 0, .int .i64 0, .int .i64 0, .int .i64 0, .int .i64 0, .bool false, .slice none 0 0, .bool false, .slice none 0 0, .int .i64 0, .int .i64 0, .slice none 0 0, .slice none 0 0, .slice none 0 0] 35)) #[.int .i64 txn, .int .i64 prev, .int .i64 page, .int .i64 slot, .bool after_used, .slice after_data_a after_data_n after_data_c, .int .i64 undoNext] 102; rwa [World.size_alloc] at h
  have hk1 : Same w ((w.alloc (.cells #[.int .i64 0, .int .i64 0, .int .i64 0, .int .i64 0, .int .i64 0, .bool false, .slice none 0 0, .bool false, .slice none 0 0, .int .i64 0, .int .i64 0, .slice none 0 0, .slice none 0 0, .slice none 0 0] 35)).alloc (.cells #[.int .i64 txn, .int .i64 prev, .int .i64 page, .int .i64 slot, .bool after_used, .slice after_data_a after_data_n after_data_c, .int .i64 undoNext] 102)) := ((Kept.refl _ _).alloc _).alloc _
  go_enter Try.func38, Try.ntmps38
  go_wp2_with fail
  obtain ⟨w1, hw1⟩ : ∃ w1, ((w.alloc (.cells #[.int .i64 0, .int .i64 0, .int .i64 0, .int .i64 0, .int .i64 0, .bool false, .slice none 0 0, .bool false, .slice none 0 0, .int .i64 0, .int .i64 0, .slice none 0 0, .slice none 0 0, .slice none 0 0] 35)).alloc (.cells #[.int .i64 txn, .int .i64 prev, .int .i64 page, .int .i64 slot, .bool after_used, .slice after_data_a after_data_n after_data_c, .int .i64 undoNext] 102)) = w1 := ⟨_, rfl⟩
  rw [hw1] at hb0 hb1 hk1 ⊢
  clear hw1
  have hSx : ∀ wx, Same w1 wx → (fun wx : World => wx.cell? ⟨w.heap.size + 1, 0, none⟩ = some (.int .i64 txn) ∧ wx.cell? ⟨w.heap.size + 1, 1, none⟩ = some (.int .i64 prev) ∧ wx.cell? ⟨w.heap.size + 1, 2, none⟩ = some (.int .i64 page) ∧ wx.cell? ⟨w.heap.size + 1, 3, none⟩ = some (.int .i64 slot) ∧ wx.cell? ⟨w.heap.size + 1, 4, none⟩ = some (.bool after_used) ∧ wx.cell? ⟨w.heap.size + 1, 5, none⟩ = some (.slice after_data_a after_data_n after_data_c) ∧ wx.cell? ⟨w.heap.size + 1, 6, none⟩ = some (.int .i64 undoNext)) wx := fun wx h => ⟨(hb1.same h).cell 0, (hb1.same h).cell 1, (hb1.same h).cell 2, (hb1.same h).cell 3, (hb1.same h).cell 4, (hb1.same h).cell 5, (hb1.same h).cell 6⟩
  have hS : (fun wx : World => wx.cell? ⟨w.heap.size + 1, 0, none⟩ = some (.int .i64 txn) ∧ wx.cell? ⟨w.heap.size + 1, 1, none⟩ = some (.int .i64 prev) ∧ wx.cell? ⟨w.heap.size + 1, 2, none⟩ = some (.int .i64 page) ∧ wx.cell? ⟨w.heap.size + 1, 3, none⟩ = some (.int .i64 slot) ∧ wx.cell? ⟨w.heap.size + 1, 4, none⟩ = some (.bool after_used) ∧ wx.cell? ⟨w.heap.size + 1, 5, none⟩ = some (.slice after_data_a after_data_n after_data_c) ∧ wx.cell? ⟨w.heap.size + 1, 6, none⟩ = some (.int .i64 undoNext)) w1.drew := by exact hSx _ (Kept.refl _ _).drew
  refine wp_region_V (fun wx : World => wx.cell? ⟨w.heap.size + 1, 0, none⟩ = some (.int .i64 txn) ∧ wx.cell? ⟨w.heap.size + 1, 1, none⟩ = some (.int .i64 prev) ∧ wx.cell? ⟨w.heap.size + 1, 2, none⟩ = some (.int .i64 page) ∧ wx.cell? ⟨w.heap.size + 1, 3, none⟩ = some (.int .i64 slot) ∧ wx.cell? ⟨w.heap.size + 1, 4, none⟩ = some (.bool after_used) ∧ wx.cell? ⟨w.heap.size + 1, 5, none⟩ = some (.slice after_data_a after_data_n after_data_c) ∧ wx.cell? ⟨w.heap.size + 1, 6, none⟩ = some (.int .i64 undoNext)) 19 20 rfl (by kernel_rfl) ?_
  refine wpAnyV_take (i := 0) (v := ?vq17) (some 37) rfl rfl (by kernel_rfl) (by kernel_rfl) (by kernel_rfl) (by kernel_rfl) (fun _ _ _ h => h) (Or.inl ⟨by rfl, ?hyq17⟩) hS ?_
  case hyq17 => (intro w hSw; (try dsimp only at hSw); go_simp; (try with_reducible rfl))
  try simp only [Act.put, List.setIfInBounds_toArray, List.set_cons_zero, List.set_cons_succ]
  refine wpAnyV_take (i := 2) (v := ?vq18) (some 39) rfl rfl (by kernel_rfl) (by kernel_rfl) (by kernel_rfl) (by kernel_rfl) (fun _ _ _ h => h) (Or.inl ⟨by rfl, ?hyq18⟩) hS ?_
  case hyq18 => (intro w hSw; (try dsimp only at hSw); go_simp; (try with_reducible rfl))
  try simp only [Act.put, List.setIfInBounds_toArray, List.set_cons_zero, List.set_cons_succ]
  refine wpAnyV_take (i := 3) (v := ?vq19) (some 40) rfl rfl (by kernel_rfl) (by kernel_rfl) (by kernel_rfl) (by kernel_rfl) (fun _ _ _ h => h) (Or.inl ⟨by rfl, ?hyq19⟩) hS ?_
  case hyq19 => (intro w hSw; (try dsimp only at hSw); go_simp; (try with_reducible rfl))
  try simp only [Act.put, List.setIfInBounds_toArray, List.set_cons_zero, List.set_cons_succ]
  refine wpAnyV_take (i := 5) (v := ?vq20) (some 42) rfl rfl (by kernel_rfl) (by kernel_rfl) (by kernel_rfl) (by kernel_rfl) (fun _ _ _ h => h) (Or.inl ⟨by rfl, ?hyq20⟩) hS ?_
  case hyq20 => (intro w hSw; (try dsimp only at hSw); go_simp; (try with_reducible rfl))
  try simp only [Act.put, List.setIfInBounds_toArray, List.set_cons_zero, List.set_cons_succ]
  refine wpAnyV_take (i := 6) (v := ?vq21) (some 43) rfl rfl (by kernel_rfl) (by kernel_rfl) (by kernel_rfl) (by kernel_rfl) (fun _ _ _ h => h) (Or.inl ⟨by rfl, ?hyq21⟩) hS ?_
  case hyq21 => (intro w hSw; (try dsimp only at hSw); go_simp; (try with_reducible rfl))
  try simp only [Act.put, List.setIfInBounds_toArray, List.set_cons_zero, List.set_cons_succ]
  refine wpAnyV_take (i := 8) (v := ?vq22) (some 45) rfl rfl (by kernel_rfl) (by kernel_rfl) (by kernel_rfl) (by kernel_rfl) (fun _ _ _ h => h) (Or.inl ⟨by rfl, ?hyq22⟩) hS ?_
  case hyq22 => (intro w hSw; (try dsimp only at hSw); go_simp; (try with_reducible rfl))
  try simp only [Act.put, List.setIfInBounds_toArray, List.set_cons_zero, List.set_cons_succ]
  refine wpAnyV_take (i := 9) (v := ?vq23) (some 46) rfl rfl (by kernel_rfl) (by kernel_rfl) (by kernel_rfl) (by kernel_rfl) (fun _ _ _ h => h) (Or.inl ⟨by rfl, ?hyq23⟩) hS ?_
  case hyq23 => (intro w hSw; (try dsimp only at hSw); go_simp; (try with_reducible rfl))
  try simp only [Act.put, List.setIfInBounds_toArray, List.set_cons_zero, List.set_cons_succ]
  refine wpAnyV_take (i := 10) (v := ?vq24) (some 47) rfl rfl (by kernel_rfl) (by kernel_rfl) (by kernel_rfl) (by kernel_rfl) (fun _ _ _ h => h) (Or.inl ⟨by rfl, ?hyq24⟩) hS ?_
  case hyq24 => (intro w hSw; (try dsimp only at hSw); go_simp; (try with_reducible rfl))
  try simp only [Act.put, List.setIfInBounds_toArray, List.set_cons_zero, List.set_cons_succ]
  refine wpAnyV_take (i := 11) (v := ?vq25) (some 48) rfl rfl (by kernel_rfl) (by kernel_rfl) (by kernel_rfl) (by kernel_rfl) (fun _ _ _ h => h) (Or.inl ⟨by rfl, ?hyq25⟩) hS ?_
  case hyq25 => (intro w hSw; (try dsimp only at hSw); go_simp; (try with_reducible rfl))
  try simp only [Act.put, List.setIfInBounds_toArray, List.set_cons_zero, List.set_cons_succ]
  refine wpAnyV_take (i := 12) (v := ?vq26) (some 49) rfl rfl (by kernel_rfl) (by kernel_rfl) (by kernel_rfl) (by kernel_rfl) (fun _ _ _ h => h) (Or.inl ⟨by rfl, ?hyq26⟩) hS ?_
  case hyq26 => (intro w hSw; (try dsimp only at hSw); go_simp; (try with_reducible rfl))
  try simp only [Act.put, List.setIfInBounds_toArray, List.set_cons_zero, List.set_cons_succ]
  refine wpAnyV_take (i := 13) (v := ?vq27) (some 50) rfl rfl (by kernel_rfl) (by kernel_rfl) (by kernel_rfl) (by kernel_rfl) (fun _ _ _ h => h) (Or.inl ⟨by rfl, ?hyq27⟩) hS ?_
  case hyq27 => (intro w hSw; (try dsimp only at hSw); go_simp; (try with_reducible rfl))
  try simp only [Act.put, List.setIfInBounds_toArray, List.set_cons_zero, List.set_cons_succ]
  refine wpAnyV_take (i := 14) (v := ?vq28) (some 51) rfl rfl (by kernel_rfl) (by kernel_rfl) (by kernel_rfl) (by kernel_rfl) (fun _ _ _ h => h) (Or.inl ⟨by rfl, ?hyq28⟩) hS ?_
  case hyq28 => (intro w hSw; (try dsimp only at hSw); go_simp; (try with_reducible rfl))
  try simp only [Act.put, List.setIfInBounds_toArray, List.set_cons_zero, List.set_cons_succ]
  refine wpAnyV_take (i := 15) (v := ?vq29) (some 52) rfl rfl (by kernel_rfl) (by kernel_rfl) (by kernel_rfl) (by kernel_rfl) (fun _ _ _ h => h) (Or.inl ⟨by rfl, ?hyq29⟩) hS ?_
  case hyq29 => (intro w hSw; (try dsimp only at hSw); go_simp; (try with_reducible rfl))
  try simp only [Act.put, List.setIfInBounds_toArray, List.set_cons_zero, List.set_cons_succ]
  refine wpAnyV_take (i := 16) (v := ?vq30) (some 53) rfl rfl (by kernel_rfl) (by kernel_rfl) (by kernel_rfl) (by kernel_rfl) (fun _ _ _ h => h) (Or.inl ⟨by rfl, ?hyq30⟩) hS ?_
  case hyq30 => (intro w hSw; (try dsimp only at hSw); go_simp; (try with_reducible rfl))
  try simp only [Act.put, List.setIfInBounds_toArray, List.set_cons_zero, List.set_cons_succ]
  refine wpAnyV_take (i := 17) (v := ?vq31) (some 54) rfl rfl (by kernel_rfl) (by kernel_rfl) (by kernel_rfl) (by kernel_rfl) (fun _ _ _ h => h) (Or.inl ⟨by rfl, ?hyq31⟩) hS ?_
  case hyq31 => (intro w hSw; (try dsimp only at hSw); go_simp; (try with_reducible rfl))
  try simp only [Act.put, List.setIfInBounds_toArray, List.set_cons_zero, List.set_cons_succ]
  refine wpAnyV_one (i := 1) (by kernel_rfl) rfl (fun K hK => ?_)
  go_simp
  have hc := kind_2 undef txn prev page slot before_used before_data_a before_data_n before_data_c after_used after_data_a after_data_n after_data_c undoNext nextTxn txns_a txns_n txns_c dirty_a dirty_n dirty_c image_a image_n image_c (w1.drew)
  with_reducible refine hc.mono ?_
  clear hc
  rintro e w2 ⟨rfl, hkk⟩
  have hkw2 : Same w1 w2 := Kept.trans ((Kept.refl _ _).drew) hkk
  clear hkk
  have hS : (fun wx : World => wx.cell? ⟨w.heap.size + 1, 0, none⟩ = some (.int .i64 txn) ∧ wx.cell? ⟨w.heap.size + 1, 1, none⟩ = some (.int .i64 prev) ∧ wx.cell? ⟨w.heap.size + 1, 2, none⟩ = some (.int .i64 page) ∧ wx.cell? ⟨w.heap.size + 1, 3, none⟩ = some (.int .i64 slot) ∧ wx.cell? ⟨w.heap.size + 1, 4, none⟩ = some (.bool after_used) ∧ wx.cell? ⟨w.heap.size + 1, 5, none⟩ = some (.slice after_data_a after_data_n after_data_c) ∧ wx.cell? ⟨w.heap.size + 1, 6, none⟩ = some (.int .i64 undoNext)) w2 := hSx _ hkw2
  refine hK.out _ _ (fun _ => hS) ?_
  clear hK K
  try simp only [Act.put, List.setIfInBounds_toArray, List.set_cons_zero, List.set_cons_succ]
  refine wpAnyV_one (i := 4) (by kernel_rfl) rfl (fun K hK => ?_)
  go_simp
  have hc := head_transaction txn prev (w2)
  with_reducible refine hc.mono ?_
  clear hc
  rintro e w3 ⟨rfl, hkk⟩
  have hkw3 : Same w1 w3 := Kept.trans (hkw2) hkk
  clear hkk
  have hS : (fun wx : World => wx.cell? ⟨w.heap.size + 1, 0, none⟩ = some (.int .i64 txn) ∧ wx.cell? ⟨w.heap.size + 1, 1, none⟩ = some (.int .i64 prev) ∧ wx.cell? ⟨w.heap.size + 1, 2, none⟩ = some (.int .i64 page) ∧ wx.cell? ⟨w.heap.size + 1, 3, none⟩ = some (.int .i64 slot) ∧ wx.cell? ⟨w.heap.size + 1, 4, none⟩ = some (.bool after_used) ∧ wx.cell? ⟨w.heap.size + 1, 5, none⟩ = some (.slice after_data_a after_data_n after_data_c) ∧ wx.cell? ⟨w.heap.size + 1, 6, none⟩ = some (.int .i64 undoNext)) w3 := hSx _ hkw3
  refine hK.out _ _ (fun _ => hS) ?_
  clear hK K
  try simp only [Act.put, List.setIfInBounds_toArray, List.set_cons_zero, List.set_cons_succ]
  refine wpAnyV_one (i := 7) (by kernel_rfl) rfl (fun K hK => ?_)
  go_simp
  have hc := head_ahead txn prev (w3)
  with_reducible refine hc.mono ?_
  clear hc
  rintro e w4 ⟨rfl, hkk⟩
  have hkw4 : Same w1 w4 := Kept.trans (hkw3) hkk
  clear hkk
  have hS : (fun wx : World => wx.cell? ⟨w.heap.size + 1, 0, none⟩ = some (.int .i64 txn) ∧ wx.cell? ⟨w.heap.size + 1, 1, none⟩ = some (.int .i64 prev) ∧ wx.cell? ⟨w.heap.size + 1, 2, none⟩ = some (.int .i64 page) ∧ wx.cell? ⟨w.heap.size + 1, 3, none⟩ = some (.int .i64 slot) ∧ wx.cell? ⟨w.heap.size + 1, 4, none⟩ = some (.bool after_used) ∧ wx.cell? ⟨w.heap.size + 1, 5, none⟩ = some (.slice after_data_a after_data_n after_data_c) ∧ wx.cell? ⟨w.heap.size + 1, 6, none⟩ = some (.int .i64 undoNext)) w4 := hSx _ hkw4
  refine hK.out _ _ (fun _ => hS) ?_
  clear hK K
  try simp only [Act.put, List.setIfInBounds_toArray, List.set_cons_zero, List.set_cons_succ]
  refine wpAnyV_take (i := 18) (v := ?vq32) (some 55) rfl rfl (by kernel_rfl) (by kernel_rfl) (by kernel_rfl) (by kernel_rfl) (fun _ _ _ h => h) (Or.inl ⟨by rfl, ?hyq32⟩) hS ?_
  case hyq32 => (intro w hSw; (try dsimp only at hSw); go_simp; (try with_reducible rfl))
  try simp only [Act.put, List.setIfInBounds_toArray, List.set_cons_zero, List.set_cons_succ]
  have d0 : w4.cell? ⟨w.heap.size, 0, none⟩ = some (.int .i64 0) := (hb0.same hkw4).cell 0
  have f0 : w4.frozen? ⟨w.heap.size, 0, none⟩ = false := (hb0.same hkw4).frozen 0
  have d1 : w4.cell? ⟨w.heap.size, 1, none⟩ = some (.int .i64 0) := (hb0.same hkw4).cell 1
  have f1 : w4.frozen? ⟨w.heap.size, 1, none⟩ = false := (hb0.same hkw4).frozen 1
  have d2 : w4.cell? ⟨w.heap.size, 2, none⟩ = some (.int .i64 0) := (hb0.same hkw4).cell 2
  have f2 : w4.frozen? ⟨w.heap.size, 2, none⟩ = false := (hb0.same hkw4).frozen 2
  have d3 : w4.cell? ⟨w.heap.size, 3, none⟩ = some (.int .i64 0) := (hb0.same hkw4).cell 3
  have f3 : w4.frozen? ⟨w.heap.size, 3, none⟩ = false := (hb0.same hkw4).frozen 3
  have d4 : w4.cell? ⟨w.heap.size, 4, none⟩ = some (.int .i64 0) := (hb0.same hkw4).cell 4
  have f4 : w4.frozen? ⟨w.heap.size, 4, none⟩ = false := (hb0.same hkw4).frozen 4
  have d5 : w4.cell? ⟨w.heap.size, 5, none⟩ = some (.bool false) := (hb0.same hkw4).cell 5
  have f5 : w4.frozen? ⟨w.heap.size, 5, none⟩ = false := (hb0.same hkw4).frozen 5
  have d6 : w4.cell? ⟨w.heap.size, 6, none⟩ = some (.slice none 0 0) := (hb0.same hkw4).cell 6
  have f6 : w4.frozen? ⟨w.heap.size, 6, none⟩ = false := (hb0.same hkw4).frozen 6
  have d7 : w4.cell? ⟨w.heap.size, 7, none⟩ = some (.bool false) := (hb0.same hkw4).cell 7
  have f7 : w4.frozen? ⟨w.heap.size, 7, none⟩ = false := (hb0.same hkw4).frozen 7
  have d8 : w4.cell? ⟨w.heap.size, 8, none⟩ = some (.slice none 0 0) := (hb0.same hkw4).cell 8
  have f8 : w4.frozen? ⟨w.heap.size, 8, none⟩ = false := (hb0.same hkw4).frozen 8
  have d9 : w4.cell? ⟨w.heap.size, 9, none⟩ = some (.int .i64 0) := (hb0.same hkw4).cell 9
  have f9 : w4.frozen? ⟨w.heap.size, 9, none⟩ = false := (hb0.same hkw4).frozen 9
  have d10 : w4.cell? ⟨w.heap.size, 10, none⟩ = some (.int .i64 0) := (hb0.same hkw4).cell 10
  have f10 : w4.frozen? ⟨w.heap.size, 10, none⟩ = false := (hb0.same hkw4).frozen 10
  have d11 : w4.cell? ⟨w.heap.size, 11, none⟩ = some (.slice none 0 0) := (hb0.same hkw4).cell 11
  have f11 : w4.frozen? ⟨w.heap.size, 11, none⟩ = false := (hb0.same hkw4).frozen 11
  have d12 : w4.cell? ⟨w.heap.size, 12, none⟩ = some (.slice none 0 0) := (hb0.same hkw4).cell 12
  have f12 : w4.frozen? ⟨w.heap.size, 12, none⟩ = false := (hb0.same hkw4).frozen 12
  have d13 : w4.cell? ⟨w.heap.size, 13, none⟩ = some (.slice none 0 0) := (hb0.same hkw4).cell 13
  have f13 : w4.frozen? ⟨w.heap.size, 13, none⟩ = false := (hb0.same hkw4).frozen 13
  refine wpAnyV_one (i := 19) (by kernel_rfl) rfl (fun K hK => ?_)
  go_simp
  refine hK.out _ _ (fun h => absurd rfl h) ?_
  clear hK K
  refine wpAnyV_done (by kernel_rfl) ?_
  try simp only [Act.put, List.setIfInBounds_toArray, List.set_cons_zero, List.set_cons_succ]
  have hz : Same w w4 := hk1.trans hkw4
  go_wp2
  refine bodyPost_ret (v := .agg #[.int .i64 2, .int .i64 txn, .int .i64 prev, .int .i64 page, .int .i64 slot, .bool false, .slice none 0 0, .bool after_used, .slice after_data_a after_data_n after_data_c, .int .i64 undoNext, .int .i64 0, .slice none 0 0, .slice none 0 0, .slice none 0 0]) (by simp [results, Try.results38, go_sem, d0, d1, d2, d3, d4, d5, d6, d7, d8, d9, d10, d11, d12, d13]) rfl ⟨rfl, ?_⟩
  exact ((((((((((((((hz.setCell (p := ⟨w.heap.size, 0, none⟩) (.inl (Nat.le_refl _)) _).setCell (p := ⟨w.heap.size, 1, none⟩) (.inl (Nat.le_refl _)) _).setCell (p := ⟨w.heap.size, 2, none⟩) (.inl (Nat.le_refl _)) _).setCell (p := ⟨w.heap.size, 3, none⟩) (.inl (Nat.le_refl _)) _).setCell (p := ⟨w.heap.size, 4, none⟩) (.inl (Nat.le_refl _)) _).setCell (p := ⟨w.heap.size, 5, none⟩) (.inl (Nat.le_refl _)) _).setCell (p := ⟨w.heap.size, 6, none⟩) (.inl (Nat.le_refl _)) _).setCell (p := ⟨w.heap.size, 7, none⟩) (.inl (Nat.le_refl _)) _).setCell (p := ⟨w.heap.size, 8, none⟩) (.inl (Nat.le_refl _)) _).setCell (p := ⟨w.heap.size, 9, none⟩) (.inl (Nat.le_refl _)) _).setCell (p := ⟨w.heap.size, 10, none⟩) (.inl (Nat.le_refl _)) _).setCell (p := ⟨w.heap.size, 11, none⟩) (.inl (Nat.le_refl _)) _).setCell (p := ⟨w.heap.size, 12, none⟩) (.inl (Nat.le_refl _)) _).setCell (p := ⟨w.heap.size, 13, none⟩) (.inl (Nat.le_refl _)) _)
set_option maxRecDepth 100000 in
set_option maxHeartbeats 16000000 in
theorem plainRecord_3 (txn : Int) (prev : Int) (page : Int) (slot : Int) (before_used : Bool) (before_data_a : Option Addr) (before_data_n before_data_c : Nat) (after_used : Bool) (after_data_a : Option Addr) (after_data_n after_data_c : Nat) (undoNext : Int) (nextTxn : Int) (txns_a : Option Addr) (txns_n txns_c : Nat) (dirty_a : Option Addr) (dirty_n dirty_c : Nat) (image_a : Option Addr) (image_n image_c : Nat) (w : World) : Calls Try.prog 38 #[.iface 104 (.agg #[.int .i64 txn, .int .i64 prev])] w fun e w' => e = .returned (.agg #[.int .i64 3, .int .i64 txn, .int .i64 prev, .int .i64 0, .int .i64 0, .bool false, .slice none 0 0, .bool false, .slice none 0 0, .int .i64 0, .int .i64 0, .slice none 0 0, .slice none 0 0, .slice none 0 0]) ∧ Same w w' := by
  have hb0 : Blk ((w.alloc (.cells #[.int .i64 0, .int .i64 0, .int .i64 0, .int .i64 0, .int .i64 0, .bool false, .slice none 0 0, .bool false, .slice none 0 0, .int .i64 0, .int .i64 0, .slice none 0 0, .slice none 0 0, .slice none 0 0] 35)).alloc (.cells #[.int .i64 txn, .int .i64 prev] 104)) (w.heap.size) 35 [.int .i64 0, .int .i64 0, .int .i64 0, .int .i64 0, .int .i64 0, .bool false, .slice none 0 0, .bool false, .slice none 0 0, .int .i64 0, .int .i64 0, .slice none 0 0, .slice none 0 0, .slice none 0 0] := (Blk.new w #[.int .i64 0, .int .i64 0, .int .i64 0, .int .i64 0, .int .i64 0, .bool false, .slice none 0 0, .bool false, .slice none 0 0, .int .i64 0, .int .i64 0, .slice none 0 0, .slice none 0 0, .slice none 0 0] 35).alloc _
  have hb1 : Blk ((w.alloc (.cells #[.int .i64 0, .int .i64 0, .int .i64 0, .int .i64 0, .int .i64 0, .bool false, .slice none 0 0, .bool false, .slice none 0 0, .int .i64 0, .int .i64 0, .slice none 0 0, .slice none 0 0, .slice none 0 0] 35)).alloc (.cells #[.int .i64 txn, .int .i64 prev] 104)) (w.heap.size + 1) 104 [.int .i64 txn, .int .i64 prev] := by have h := Blk.new (w.alloc (.cells #[.int .i64 0, .int .i64 0, .int .i64 0, .int .i64 0, .int .i64 0, .bool false, .slice none 0 0, .bool false, .slice none 0 0, .int .i64 0, .int .i64 0, .slice none 0 0, .slice none 0 0, .slice none 0 0] 35)) #[.int .i64 txn, .int .i64 prev] 104; rwa [World.size_alloc] at h
  have hk1 : Same w ((w.alloc (.cells #[.int .i64 0, .int .i64 0, .int .i64 0, .int .i64 0, .int .i64 0, .bool false, .slice none 0 0, .bool false, .slice none 0 0, .int .i64 0, .int .i64 0, .slice none 0 0, .slice none 0 0, .slice none 0 0] 35)).alloc (.cells #[.int .i64 txn, .int .i64 prev] 104)) := ((Kept.refl _ _).alloc _).alloc _
  go_enter Try.func38, Try.ntmps38
  go_wp2_with fail
  obtain ⟨w1, hw1⟩ : ∃ w1, ((w.alloc (.cells #[.int .i64 0, .int .i64 0, .int .i64 0, .int .i64 0, .int .i64 0, .bool false, .slice none 0 0, .bool false, .slice none 0 0, .int .i64 0, .int .i64 0, .slice none 0 0, .slice none 0 0, .slice none 0 0] 35)).alloc (.cells #[.int .i64 txn, .int .i64 prev] 104)) = w1 := ⟨_, rfl⟩
  rw [hw1] at hb0 hb1 hk1 ⊢
  clear hw1
  have hSx : ∀ wx, Same w1 wx → (fun wx : World => wx.cell? ⟨w.heap.size + 1, 0, none⟩ = some (.int .i64 txn) ∧ wx.cell? ⟨w.heap.size + 1, 1, none⟩ = some (.int .i64 prev)) wx := fun wx h => ⟨(hb1.same h).cell 0, (hb1.same h).cell 1⟩
  have hS : (fun wx : World => wx.cell? ⟨w.heap.size + 1, 0, none⟩ = some (.int .i64 txn) ∧ wx.cell? ⟨w.heap.size + 1, 1, none⟩ = some (.int .i64 prev)) w1.drew := by exact hSx _ (Kept.refl _ _).drew
  refine wp_region_V (fun wx : World => wx.cell? ⟨w.heap.size + 1, 0, none⟩ = some (.int .i64 txn) ∧ wx.cell? ⟨w.heap.size + 1, 1, none⟩ = some (.int .i64 prev)) 9 10 rfl (by kernel_rfl) ?_
  refine wpAnyV_take (i := 0) (v := ?vq33) (some 59) rfl rfl (by kernel_rfl) (by kernel_rfl) (by kernel_rfl) (by kernel_rfl) (fun _ _ _ h => h) (Or.inl ⟨by rfl, ?hyq33⟩) hS ?_
  case hyq33 => (intro w hSw; (try dsimp only at hSw); go_simp; (try with_reducible rfl))
  try simp only [Act.put, List.setIfInBounds_toArray, List.set_cons_zero, List.set_cons_succ]
  refine wpAnyV_take (i := 2) (v := ?vq34) (some 61) rfl rfl (by kernel_rfl) (by kernel_rfl) (by kernel_rfl) (by kernel_rfl) (fun _ _ _ h => h) (Or.inl ⟨by rfl, ?hyq34⟩) hS ?_
  case hyq34 => (intro w hSw; (try dsimp only at hSw); go_simp; (try with_reducible rfl))
  try simp only [Act.put, List.setIfInBounds_toArray, List.set_cons_zero, List.set_cons_succ]
  refine wpAnyV_take (i := 3) (v := ?vq35) (some 62) rfl rfl (by kernel_rfl) (by kernel_rfl) (by kernel_rfl) (by kernel_rfl) (fun _ _ _ h => h) (Or.inl ⟨by rfl, ?hyq35⟩) hS ?_
  case hyq35 => (intro w hSw; (try dsimp only at hSw); go_simp; (try with_reducible rfl))
  try simp only [Act.put, List.setIfInBounds_toArray, List.set_cons_zero, List.set_cons_succ]
  refine wpAnyV_take (i := 5) (v := ?vq36) (some 64) rfl rfl (by kernel_rfl) (by kernel_rfl) (by kernel_rfl) (by kernel_rfl) (fun _ _ _ h => h) (Or.inl ⟨by rfl, ?hyq36⟩) hS ?_
  case hyq36 => (intro w hSw; (try dsimp only at hSw); go_simp; (try with_reducible rfl))
  try simp only [Act.put, List.setIfInBounds_toArray, List.set_cons_zero, List.set_cons_succ]
  refine wpAnyV_take (i := 6) (v := ?vq37) (some 65) rfl rfl (by kernel_rfl) (by kernel_rfl) (by kernel_rfl) (by kernel_rfl) (fun _ _ _ h => h) (Or.inl ⟨by rfl, ?hyq37⟩) hS ?_
  case hyq37 => (intro w hSw; (try dsimp only at hSw); go_simp; (try with_reducible rfl))
  try simp only [Act.put, List.setIfInBounds_toArray, List.set_cons_zero, List.set_cons_succ]
  refine wpAnyV_one (i := 1) (by kernel_rfl) rfl (fun K hK => ?_)
  go_simp
  have hc := kind_3 undef txn prev page slot before_used before_data_a before_data_n before_data_c after_used after_data_a after_data_n after_data_c undoNext nextTxn txns_a txns_n txns_c dirty_a dirty_n dirty_c image_a image_n image_c (w1.drew)
  with_reducible refine hc.mono ?_
  clear hc
  rintro e w2 ⟨rfl, hkk⟩
  have hkw2 : Same w1 w2 := Kept.trans ((Kept.refl _ _).drew) hkk
  clear hkk
  have hS : (fun wx : World => wx.cell? ⟨w.heap.size + 1, 0, none⟩ = some (.int .i64 txn) ∧ wx.cell? ⟨w.heap.size + 1, 1, none⟩ = some (.int .i64 prev)) w2 := hSx _ hkw2
  refine hK.out _ _ (fun _ => hS) ?_
  clear hK K
  try simp only [Act.put, List.setIfInBounds_toArray, List.set_cons_zero, List.set_cons_succ]
  refine wpAnyV_one (i := 4) (by kernel_rfl) rfl (fun K hK => ?_)
  go_simp
  have hc := head_transaction txn prev (w2)
  with_reducible refine hc.mono ?_
  clear hc
  rintro e w3 ⟨rfl, hkk⟩
  have hkw3 : Same w1 w3 := Kept.trans (hkw2) hkk
  clear hkk
  have hS : (fun wx : World => wx.cell? ⟨w.heap.size + 1, 0, none⟩ = some (.int .i64 txn) ∧ wx.cell? ⟨w.heap.size + 1, 1, none⟩ = some (.int .i64 prev)) w3 := hSx _ hkw3
  refine hK.out _ _ (fun _ => hS) ?_
  clear hK K
  try simp only [Act.put, List.setIfInBounds_toArray, List.set_cons_zero, List.set_cons_succ]
  refine wpAnyV_one (i := 7) (by kernel_rfl) rfl (fun K hK => ?_)
  go_simp
  have hc := head_ahead txn prev (w3)
  with_reducible refine hc.mono ?_
  clear hc
  rintro e w4 ⟨rfl, hkk⟩
  have hkw4 : Same w1 w4 := Kept.trans (hkw3) hkk
  clear hkk
  have hS : (fun wx : World => wx.cell? ⟨w.heap.size + 1, 0, none⟩ = some (.int .i64 txn) ∧ wx.cell? ⟨w.heap.size + 1, 1, none⟩ = some (.int .i64 prev)) w4 := hSx _ hkw4
  refine hK.out _ _ (fun _ => hS) ?_
  clear hK K
  try simp only [Act.put, List.setIfInBounds_toArray, List.set_cons_zero, List.set_cons_succ]
  refine wpAnyV_take (i := 8) (v := ?vq38) (some 67) rfl rfl (by kernel_rfl) (by kernel_rfl) (by kernel_rfl) (by kernel_rfl) (fun _ _ _ h => h) (Or.inl ⟨by rfl, ?hyq38⟩) hS ?_
  case hyq38 => (intro w hSw; (try dsimp only at hSw); go_simp; (try with_reducible rfl))
  try simp only [Act.put, List.setIfInBounds_toArray, List.set_cons_zero, List.set_cons_succ]
  have d0 : w4.cell? ⟨w.heap.size, 0, none⟩ = some (.int .i64 0) := (hb0.same hkw4).cell 0
  have f0 : w4.frozen? ⟨w.heap.size, 0, none⟩ = false := (hb0.same hkw4).frozen 0
  have d1 : w4.cell? ⟨w.heap.size, 1, none⟩ = some (.int .i64 0) := (hb0.same hkw4).cell 1
  have f1 : w4.frozen? ⟨w.heap.size, 1, none⟩ = false := (hb0.same hkw4).frozen 1
  have d2 : w4.cell? ⟨w.heap.size, 2, none⟩ = some (.int .i64 0) := (hb0.same hkw4).cell 2
  have f2 : w4.frozen? ⟨w.heap.size, 2, none⟩ = false := (hb0.same hkw4).frozen 2
  have d3 : w4.cell? ⟨w.heap.size, 3, none⟩ = some (.int .i64 0) := (hb0.same hkw4).cell 3
  have f3 : w4.frozen? ⟨w.heap.size, 3, none⟩ = false := (hb0.same hkw4).frozen 3
  have d4 : w4.cell? ⟨w.heap.size, 4, none⟩ = some (.int .i64 0) := (hb0.same hkw4).cell 4
  have f4 : w4.frozen? ⟨w.heap.size, 4, none⟩ = false := (hb0.same hkw4).frozen 4
  have d5 : w4.cell? ⟨w.heap.size, 5, none⟩ = some (.bool false) := (hb0.same hkw4).cell 5
  have f5 : w4.frozen? ⟨w.heap.size, 5, none⟩ = false := (hb0.same hkw4).frozen 5
  have d6 : w4.cell? ⟨w.heap.size, 6, none⟩ = some (.slice none 0 0) := (hb0.same hkw4).cell 6
  have f6 : w4.frozen? ⟨w.heap.size, 6, none⟩ = false := (hb0.same hkw4).frozen 6
  have d7 : w4.cell? ⟨w.heap.size, 7, none⟩ = some (.bool false) := (hb0.same hkw4).cell 7
  have f7 : w4.frozen? ⟨w.heap.size, 7, none⟩ = false := (hb0.same hkw4).frozen 7
  have d8 : w4.cell? ⟨w.heap.size, 8, none⟩ = some (.slice none 0 0) := (hb0.same hkw4).cell 8
  have f8 : w4.frozen? ⟨w.heap.size, 8, none⟩ = false := (hb0.same hkw4).frozen 8
  have d9 : w4.cell? ⟨w.heap.size, 9, none⟩ = some (.int .i64 0) := (hb0.same hkw4).cell 9
  have f9 : w4.frozen? ⟨w.heap.size, 9, none⟩ = false := (hb0.same hkw4).frozen 9
  have d10 : w4.cell? ⟨w.heap.size, 10, none⟩ = some (.int .i64 0) := (hb0.same hkw4).cell 10
  have f10 : w4.frozen? ⟨w.heap.size, 10, none⟩ = false := (hb0.same hkw4).frozen 10
  have d11 : w4.cell? ⟨w.heap.size, 11, none⟩ = some (.slice none 0 0) := (hb0.same hkw4).cell 11
  have f11 : w4.frozen? ⟨w.heap.size, 11, none⟩ = false := (hb0.same hkw4).frozen 11
  have d12 : w4.cell? ⟨w.heap.size, 12, none⟩ = some (.slice none 0 0) := (hb0.same hkw4).cell 12
  have f12 : w4.frozen? ⟨w.heap.size, 12, none⟩ = false := (hb0.same hkw4).frozen 12
  have d13 : w4.cell? ⟨w.heap.size, 13, none⟩ = some (.slice none 0 0) := (hb0.same hkw4).cell 13
  have f13 : w4.frozen? ⟨w.heap.size, 13, none⟩ = false := (hb0.same hkw4).frozen 13
  refine wpAnyV_one (i := 9) (by kernel_rfl) rfl (fun K hK => ?_)
  go_simp
  refine hK.out _ _ (fun h => absurd rfl h) ?_
  clear hK K
  refine wpAnyV_done (by kernel_rfl) ?_
  try simp only [Act.put, List.setIfInBounds_toArray, List.set_cons_zero, List.set_cons_succ]
  have hz : Same w w4 := hk1.trans hkw4
  go_wp2
  refine bodyPost_ret (v := .agg #[.int .i64 3, .int .i64 txn, .int .i64 prev, .int .i64 0, .int .i64 0, .bool false, .slice none 0 0, .bool false, .slice none 0 0, .int .i64 0, .int .i64 0, .slice none 0 0, .slice none 0 0, .slice none 0 0]) (by simp [results, Try.results38, go_sem, d0, d1, d2, d3, d4, d5, d6, d7, d8, d9, d10, d11, d12, d13]) rfl ⟨rfl, ?_⟩
  exact ((((((((((((((hz.setCell (p := ⟨w.heap.size, 0, none⟩) (.inl (Nat.le_refl _)) _).setCell (p := ⟨w.heap.size, 1, none⟩) (.inl (Nat.le_refl _)) _).setCell (p := ⟨w.heap.size, 2, none⟩) (.inl (Nat.le_refl _)) _).setCell (p := ⟨w.heap.size, 3, none⟩) (.inl (Nat.le_refl _)) _).setCell (p := ⟨w.heap.size, 4, none⟩) (.inl (Nat.le_refl _)) _).setCell (p := ⟨w.heap.size, 5, none⟩) (.inl (Nat.le_refl _)) _).setCell (p := ⟨w.heap.size, 6, none⟩) (.inl (Nat.le_refl _)) _).setCell (p := ⟨w.heap.size, 7, none⟩) (.inl (Nat.le_refl _)) _).setCell (p := ⟨w.heap.size, 8, none⟩) (.inl (Nat.le_refl _)) _).setCell (p := ⟨w.heap.size, 9, none⟩) (.inl (Nat.le_refl _)) _).setCell (p := ⟨w.heap.size, 10, none⟩) (.inl (Nat.le_refl _)) _).setCell (p := ⟨w.heap.size, 11, none⟩) (.inl (Nat.le_refl _)) _).setCell (p := ⟨w.heap.size, 12, none⟩) (.inl (Nat.le_refl _)) _).setCell (p := ⟨w.heap.size, 13, none⟩) (.inl (Nat.le_refl _)) _)
set_option maxRecDepth 100000 in
set_option maxHeartbeats 16000000 in
theorem plainRecord_4 (txn : Int) (prev : Int) (page : Int) (slot : Int) (before_used : Bool) (before_data_a : Option Addr) (before_data_n before_data_c : Nat) (after_used : Bool) (after_data_a : Option Addr) (after_data_n after_data_c : Nat) (undoNext : Int) (nextTxn : Int) (txns_a : Option Addr) (txns_n txns_c : Nat) (dirty_a : Option Addr) (dirty_n dirty_c : Nat) (image_a : Option Addr) (image_n image_c : Nat) (w : World) : Calls Try.prog 38 #[.iface 105 (.agg #[.int .i64 txn, .int .i64 prev])] w fun e w' => e = .returned (.agg #[.int .i64 4, .int .i64 txn, .int .i64 prev, .int .i64 0, .int .i64 0, .bool false, .slice none 0 0, .bool false, .slice none 0 0, .int .i64 0, .int .i64 0, .slice none 0 0, .slice none 0 0, .slice none 0 0]) ∧ Same w w' := by
  have hb0 : Blk ((w.alloc (.cells #[.int .i64 0, .int .i64 0, .int .i64 0, .int .i64 0, .int .i64 0, .bool false, .slice none 0 0, .bool false, .slice none 0 0, .int .i64 0, .int .i64 0, .slice none 0 0, .slice none 0 0, .slice none 0 0] 35)).alloc (.cells #[.int .i64 txn, .int .i64 prev] 105)) (w.heap.size) 35 [.int .i64 0, .int .i64 0, .int .i64 0, .int .i64 0, .int .i64 0, .bool false, .slice none 0 0, .bool false, .slice none 0 0, .int .i64 0, .int .i64 0, .slice none 0 0, .slice none 0 0, .slice none 0 0] := (Blk.new w #[.int .i64 0, .int .i64 0, .int .i64 0, .int .i64 0, .int .i64 0, .bool false, .slice none 0 0, .bool false, .slice none 0 0, .int .i64 0, .int .i64 0, .slice none 0 0, .slice none 0 0, .slice none 0 0] 35).alloc _
  have hb1 : Blk ((w.alloc (.cells #[.int .i64 0, .int .i64 0, .int .i64 0, .int .i64 0, .int .i64 0, .bool false, .slice none 0 0, .bool false, .slice none 0 0, .int .i64 0, .int .i64 0, .slice none 0 0, .slice none 0 0, .slice none 0 0] 35)).alloc (.cells #[.int .i64 txn, .int .i64 prev] 105)) (w.heap.size + 1) 105 [.int .i64 txn, .int .i64 prev] := by have h := Blk.new (w.alloc (.cells #[.int .i64 0, .int .i64 0, .int .i64 0, .int .i64 0, .int .i64 0, .bool false, .slice none 0 0, .bool false, .slice none 0 0, .int .i64 0, .int .i64 0, .slice none 0 0, .slice none 0 0, .slice none 0 0] 35)) #[.int .i64 txn, .int .i64 prev] 105; rwa [World.size_alloc] at h
  have hk1 : Same w ((w.alloc (.cells #[.int .i64 0, .int .i64 0, .int .i64 0, .int .i64 0, .int .i64 0, .bool false, .slice none 0 0, .bool false, .slice none 0 0, .int .i64 0, .int .i64 0, .slice none 0 0, .slice none 0 0, .slice none 0 0] 35)).alloc (.cells #[.int .i64 txn, .int .i64 prev] 105)) := ((Kept.refl _ _).alloc _).alloc _
  go_enter Try.func38, Try.ntmps38
  go_wp2_with fail
  obtain ⟨w1, hw1⟩ : ∃ w1, ((w.alloc (.cells #[.int .i64 0, .int .i64 0, .int .i64 0, .int .i64 0, .int .i64 0, .bool false, .slice none 0 0, .bool false, .slice none 0 0, .int .i64 0, .int .i64 0, .slice none 0 0, .slice none 0 0, .slice none 0 0] 35)).alloc (.cells #[.int .i64 txn, .int .i64 prev] 105)) = w1 := ⟨_, rfl⟩
  rw [hw1] at hb0 hb1 hk1 ⊢
  clear hw1
  have hSx : ∀ wx, Same w1 wx → (fun wx : World => wx.cell? ⟨w.heap.size + 1, 0, none⟩ = some (.int .i64 txn) ∧ wx.cell? ⟨w.heap.size + 1, 1, none⟩ = some (.int .i64 prev)) wx := fun wx h => ⟨(hb1.same h).cell 0, (hb1.same h).cell 1⟩
  have hS : (fun wx : World => wx.cell? ⟨w.heap.size + 1, 0, none⟩ = some (.int .i64 txn) ∧ wx.cell? ⟨w.heap.size + 1, 1, none⟩ = some (.int .i64 prev)) w1.drew := by exact hSx _ (Kept.refl _ _).drew
  refine wp_region_V (fun wx : World => wx.cell? ⟨w.heap.size + 1, 0, none⟩ = some (.int .i64 txn) ∧ wx.cell? ⟨w.heap.size + 1, 1, none⟩ = some (.int .i64 prev)) 9 10 rfl (by kernel_rfl) ?_
  refine wpAnyV_take (i := 0) (v := ?vq39) (some 71) rfl rfl (by kernel_rfl) (by kernel_rfl) (by kernel_rfl) (by kernel_rfl) (fun _ _ _ h => h) (Or.inl ⟨by rfl, ?hyq39⟩) hS ?_
  case hyq39 => (intro w hSw; (try dsimp only at hSw); go_simp; (try with_reducible rfl))
  try simp only [Act.put, List.setIfInBounds_toArray, List.set_cons_zero, List.set_cons_succ]
  refine wpAnyV_take (i := 2) (v := ?vq40) (some 73) rfl rfl (by kernel_rfl) (by kernel_rfl) (by kernel_rfl) (by kernel_rfl) (fun _ _ _ h => h) (Or.inl ⟨by rfl, ?hyq40⟩) hS ?_
  case hyq40 => (intro w hSw; (try dsimp only at hSw); go_simp; (try with_reducible rfl))
  try simp only [Act.put, List.setIfInBounds_toArray, List.set_cons_zero, List.set_cons_succ]
  refine wpAnyV_take (i := 3) (v := ?vq41) (some 74) rfl rfl (by kernel_rfl) (by kernel_rfl) (by kernel_rfl) (by kernel_rfl) (fun _ _ _ h => h) (Or.inl ⟨by rfl, ?hyq41⟩) hS ?_
  case hyq41 => (intro w hSw; (try dsimp only at hSw); go_simp; (try with_reducible rfl))
  try simp only [Act.put, List.setIfInBounds_toArray, List.set_cons_zero, List.set_cons_succ]
  refine wpAnyV_take (i := 5) (v := ?vq42) (some 76) rfl rfl (by kernel_rfl) (by kernel_rfl) (by kernel_rfl) (by kernel_rfl) (fun _ _ _ h => h) (Or.inl ⟨by rfl, ?hyq42⟩) hS ?_
  case hyq42 => (intro w hSw; (try dsimp only at hSw); go_simp; (try with_reducible rfl))
  try simp only [Act.put, List.setIfInBounds_toArray, List.set_cons_zero, List.set_cons_succ]
  refine wpAnyV_take (i := 6) (v := ?vq43) (some 77) rfl rfl (by kernel_rfl) (by kernel_rfl) (by kernel_rfl) (by kernel_rfl) (fun _ _ _ h => h) (Or.inl ⟨by rfl, ?hyq43⟩) hS ?_
  case hyq43 => (intro w hSw; (try dsimp only at hSw); go_simp; (try with_reducible rfl))
  try simp only [Act.put, List.setIfInBounds_toArray, List.set_cons_zero, List.set_cons_succ]
  refine wpAnyV_one (i := 1) (by kernel_rfl) rfl (fun K hK => ?_)
  go_simp
  have hc := kind_4 undef txn prev page slot before_used before_data_a before_data_n before_data_c after_used after_data_a after_data_n after_data_c undoNext nextTxn txns_a txns_n txns_c dirty_a dirty_n dirty_c image_a image_n image_c (w1.drew)
  with_reducible refine hc.mono ?_
  clear hc
  rintro e w2 ⟨rfl, hkk⟩
  have hkw2 : Same w1 w2 := Kept.trans ((Kept.refl _ _).drew) hkk
  clear hkk
  have hS : (fun wx : World => wx.cell? ⟨w.heap.size + 1, 0, none⟩ = some (.int .i64 txn) ∧ wx.cell? ⟨w.heap.size + 1, 1, none⟩ = some (.int .i64 prev)) w2 := hSx _ hkw2
  refine hK.out _ _ (fun _ => hS) ?_
  clear hK K
  try simp only [Act.put, List.setIfInBounds_toArray, List.set_cons_zero, List.set_cons_succ]
  refine wpAnyV_one (i := 4) (by kernel_rfl) rfl (fun K hK => ?_)
  go_simp
  have hc := head_transaction txn prev (w2)
  with_reducible refine hc.mono ?_
  clear hc
  rintro e w3 ⟨rfl, hkk⟩
  have hkw3 : Same w1 w3 := Kept.trans (hkw2) hkk
  clear hkk
  have hS : (fun wx : World => wx.cell? ⟨w.heap.size + 1, 0, none⟩ = some (.int .i64 txn) ∧ wx.cell? ⟨w.heap.size + 1, 1, none⟩ = some (.int .i64 prev)) w3 := hSx _ hkw3
  refine hK.out _ _ (fun _ => hS) ?_
  clear hK K
  try simp only [Act.put, List.setIfInBounds_toArray, List.set_cons_zero, List.set_cons_succ]
  refine wpAnyV_one (i := 7) (by kernel_rfl) rfl (fun K hK => ?_)
  go_simp
  have hc := head_ahead txn prev (w3)
  with_reducible refine hc.mono ?_
  clear hc
  rintro e w4 ⟨rfl, hkk⟩
  have hkw4 : Same w1 w4 := Kept.trans (hkw3) hkk
  clear hkk
  have hS : (fun wx : World => wx.cell? ⟨w.heap.size + 1, 0, none⟩ = some (.int .i64 txn) ∧ wx.cell? ⟨w.heap.size + 1, 1, none⟩ = some (.int .i64 prev)) w4 := hSx _ hkw4
  refine hK.out _ _ (fun _ => hS) ?_
  clear hK K
  try simp only [Act.put, List.setIfInBounds_toArray, List.set_cons_zero, List.set_cons_succ]
  refine wpAnyV_take (i := 8) (v := ?vq44) (some 79) rfl rfl (by kernel_rfl) (by kernel_rfl) (by kernel_rfl) (by kernel_rfl) (fun _ _ _ h => h) (Or.inl ⟨by rfl, ?hyq44⟩) hS ?_
  case hyq44 => (intro w hSw; (try dsimp only at hSw); go_simp; (try with_reducible rfl))
  try simp only [Act.put, List.setIfInBounds_toArray, List.set_cons_zero, List.set_cons_succ]
  have d0 : w4.cell? ⟨w.heap.size, 0, none⟩ = some (.int .i64 0) := (hb0.same hkw4).cell 0
  have f0 : w4.frozen? ⟨w.heap.size, 0, none⟩ = false := (hb0.same hkw4).frozen 0
  have d1 : w4.cell? ⟨w.heap.size, 1, none⟩ = some (.int .i64 0) := (hb0.same hkw4).cell 1
  have f1 : w4.frozen? ⟨w.heap.size, 1, none⟩ = false := (hb0.same hkw4).frozen 1
  have d2 : w4.cell? ⟨w.heap.size, 2, none⟩ = some (.int .i64 0) := (hb0.same hkw4).cell 2
  have f2 : w4.frozen? ⟨w.heap.size, 2, none⟩ = false := (hb0.same hkw4).frozen 2
  have d3 : w4.cell? ⟨w.heap.size, 3, none⟩ = some (.int .i64 0) := (hb0.same hkw4).cell 3
  have f3 : w4.frozen? ⟨w.heap.size, 3, none⟩ = false := (hb0.same hkw4).frozen 3
  have d4 : w4.cell? ⟨w.heap.size, 4, none⟩ = some (.int .i64 0) := (hb0.same hkw4).cell 4
  have f4 : w4.frozen? ⟨w.heap.size, 4, none⟩ = false := (hb0.same hkw4).frozen 4
  have d5 : w4.cell? ⟨w.heap.size, 5, none⟩ = some (.bool false) := (hb0.same hkw4).cell 5
  have f5 : w4.frozen? ⟨w.heap.size, 5, none⟩ = false := (hb0.same hkw4).frozen 5
  have d6 : w4.cell? ⟨w.heap.size, 6, none⟩ = some (.slice none 0 0) := (hb0.same hkw4).cell 6
  have f6 : w4.frozen? ⟨w.heap.size, 6, none⟩ = false := (hb0.same hkw4).frozen 6
  have d7 : w4.cell? ⟨w.heap.size, 7, none⟩ = some (.bool false) := (hb0.same hkw4).cell 7
  have f7 : w4.frozen? ⟨w.heap.size, 7, none⟩ = false := (hb0.same hkw4).frozen 7
  have d8 : w4.cell? ⟨w.heap.size, 8, none⟩ = some (.slice none 0 0) := (hb0.same hkw4).cell 8
  have f8 : w4.frozen? ⟨w.heap.size, 8, none⟩ = false := (hb0.same hkw4).frozen 8
  have d9 : w4.cell? ⟨w.heap.size, 9, none⟩ = some (.int .i64 0) := (hb0.same hkw4).cell 9
  have f9 : w4.frozen? ⟨w.heap.size, 9, none⟩ = false := (hb0.same hkw4).frozen 9
  have d10 : w4.cell? ⟨w.heap.size, 10, none⟩ = some (.int .i64 0) := (hb0.same hkw4).cell 10
  have f10 : w4.frozen? ⟨w.heap.size, 10, none⟩ = false := (hb0.same hkw4).frozen 10
  have d11 : w4.cell? ⟨w.heap.size, 11, none⟩ = some (.slice none 0 0) := (hb0.same hkw4).cell 11
  have f11 : w4.frozen? ⟨w.heap.size, 11, none⟩ = false := (hb0.same hkw4).frozen 11
  have d12 : w4.cell? ⟨w.heap.size, 12, none⟩ = some (.slice none 0 0) := (hb0.same hkw4).cell 12
  have f12 : w4.frozen? ⟨w.heap.size, 12, none⟩ = false := (hb0.same hkw4).frozen 12
  have d13 : w4.cell? ⟨w.heap.size, 13, none⟩ = some (.slice none 0 0) := (hb0.same hkw4).cell 13
  have f13 : w4.frozen? ⟨w.heap.size, 13, none⟩ = false := (hb0.same hkw4).frozen 13
  refine wpAnyV_one (i := 9) (by kernel_rfl) rfl (fun K hK => ?_)
  go_simp
  refine hK.out _ _ (fun h => absurd rfl h) ?_
  clear hK K
  refine wpAnyV_done (by kernel_rfl) ?_
  try simp only [Act.put, List.setIfInBounds_toArray, List.set_cons_zero, List.set_cons_succ]
  have hz : Same w w4 := hk1.trans hkw4
  go_wp2
  refine bodyPost_ret (v := .agg #[.int .i64 4, .int .i64 txn, .int .i64 prev, .int .i64 0, .int .i64 0, .bool false, .slice none 0 0, .bool false, .slice none 0 0, .int .i64 0, .int .i64 0, .slice none 0 0, .slice none 0 0, .slice none 0 0]) (by simp [results, Try.results38, go_sem, d0, d1, d2, d3, d4, d5, d6, d7, d8, d9, d10, d11, d12, d13]) rfl ⟨rfl, ?_⟩
  exact ((((((((((((((hz.setCell (p := ⟨w.heap.size, 0, none⟩) (.inl (Nat.le_refl _)) _).setCell (p := ⟨w.heap.size, 1, none⟩) (.inl (Nat.le_refl _)) _).setCell (p := ⟨w.heap.size, 2, none⟩) (.inl (Nat.le_refl _)) _).setCell (p := ⟨w.heap.size, 3, none⟩) (.inl (Nat.le_refl _)) _).setCell (p := ⟨w.heap.size, 4, none⟩) (.inl (Nat.le_refl _)) _).setCell (p := ⟨w.heap.size, 5, none⟩) (.inl (Nat.le_refl _)) _).setCell (p := ⟨w.heap.size, 6, none⟩) (.inl (Nat.le_refl _)) _).setCell (p := ⟨w.heap.size, 7, none⟩) (.inl (Nat.le_refl _)) _).setCell (p := ⟨w.heap.size, 8, none⟩) (.inl (Nat.le_refl _)) _).setCell (p := ⟨w.heap.size, 9, none⟩) (.inl (Nat.le_refl _)) _).setCell (p := ⟨w.heap.size, 10, none⟩) (.inl (Nat.le_refl _)) _).setCell (p := ⟨w.heap.size, 11, none⟩) (.inl (Nat.le_refl _)) _).setCell (p := ⟨w.heap.size, 12, none⟩) (.inl (Nat.le_refl _)) _).setCell (p := ⟨w.heap.size, 13, none⟩) (.inl (Nat.le_refl _)) _)
set_option maxRecDepth 100000 in
set_option maxHeartbeats 16000000 in
theorem plainRecord_5 (txn : Int) (prev : Int) (page : Int) (slot : Int) (before_used : Bool) (before_data_a : Option Addr) (before_data_n before_data_c : Nat) (after_used : Bool) (after_data_a : Option Addr) (after_data_n after_data_c : Nat) (undoNext : Int) (nextTxn : Int) (txns_a : Option Addr) (txns_n txns_c : Nat) (dirty_a : Option Addr) (dirty_n dirty_c : Nat) (image_a : Option Addr) (image_n image_c : Nat) (w : World) : Calls Try.prog 38 #[.iface 106 (.agg #[.int .i64 txn, .int .i64 prev])] w fun e w' => e = .returned (.agg #[.int .i64 5, .int .i64 txn, .int .i64 prev, .int .i64 0, .int .i64 0, .bool false, .slice none 0 0, .bool false, .slice none 0 0, .int .i64 0, .int .i64 0, .slice none 0 0, .slice none 0 0, .slice none 0 0]) ∧ Same w w' := by
  have hb0 : Blk ((w.alloc (.cells #[.int .i64 0, .int .i64 0, .int .i64 0, .int .i64 0, .int .i64 0, .bool false, .slice none 0 0, .bool false, .slice none 0 0, .int .i64 0, .int .i64 0, .slice none 0 0, .slice none 0 0, .slice none 0 0] 35)).alloc (.cells #[.int .i64 txn, .int .i64 prev] 106)) (w.heap.size) 35 [.int .i64 0, .int .i64 0, .int .i64 0, .int .i64 0, .int .i64 0, .bool false, .slice none 0 0, .bool false, .slice none 0 0, .int .i64 0, .int .i64 0, .slice none 0 0, .slice none 0 0, .slice none 0 0] := (Blk.new w #[.int .i64 0, .int .i64 0, .int .i64 0, .int .i64 0, .int .i64 0, .bool false, .slice none 0 0, .bool false, .slice none 0 0, .int .i64 0, .int .i64 0, .slice none 0 0, .slice none 0 0, .slice none 0 0] 35).alloc _
  have hb1 : Blk ((w.alloc (.cells #[.int .i64 0, .int .i64 0, .int .i64 0, .int .i64 0, .int .i64 0, .bool false, .slice none 0 0, .bool false, .slice none 0 0, .int .i64 0, .int .i64 0, .slice none 0 0, .slice none 0 0, .slice none 0 0] 35)).alloc (.cells #[.int .i64 txn, .int .i64 prev] 106)) (w.heap.size + 1) 106 [.int .i64 txn, .int .i64 prev] := by have h := Blk.new (w.alloc (.cells #[.int .i64 0, .int .i64 0, .int .i64 0, .int .i64 0, .int .i64 0, .bool false, .slice none 0 0, .bool false, .slice none 0 0, .int .i64 0, .int .i64 0, .slice none 0 0, .slice none 0 0, .slice none 0 0] 35)) #[.int .i64 txn, .int .i64 prev] 106; rwa [World.size_alloc] at h
  have hk1 : Same w ((w.alloc (.cells #[.int .i64 0, .int .i64 0, .int .i64 0, .int .i64 0, .int .i64 0, .bool false, .slice none 0 0, .bool false, .slice none 0 0, .int .i64 0, .int .i64 0, .slice none 0 0, .slice none 0 0, .slice none 0 0] 35)).alloc (.cells #[.int .i64 txn, .int .i64 prev] 106)) := ((Kept.refl _ _).alloc _).alloc _
  go_enter Try.func38, Try.ntmps38
  go_wp2_with fail
  obtain ⟨w1, hw1⟩ : ∃ w1, ((w.alloc (.cells #[.int .i64 0, .int .i64 0, .int .i64 0, .int .i64 0, .int .i64 0, .bool false, .slice none 0 0, .bool false, .slice none 0 0, .int .i64 0, .int .i64 0, .slice none 0 0, .slice none 0 0, .slice none 0 0] 35)).alloc (.cells #[.int .i64 txn, .int .i64 prev] 106)) = w1 := ⟨_, rfl⟩
  rw [hw1] at hb0 hb1 hk1 ⊢
  clear hw1
  have hSx : ∀ wx, Same w1 wx → (fun wx : World => wx.cell? ⟨w.heap.size + 1, 0, none⟩ = some (.int .i64 txn) ∧ wx.cell? ⟨w.heap.size + 1, 1, none⟩ = some (.int .i64 prev)) wx := fun wx h => ⟨(hb1.same h).cell 0, (hb1.same h).cell 1⟩
  have hS : (fun wx : World => wx.cell? ⟨w.heap.size + 1, 0, none⟩ = some (.int .i64 txn) ∧ wx.cell? ⟨w.heap.size + 1, 1, none⟩ = some (.int .i64 prev)) w1.drew := by exact hSx _ (Kept.refl _ _).drew
  refine wp_region_V (fun wx : World => wx.cell? ⟨w.heap.size + 1, 0, none⟩ = some (.int .i64 txn) ∧ wx.cell? ⟨w.heap.size + 1, 1, none⟩ = some (.int .i64 prev)) 9 10 rfl (by kernel_rfl) ?_
  refine wpAnyV_take (i := 0) (v := ?vq45) (some 83) rfl rfl (by kernel_rfl) (by kernel_rfl) (by kernel_rfl) (by kernel_rfl) (fun _ _ _ h => h) (Or.inl ⟨by rfl, ?hyq45⟩) hS ?_
  case hyq45 => (intro w hSw; (try dsimp only at hSw); go_simp; (try with_reducible rfl))
  try simp only [Act.put, List.setIfInBounds_toArray, List.set_cons_zero, List.set_cons_succ]
  refine wpAnyV_take (i := 2) (v := ?vq46) (some 85) rfl rfl (by kernel_rfl) (by kernel_rfl) (by kernel_rfl) (by kernel_rfl) (fun _ _ _ h => h) (Or.inl ⟨by rfl, ?hyq46⟩) hS ?_
  case hyq46 => (intro w hSw; (try dsimp only at hSw); go_simp; (try with_reducible rfl))
  try simp only [Act.put, List.setIfInBounds_toArray, List.set_cons_zero, List.set_cons_succ]
  refine wpAnyV_take (i := 3) (v := ?vq47) (some 86) rfl rfl (by kernel_rfl) (by kernel_rfl) (by kernel_rfl) (by kernel_rfl) (fun _ _ _ h => h) (Or.inl ⟨by rfl, ?hyq47⟩) hS ?_
  case hyq47 => (intro w hSw; (try dsimp only at hSw); go_simp; (try with_reducible rfl))
  try simp only [Act.put, List.setIfInBounds_toArray, List.set_cons_zero, List.set_cons_succ]
  refine wpAnyV_take (i := 5) (v := ?vq48) (some 88) rfl rfl (by kernel_rfl) (by kernel_rfl) (by kernel_rfl) (by kernel_rfl) (fun _ _ _ h => h) (Or.inl ⟨by rfl, ?hyq48⟩) hS ?_
  case hyq48 => (intro w hSw; (try dsimp only at hSw); go_simp; (try with_reducible rfl))
  try simp only [Act.put, List.setIfInBounds_toArray, List.set_cons_zero, List.set_cons_succ]
  refine wpAnyV_take (i := 6) (v := ?vq49) (some 89) rfl rfl (by kernel_rfl) (by kernel_rfl) (by kernel_rfl) (by kernel_rfl) (fun _ _ _ h => h) (Or.inl ⟨by rfl, ?hyq49⟩) hS ?_
  case hyq49 => (intro w hSw; (try dsimp only at hSw); go_simp; (try with_reducible rfl))
  try simp only [Act.put, List.setIfInBounds_toArray, List.set_cons_zero, List.set_cons_succ]
  refine wpAnyV_one (i := 1) (by kernel_rfl) rfl (fun K hK => ?_)
  go_simp
  have hc := kind_5 undef txn prev page slot before_used before_data_a before_data_n before_data_c after_used after_data_a after_data_n after_data_c undoNext nextTxn txns_a txns_n txns_c dirty_a dirty_n dirty_c image_a image_n image_c (w1.drew)
  with_reducible refine hc.mono ?_
  clear hc
  rintro e w2 ⟨rfl, hkk⟩
  have hkw2 : Same w1 w2 := Kept.trans ((Kept.refl _ _).drew) hkk
  clear hkk
  have hS : (fun wx : World => wx.cell? ⟨w.heap.size + 1, 0, none⟩ = some (.int .i64 txn) ∧ wx.cell? ⟨w.heap.size + 1, 1, none⟩ = some (.int .i64 prev)) w2 := hSx _ hkw2
  refine hK.out _ _ (fun _ => hS) ?_
  clear hK K
  try simp only [Act.put, List.setIfInBounds_toArray, List.set_cons_zero, List.set_cons_succ]
  refine wpAnyV_one (i := 4) (by kernel_rfl) rfl (fun K hK => ?_)
  go_simp
  have hc := head_transaction txn prev (w2)
  with_reducible refine hc.mono ?_
  clear hc
  rintro e w3 ⟨rfl, hkk⟩
  have hkw3 : Same w1 w3 := Kept.trans (hkw2) hkk
  clear hkk
  have hS : (fun wx : World => wx.cell? ⟨w.heap.size + 1, 0, none⟩ = some (.int .i64 txn) ∧ wx.cell? ⟨w.heap.size + 1, 1, none⟩ = some (.int .i64 prev)) w3 := hSx _ hkw3
  refine hK.out _ _ (fun _ => hS) ?_
  clear hK K
  try simp only [Act.put, List.setIfInBounds_toArray, List.set_cons_zero, List.set_cons_succ]
  refine wpAnyV_one (i := 7) (by kernel_rfl) rfl (fun K hK => ?_)
  go_simp
  have hc := head_ahead txn prev (w3)
  with_reducible refine hc.mono ?_
  clear hc
  rintro e w4 ⟨rfl, hkk⟩
  have hkw4 : Same w1 w4 := Kept.trans (hkw3) hkk
  clear hkk
  have hS : (fun wx : World => wx.cell? ⟨w.heap.size + 1, 0, none⟩ = some (.int .i64 txn) ∧ wx.cell? ⟨w.heap.size + 1, 1, none⟩ = some (.int .i64 prev)) w4 := hSx _ hkw4
  refine hK.out _ _ (fun _ => hS) ?_
  clear hK K
  try simp only [Act.put, List.setIfInBounds_toArray, List.set_cons_zero, List.set_cons_succ]
  refine wpAnyV_take (i := 8) (v := ?vq50) (some 91) rfl rfl (by kernel_rfl) (by kernel_rfl) (by kernel_rfl) (by kernel_rfl) (fun _ _ _ h => h) (Or.inl ⟨by rfl, ?hyq50⟩) hS ?_
  case hyq50 => (intro w hSw; (try dsimp only at hSw); go_simp; (try with_reducible rfl))
  try simp only [Act.put, List.setIfInBounds_toArray, List.set_cons_zero, List.set_cons_succ]
  have d0 : w4.cell? ⟨w.heap.size, 0, none⟩ = some (.int .i64 0) := (hb0.same hkw4).cell 0
  have f0 : w4.frozen? ⟨w.heap.size, 0, none⟩ = false := (hb0.same hkw4).frozen 0
  have d1 : w4.cell? ⟨w.heap.size, 1, none⟩ = some (.int .i64 0) := (hb0.same hkw4).cell 1
  have f1 : w4.frozen? ⟨w.heap.size, 1, none⟩ = false := (hb0.same hkw4).frozen 1
  have d2 : w4.cell? ⟨w.heap.size, 2, none⟩ = some (.int .i64 0) := (hb0.same hkw4).cell 2
  have f2 : w4.frozen? ⟨w.heap.size, 2, none⟩ = false := (hb0.same hkw4).frozen 2
  have d3 : w4.cell? ⟨w.heap.size, 3, none⟩ = some (.int .i64 0) := (hb0.same hkw4).cell 3
  have f3 : w4.frozen? ⟨w.heap.size, 3, none⟩ = false := (hb0.same hkw4).frozen 3
  have d4 : w4.cell? ⟨w.heap.size, 4, none⟩ = some (.int .i64 0) := (hb0.same hkw4).cell 4
  have f4 : w4.frozen? ⟨w.heap.size, 4, none⟩ = false := (hb0.same hkw4).frozen 4
  have d5 : w4.cell? ⟨w.heap.size, 5, none⟩ = some (.bool false) := (hb0.same hkw4).cell 5
  have f5 : w4.frozen? ⟨w.heap.size, 5, none⟩ = false := (hb0.same hkw4).frozen 5
  have d6 : w4.cell? ⟨w.heap.size, 6, none⟩ = some (.slice none 0 0) := (hb0.same hkw4).cell 6
  have f6 : w4.frozen? ⟨w.heap.size, 6, none⟩ = false := (hb0.same hkw4).frozen 6
  have d7 : w4.cell? ⟨w.heap.size, 7, none⟩ = some (.bool false) := (hb0.same hkw4).cell 7
  have f7 : w4.frozen? ⟨w.heap.size, 7, none⟩ = false := (hb0.same hkw4).frozen 7
  have d8 : w4.cell? ⟨w.heap.size, 8, none⟩ = some (.slice none 0 0) := (hb0.same hkw4).cell 8
  have f8 : w4.frozen? ⟨w.heap.size, 8, none⟩ = false := (hb0.same hkw4).frozen 8
  have d9 : w4.cell? ⟨w.heap.size, 9, none⟩ = some (.int .i64 0) := (hb0.same hkw4).cell 9
  have f9 : w4.frozen? ⟨w.heap.size, 9, none⟩ = false := (hb0.same hkw4).frozen 9
  have d10 : w4.cell? ⟨w.heap.size, 10, none⟩ = some (.int .i64 0) := (hb0.same hkw4).cell 10
  have f10 : w4.frozen? ⟨w.heap.size, 10, none⟩ = false := (hb0.same hkw4).frozen 10
  have d11 : w4.cell? ⟨w.heap.size, 11, none⟩ = some (.slice none 0 0) := (hb0.same hkw4).cell 11
  have f11 : w4.frozen? ⟨w.heap.size, 11, none⟩ = false := (hb0.same hkw4).frozen 11
  have d12 : w4.cell? ⟨w.heap.size, 12, none⟩ = some (.slice none 0 0) := (hb0.same hkw4).cell 12
  have f12 : w4.frozen? ⟨w.heap.size, 12, none⟩ = false := (hb0.same hkw4).frozen 12
  have d13 : w4.cell? ⟨w.heap.size, 13, none⟩ = some (.slice none 0 0) := (hb0.same hkw4).cell 13
  have f13 : w4.frozen? ⟨w.heap.size, 13, none⟩ = false := (hb0.same hkw4).frozen 13
  refine wpAnyV_one (i := 9) (by kernel_rfl) rfl (fun K hK => ?_)
  go_simp
  refine hK.out _ _ (fun h => absurd rfl h) ?_
  clear hK K
  refine wpAnyV_done (by kernel_rfl) ?_
  try simp only [Act.put, List.setIfInBounds_toArray, List.set_cons_zero, List.set_cons_succ]
  have hz : Same w w4 := hk1.trans hkw4
  go_wp2
  refine bodyPost_ret (v := .agg #[.int .i64 5, .int .i64 txn, .int .i64 prev, .int .i64 0, .int .i64 0, .bool false, .slice none 0 0, .bool false, .slice none 0 0, .int .i64 0, .int .i64 0, .slice none 0 0, .slice none 0 0, .slice none 0 0]) (by simp [results, Try.results38, go_sem, d0, d1, d2, d3, d4, d5, d6, d7, d8, d9, d10, d11, d12, d13]) rfl ⟨rfl, ?_⟩
  exact ((((((((((((((hz.setCell (p := ⟨w.heap.size, 0, none⟩) (.inl (Nat.le_refl _)) _).setCell (p := ⟨w.heap.size, 1, none⟩) (.inl (Nat.le_refl _)) _).setCell (p := ⟨w.heap.size, 2, none⟩) (.inl (Nat.le_refl _)) _).setCell (p := ⟨w.heap.size, 3, none⟩) (.inl (Nat.le_refl _)) _).setCell (p := ⟨w.heap.size, 4, none⟩) (.inl (Nat.le_refl _)) _).setCell (p := ⟨w.heap.size, 5, none⟩) (.inl (Nat.le_refl _)) _).setCell (p := ⟨w.heap.size, 6, none⟩) (.inl (Nat.le_refl _)) _).setCell (p := ⟨w.heap.size, 7, none⟩) (.inl (Nat.le_refl _)) _).setCell (p := ⟨w.heap.size, 8, none⟩) (.inl (Nat.le_refl _)) _).setCell (p := ⟨w.heap.size, 9, none⟩) (.inl (Nat.le_refl _)) _).setCell (p := ⟨w.heap.size, 10, none⟩) (.inl (Nat.le_refl _)) _).setCell (p := ⟨w.heap.size, 11, none⟩) (.inl (Nat.le_refl _)) _).setCell (p := ⟨w.heap.size, 12, none⟩) (.inl (Nat.le_refl _)) _).setCell (p := ⟨w.heap.size, 13, none⟩) (.inl (Nat.le_refl _)) _)
set_option maxRecDepth 100000 in
set_option maxHeartbeats 16000000 in
theorem plainRecord_6 (txn : Int) (prev : Int) (page : Int) (slot : Int) (before_used : Bool) (before_data_a : Option Addr) (before_data_n before_data_c : Nat) (after_used : Bool) (after_data_a : Option Addr) (after_data_n after_data_c : Nat) (undoNext : Int) (nextTxn : Int) (txns_a : Option Addr) (txns_n txns_c : Nat) (dirty_a : Option Addr) (dirty_n dirty_c : Nat) (image_a : Option Addr) (image_n image_c : Nat) (w : World) : Calls Try.prog 38 #[.iface 107 (.agg #[.int .i64 0, .int .i64 0])] w fun e w' => e = .returned (.agg #[.int .i64 6, .int .i64 0, .int .i64 0, .int .i64 0, .int .i64 0, .bool false, .slice none 0 0, .bool false, .slice none 0 0, .int .i64 0, .int .i64 0, .slice none 0 0, .slice none 0 0, .slice none 0 0]) ∧ Same w w' := by
  have hb0 : Blk ((w.alloc (.cells #[.int .i64 0, .int .i64 0, .int .i64 0, .int .i64 0, .int .i64 0, .bool false, .slice none 0 0, .bool false, .slice none 0 0, .int .i64 0, .int .i64 0, .slice none 0 0, .slice none 0 0, .slice none 0 0] 35)).alloc (.cells #[.int .i64 0, .int .i64 0] 107)) (w.heap.size) 35 [.int .i64 0, .int .i64 0, .int .i64 0, .int .i64 0, .int .i64 0, .bool false, .slice none 0 0, .bool false, .slice none 0 0, .int .i64 0, .int .i64 0, .slice none 0 0, .slice none 0 0, .slice none 0 0] := (Blk.new w #[.int .i64 0, .int .i64 0, .int .i64 0, .int .i64 0, .int .i64 0, .bool false, .slice none 0 0, .bool false, .slice none 0 0, .int .i64 0, .int .i64 0, .slice none 0 0, .slice none 0 0, .slice none 0 0] 35).alloc _
  have hb1 : Blk ((w.alloc (.cells #[.int .i64 0, .int .i64 0, .int .i64 0, .int .i64 0, .int .i64 0, .bool false, .slice none 0 0, .bool false, .slice none 0 0, .int .i64 0, .int .i64 0, .slice none 0 0, .slice none 0 0, .slice none 0 0] 35)).alloc (.cells #[.int .i64 0, .int .i64 0] 107)) (w.heap.size + 1) 107 [.int .i64 0, .int .i64 0] := by have h := Blk.new (w.alloc (.cells #[.int .i64 0, .int .i64 0, .int .i64 0, .int .i64 0, .int .i64 0, .bool false, .slice none 0 0, .bool false, .slice none 0 0, .int .i64 0, .int .i64 0, .slice none 0 0, .slice none 0 0, .slice none 0 0] 35)) #[.int .i64 0, .int .i64 0] 107; rwa [World.size_alloc] at h
  have hk1 : Same w ((w.alloc (.cells #[.int .i64 0, .int .i64 0, .int .i64 0, .int .i64 0, .int .i64 0, .bool false, .slice none 0 0, .bool false, .slice none 0 0, .int .i64 0, .int .i64 0, .slice none 0 0, .slice none 0 0, .slice none 0 0] 35)).alloc (.cells #[.int .i64 0, .int .i64 0] 107)) := ((Kept.refl _ _).alloc _).alloc _
  go_enter Try.func38, Try.ntmps38
  go_wp2_with fail
  refine (kind_6 undef txn prev page slot before_used before_data_a before_data_n before_data_c after_used after_data_a after_data_n after_data_c undoNext nextTxn txns_a txns_n txns_c dirty_a dirty_n dirty_c image_a image_n image_c _).mono ?_
  rintro e w2 ⟨rfl, hk2⟩
  have d0 : w2.cell? ⟨w.heap.size, 0, none⟩ = some (.int .i64 0) := (hb0.same hk2).cell 0
  have f0 : w2.frozen? ⟨w.heap.size, 0, none⟩ = false := (hb0.same hk2).frozen 0
  have d1 : w2.cell? ⟨w.heap.size, 1, none⟩ = some (.int .i64 0) := (hb0.same hk2).cell 1
  have f1 : w2.frozen? ⟨w.heap.size, 1, none⟩ = false := (hb0.same hk2).frozen 1
  have d2 : w2.cell? ⟨w.heap.size, 2, none⟩ = some (.int .i64 0) := (hb0.same hk2).cell 2
  have f2 : w2.frozen? ⟨w.heap.size, 2, none⟩ = false := (hb0.same hk2).frozen 2
  have d3 : w2.cell? ⟨w.heap.size, 3, none⟩ = some (.int .i64 0) := (hb0.same hk2).cell 3
  have f3 : w2.frozen? ⟨w.heap.size, 3, none⟩ = false := (hb0.same hk2).frozen 3
  have d4 : w2.cell? ⟨w.heap.size, 4, none⟩ = some (.int .i64 0) := (hb0.same hk2).cell 4
  have f4 : w2.frozen? ⟨w.heap.size, 4, none⟩ = false := (hb0.same hk2).frozen 4
  have d5 : w2.cell? ⟨w.heap.size, 5, none⟩ = some (.bool false) := (hb0.same hk2).cell 5
  have f5 : w2.frozen? ⟨w.heap.size, 5, none⟩ = false := (hb0.same hk2).frozen 5
  have d6 : w2.cell? ⟨w.heap.size, 6, none⟩ = some (.slice none 0 0) := (hb0.same hk2).cell 6
  have f6 : w2.frozen? ⟨w.heap.size, 6, none⟩ = false := (hb0.same hk2).frozen 6
  have d7 : w2.cell? ⟨w.heap.size, 7, none⟩ = some (.bool false) := (hb0.same hk2).cell 7
  have f7 : w2.frozen? ⟨w.heap.size, 7, none⟩ = false := (hb0.same hk2).frozen 7
  have d8 : w2.cell? ⟨w.heap.size, 8, none⟩ = some (.slice none 0 0) := (hb0.same hk2).cell 8
  have f8 : w2.frozen? ⟨w.heap.size, 8, none⟩ = false := (hb0.same hk2).frozen 8
  have d9 : w2.cell? ⟨w.heap.size, 9, none⟩ = some (.int .i64 0) := (hb0.same hk2).cell 9
  have f9 : w2.frozen? ⟨w.heap.size, 9, none⟩ = false := (hb0.same hk2).frozen 9
  have d10 : w2.cell? ⟨w.heap.size, 10, none⟩ = some (.int .i64 0) := (hb0.same hk2).cell 10
  have f10 : w2.frozen? ⟨w.heap.size, 10, none⟩ = false := (hb0.same hk2).frozen 10
  have d11 : w2.cell? ⟨w.heap.size, 11, none⟩ = some (.slice none 0 0) := (hb0.same hk2).cell 11
  have f11 : w2.frozen? ⟨w.heap.size, 11, none⟩ = false := (hb0.same hk2).frozen 11
  have d12 : w2.cell? ⟨w.heap.size, 12, none⟩ = some (.slice none 0 0) := (hb0.same hk2).cell 12
  have f12 : w2.frozen? ⟨w.heap.size, 12, none⟩ = false := (hb0.same hk2).frozen 12
  have d13 : w2.cell? ⟨w.heap.size, 13, none⟩ = some (.slice none 0 0) := (hb0.same hk2).cell 13
  have f13 : w2.frozen? ⟨w.heap.size, 13, none⟩ = false := (hb0.same hk2).frozen 13
  have hz : Same w w2 := hk1.trans hk2
  go_wp2
  refine bodyPost_ret (v := .agg #[.int .i64 6, .int .i64 0, .int .i64 0, .int .i64 0, .int .i64 0, .bool false, .slice none 0 0, .bool false, .slice none 0 0, .int .i64 0, .int .i64 0, .slice none 0 0, .slice none 0 0, .slice none 0 0]) (by simp [results, Try.results38, go_sem, d0, d1, d2, d3, d4, d5, d6, d7, d8, d9, d10, d11, d12, d13]) rfl ⟨rfl, ?_⟩
  exact ((((((((((((((hz.setCell (p := ⟨w.heap.size, 0, none⟩) (.inl (Nat.le_refl _)) _).setCell (p := ⟨w.heap.size, 1, none⟩) (.inl (Nat.le_refl _)) _).setCell (p := ⟨w.heap.size, 2, none⟩) (.inl (Nat.le_refl _)) _).setCell (p := ⟨w.heap.size, 3, none⟩) (.inl (Nat.le_refl _)) _).setCell (p := ⟨w.heap.size, 4, none⟩) (.inl (Nat.le_refl _)) _).setCell (p := ⟨w.heap.size, 5, none⟩) (.inl (Nat.le_refl _)) _).setCell (p := ⟨w.heap.size, 6, none⟩) (.inl (Nat.le_refl _)) _).setCell (p := ⟨w.heap.size, 7, none⟩) (.inl (Nat.le_refl _)) _).setCell (p := ⟨w.heap.size, 8, none⟩) (.inl (Nat.le_refl _)) _).setCell (p := ⟨w.heap.size, 9, none⟩) (.inl (Nat.le_refl _)) _).setCell (p := ⟨w.heap.size, 10, none⟩) (.inl (Nat.le_refl _)) _).setCell (p := ⟨w.heap.size, 11, none⟩) (.inl (Nat.le_refl _)) _).setCell (p := ⟨w.heap.size, 12, none⟩) (.inl (Nat.le_refl _)) _).setCell (p := ⟨w.heap.size, 13, none⟩) (.inl (Nat.le_refl _)) _)
set_option maxRecDepth 100000 in
set_option maxHeartbeats 16000000 in
theorem plainRecord_7 (txn : Int) (prev : Int) (page : Int) (slot : Int) (before_used : Bool) (before_data_a : Option Addr) (before_data_n before_data_c : Nat) (after_used : Bool) (after_data_a : Option Addr) (after_data_n after_data_c : Nat) (undoNext : Int) (nextTxn : Int) (txns_a : Option Addr) (txns_n txns_c : Nat) (dirty_a : Option Addr) (dirty_n dirty_c : Nat) (image_a : Option Addr) (image_n image_c : Nat) (w : World) : Calls Try.prog 38 #[.iface 109 (.agg #[.int .i64 0, .int .i64 0, .int .i64 nextTxn, .slice txns_a txns_n txns_c, .slice dirty_a dirty_n dirty_c])] w fun e w' => e = .returned (.agg #[.int .i64 7, .int .i64 0, .int .i64 0, .int .i64 0, .int .i64 0, .bool false, .slice none 0 0, .bool false, .slice none 0 0, .int .i64 0, .int .i64 nextTxn, .slice txns_a txns_n txns_c, .slice dirty_a dirty_n dirty_c, .slice none 0 0]) ∧ Same w w' := by
  have hb0 : Blk ((w.alloc (.cells #[.int .i64 0, .int .i64 0, .int .i64 0, .int .i64 0, .int .i64 0, .bool false, .slice none 0 0, .bool false, .slice none 0 0, .int .i64 0, .int .i64 0, .slice none 0 0, .slice none 0 0, .slice none 0 0] 35)).alloc (.cells #[.int .i64 0, .int .i64 0, .int .i64 nextTxn, .slice txns_a txns_n txns_c, .slice dirty_a dirty_n dirty_c] 109)) (w.heap.size) 35 [.int .i64 0, .int .i64 0, .int .i64 0, .int .i64 0, .int .i64 0, .bool false, .slice none 0 0, .bool false, .slice none 0 0, .int .i64 0, .int .i64 0, .slice none 0 0, .slice none 0 0, .slice none 0 0] := (Blk.new w #[.int .i64 0, .int .i64 0, .int .i64 0, .int .i64 0, .int .i64 0, .bool false, .slice none 0 0, .bool false, .slice none 0 0, .int .i64 0, .int .i64 0, .slice none 0 0, .slice none 0 0, .slice none 0 0] 35).alloc _
  have hb1 : Blk ((w.alloc (.cells #[.int .i64 0, .int .i64 0, .int .i64 0, .int .i64 0, .int .i64 0, .bool false, .slice none 0 0, .bool false, .slice none 0 0, .int .i64 0, .int .i64 0, .slice none 0 0, .slice none 0 0, .slice none 0 0] 35)).alloc (.cells #[.int .i64 0, .int .i64 0, .int .i64 nextTxn, .slice txns_a txns_n txns_c, .slice dirty_a dirty_n dirty_c] 109)) (w.heap.size + 1) 109 [.int .i64 0, .int .i64 0, .int .i64 nextTxn, .slice txns_a txns_n txns_c, .slice dirty_a dirty_n dirty_c] := by have h := Blk.new (w.alloc (.cells #[.int .i64 0, .int .i64 0, .int .i64 0, .int .i64 0, .int .i64 0, .bool false, .slice none 0 0, .bool false, .slice none 0 0, .int .i64 0, .int .i64 0, .slice none 0 0, .slice none 0 0, .slice none 0 0] 35)) #[.int .i64 0, .int .i64 0, .int .i64 nextTxn, .slice txns_a txns_n txns_c, .slice dirty_a dirty_n dirty_c] 109; rwa [World.size_alloc] at h
  have hk1 : Same w ((w.alloc (.cells #[.int .i64 0, .int .i64 0, .int .i64 0, .int .i64 0, .int .i64 0, .bool false, .slice none 0 0, .bool false, .slice none 0 0, .int .i64 0, .int .i64 0, .slice none 0 0, .slice none 0 0, .slice none 0 0] 35)).alloc (.cells #[.int .i64 0, .int .i64 0, .int .i64 nextTxn, .slice txns_a txns_n txns_c, .slice dirty_a dirty_n dirty_c] 109)) := ((Kept.refl _ _).alloc _).alloc _
  go_enter Try.func38, Try.ntmps38
  go_wp2_with fail
  obtain ⟨w1, hw1⟩ : ∃ w1, ((w.alloc (.cells #[.int .i64 0, .int .i64 0, .int .i64 0, .int .i64 0, .int .i64 0, .bool false, .slice none 0 0, .bool false, .slice none 0 0, .int .i64 0, .int .i64 0, .slice none 0 0, .slice none 0 0, .slice none 0 0] 35)).alloc (.cells #[.int .i64 0, .int .i64 0, .int .i64 nextTxn, .slice txns_a txns_n txns_c, .slice dirty_a dirty_n dirty_c] 109)) = w1 := ⟨_, rfl⟩
  rw [hw1] at hb0 hb1 hk1 ⊢
  clear hw1
  have hSx : ∀ wx, Same w1 wx → (fun wx : World => wx.cell? ⟨w.heap.size + 1, 0, none⟩ = some (.int .i64 0) ∧ wx.cell? ⟨w.heap.size + 1, 1, none⟩ = some (.int .i64 0) ∧ wx.cell? ⟨w.heap.size + 1, 2, none⟩ = some (.int .i64 nextTxn) ∧ wx.cell? ⟨w.heap.size + 1, 3, none⟩ = some (.slice txns_a txns_n txns_c) ∧ wx.cell? ⟨w.heap.size + 1, 4, none⟩ = some (.slice dirty_a dirty_n dirty_c)) wx := fun wx h => ⟨(hb1.same h).cell 0, (hb1.same h).cell 1, (hb1.same h).cell 2, (hb1.same h).cell 3, (hb1.same h).cell 4⟩
  have hS : (fun wx : World => wx.cell? ⟨w.heap.size + 1, 0, none⟩ = some (.int .i64 0) ∧ wx.cell? ⟨w.heap.size + 1, 1, none⟩ = some (.int .i64 0) ∧ wx.cell? ⟨w.heap.size + 1, 2, none⟩ = some (.int .i64 nextTxn) ∧ wx.cell? ⟨w.heap.size + 1, 3, none⟩ = some (.slice txns_a txns_n txns_c) ∧ wx.cell? ⟨w.heap.size + 1, 4, none⟩ = some (.slice dirty_a dirty_n dirty_c)) w1.drew := by exact hSx _ (Kept.refl _ _).drew
  refine wp_region_V (fun wx : World => wx.cell? ⟨w.heap.size + 1, 0, none⟩ = some (.int .i64 0) ∧ wx.cell? ⟨w.heap.size + 1, 1, none⟩ = some (.int .i64 0) ∧ wx.cell? ⟨w.heap.size + 1, 2, none⟩ = some (.int .i64 nextTxn) ∧ wx.cell? ⟨w.heap.size + 1, 3, none⟩ = some (.slice txns_a txns_n txns_c) ∧ wx.cell? ⟨w.heap.size + 1, 4, none⟩ = some (.slice dirty_a dirty_n dirty_c)) 9 10 rfl (by kernel_rfl) ?_
  refine wpAnyV_take (i := 0) (v := ?vq51) (some 101) rfl rfl (by kernel_rfl) (by kernel_rfl) (by kernel_rfl) (by kernel_rfl) (fun _ _ _ h => h) (Or.inl ⟨by rfl, ?hyq51⟩) hS ?_
  case hyq51 => (intro w hSw; (try dsimp only at hSw); go_simp; (try with_reducible rfl))
  try simp only [Act.put, List.setIfInBounds_toArray, List.set_cons_zero, List.set_cons_succ]
  refine wpAnyV_take (i := 2) (v := ?vq52) (some 103) rfl rfl (by kernel_rfl) (by kernel_rfl) (by kernel_rfl) (by kernel_rfl) (fun _ _ _ h => h) (Or.inl ⟨by rfl, ?hyq52⟩) hS ?_
  case hyq52 => (intro w hSw; (try dsimp only at hSw); go_simp; (try with_reducible rfl))
  try simp only [Act.put, List.setIfInBounds_toArray, List.set_cons_zero, List.set_cons_succ]
  refine wpAnyV_take (i := 3) (v := ?vq53) (some 104) rfl rfl (by kernel_rfl) (by kernel_rfl) (by kernel_rfl) (by kernel_rfl) (fun _ _ _ h => h) (Or.inl ⟨by rfl, ?hyq53⟩) hS ?_
  case hyq53 => (intro w hSw; (try dsimp only at hSw); go_simp; (try with_reducible rfl))
  try simp only [Act.put, List.setIfInBounds_toArray, List.set_cons_zero, List.set_cons_succ]
  refine wpAnyV_take (i := 4) (v := ?vq54) (some 105) rfl rfl (by kernel_rfl) (by kernel_rfl) (by kernel_rfl) (by kernel_rfl) (fun _ _ _ h => h) (Or.inl ⟨by rfl, ?hyq54⟩) hS ?_
  case hyq54 => (intro w hSw; (try dsimp only at hSw); go_simp; (try with_reducible rfl))
  try simp only [Act.put, List.setIfInBounds_toArray, List.set_cons_zero, List.set_cons_succ]
  refine wpAnyV_take (i := 5) (v := ?vq55) (some 106) rfl rfl (by kernel_rfl) (by kernel_rfl) (by kernel_rfl) (by kernel_rfl) (fun _ _ _ h => h) (Or.inl ⟨by rfl, ?hyq55⟩) hS ?_
  case hyq55 => (intro w hSw; (try dsimp only at hSw); go_simp; (try with_reducible rfl))
  try simp only [Act.put, List.setIfInBounds_toArray, List.set_cons_zero, List.set_cons_succ]
  refine wpAnyV_take (i := 6) (v := ?vq56) (some 107) rfl rfl (by kernel_rfl) (by kernel_rfl) (by kernel_rfl) (by kernel_rfl) (fun _ _ _ h => h) (Or.inl ⟨by rfl, ?hyq56⟩) hS ?_
  case hyq56 => (intro w hSw; (try dsimp only at hSw); go_simp; (try with_reducible rfl))
  try simp only [Act.put, List.setIfInBounds_toArray, List.set_cons_zero, List.set_cons_succ]
  refine wpAnyV_take (i := 7) (v := ?vq57) (some 108) rfl rfl (by kernel_rfl) (by kernel_rfl) (by kernel_rfl) (by kernel_rfl) (fun _ _ _ h => h) (Or.inl ⟨by rfl, ?hyq57⟩) hS ?_
  case hyq57 => (intro w hSw; (try dsimp only at hSw); go_simp; (try with_reducible rfl))
  try simp only [Act.put, List.setIfInBounds_toArray, List.set_cons_zero, List.set_cons_succ]
  refine wpAnyV_one (i := 1) (by kernel_rfl) rfl (fun K hK => ?_)
  go_simp
  have hc := kind_7 undef txn prev page slot before_used before_data_a before_data_n before_data_c after_used after_data_a after_data_n after_data_c undoNext nextTxn txns_a txns_n txns_c dirty_a dirty_n dirty_c image_a image_n image_c (w1.drew)
  with_reducible refine hc.mono ?_
  clear hc
  rintro e w2 ⟨rfl, hkk⟩
  have hkw2 : Same w1 w2 := Kept.trans ((Kept.refl _ _).drew) hkk
  clear hkk
  have hS : (fun wx : World => wx.cell? ⟨w.heap.size + 1, 0, none⟩ = some (.int .i64 0) ∧ wx.cell? ⟨w.heap.size + 1, 1, none⟩ = some (.int .i64 0) ∧ wx.cell? ⟨w.heap.size + 1, 2, none⟩ = some (.int .i64 nextTxn) ∧ wx.cell? ⟨w.heap.size + 1, 3, none⟩ = some (.slice txns_a txns_n txns_c) ∧ wx.cell? ⟨w.heap.size + 1, 4, none⟩ = some (.slice dirty_a dirty_n dirty_c)) w2 := hSx _ hkw2
  refine hK.out _ _ (fun _ => hS) ?_
  clear hK K
  try simp only [Act.put, List.setIfInBounds_toArray, List.set_cons_zero, List.set_cons_succ]
  refine wpAnyV_take (i := 8) (v := ?vq58) (some 109) rfl rfl (by kernel_rfl) (by kernel_rfl) (by kernel_rfl) (by kernel_rfl) (fun _ _ _ h => h) (Or.inl ⟨by rfl, ?hyq58⟩) hS ?_
  case hyq58 => (intro w hSw; (try dsimp only at hSw); go_simp; (try with_reducible rfl))
  try simp only [Act.put, List.setIfInBounds_toArray, List.set_cons_zero, List.set_cons_succ]
  have d0 : w2.cell? ⟨w.heap.size, 0, none⟩ = some (.int .i64 0) := (hb0.same hkw2).cell 0
  have f0 : w2.frozen? ⟨w.heap.size, 0, none⟩ = false := (hb0.same hkw2).frozen 0
  have d1 : w2.cell? ⟨w.heap.size, 1, none⟩ = some (.int .i64 0) := (hb0.same hkw2).cell 1
  have f1 : w2.frozen? ⟨w.heap.size, 1, none⟩ = false := (hb0.same hkw2).frozen 1
  have d2 : w2.cell? ⟨w.heap.size, 2, none⟩ = some (.int .i64 0) := (hb0.same hkw2).cell 2
  have f2 : w2.frozen? ⟨w.heap.size, 2, none⟩ = false := (hb0.same hkw2).frozen 2
  have d3 : w2.cell? ⟨w.heap.size, 3, none⟩ = some (.int .i64 0) := (hb0.same hkw2).cell 3
  have f3 : w2.frozen? ⟨w.heap.size, 3, none⟩ = false := (hb0.same hkw2).frozen 3
  have d4 : w2.cell? ⟨w.heap.size, 4, none⟩ = some (.int .i64 0) := (hb0.same hkw2).cell 4
  have f4 : w2.frozen? ⟨w.heap.size, 4, none⟩ = false := (hb0.same hkw2).frozen 4
  have d5 : w2.cell? ⟨w.heap.size, 5, none⟩ = some (.bool false) := (hb0.same hkw2).cell 5
  have f5 : w2.frozen? ⟨w.heap.size, 5, none⟩ = false := (hb0.same hkw2).frozen 5
  have d6 : w2.cell? ⟨w.heap.size, 6, none⟩ = some (.slice none 0 0) := (hb0.same hkw2).cell 6
  have f6 : w2.frozen? ⟨w.heap.size, 6, none⟩ = false := (hb0.same hkw2).frozen 6
  have d7 : w2.cell? ⟨w.heap.size, 7, none⟩ = some (.bool false) := (hb0.same hkw2).cell 7
  have f7 : w2.frozen? ⟨w.heap.size, 7, none⟩ = false := (hb0.same hkw2).frozen 7
  have d8 : w2.cell? ⟨w.heap.size, 8, none⟩ = some (.slice none 0 0) := (hb0.same hkw2).cell 8
  have f8 : w2.frozen? ⟨w.heap.size, 8, none⟩ = false := (hb0.same hkw2).frozen 8
  have d9 : w2.cell? ⟨w.heap.size, 9, none⟩ = some (.int .i64 0) := (hb0.same hkw2).cell 9
  have f9 : w2.frozen? ⟨w.heap.size, 9, none⟩ = false := (hb0.same hkw2).frozen 9
  have d10 : w2.cell? ⟨w.heap.size, 10, none⟩ = some (.int .i64 0) := (hb0.same hkw2).cell 10
  have f10 : w2.frozen? ⟨w.heap.size, 10, none⟩ = false := (hb0.same hkw2).frozen 10
  have d11 : w2.cell? ⟨w.heap.size, 11, none⟩ = some (.slice none 0 0) := (hb0.same hkw2).cell 11
  have f11 : w2.frozen? ⟨w.heap.size, 11, none⟩ = false := (hb0.same hkw2).frozen 11
  have d12 : w2.cell? ⟨w.heap.size, 12, none⟩ = some (.slice none 0 0) := (hb0.same hkw2).cell 12
  have f12 : w2.frozen? ⟨w.heap.size, 12, none⟩ = false := (hb0.same hkw2).frozen 12
  have d13 : w2.cell? ⟨w.heap.size, 13, none⟩ = some (.slice none 0 0) := (hb0.same hkw2).cell 13
  have f13 : w2.frozen? ⟨w.heap.size, 13, none⟩ = false := (hb0.same hkw2).frozen 13
  refine wpAnyV_one (i := 9) (by kernel_rfl) rfl (fun K hK => ?_)
  go_simp
  refine hK.out _ _ (fun h => absurd rfl h) ?_
  clear hK K
  refine wpAnyV_done (by kernel_rfl) ?_
  try simp only [Act.put, List.setIfInBounds_toArray, List.set_cons_zero, List.set_cons_succ]
  have hz : Same w w2 := hk1.trans hkw2
  go_wp2
  refine bodyPost_ret (v := .agg #[.int .i64 7, .int .i64 0, .int .i64 0, .int .i64 0, .int .i64 0, .bool false, .slice none 0 0, .bool false, .slice none 0 0, .int .i64 0, .int .i64 nextTxn, .slice txns_a txns_n txns_c, .slice dirty_a dirty_n dirty_c, .slice none 0 0]) (by simp [results, Try.results38, go_sem, d0, d1, d2, d3, d4, d5, d6, d7, d8, d9, d10, d11, d12, d13]) rfl ⟨rfl, ?_⟩
  exact ((((((((((((((hz.setCell (p := ⟨w.heap.size, 0, none⟩) (.inl (Nat.le_refl _)) _).setCell (p := ⟨w.heap.size, 1, none⟩) (.inl (Nat.le_refl _)) _).setCell (p := ⟨w.heap.size, 2, none⟩) (.inl (Nat.le_refl _)) _).setCell (p := ⟨w.heap.size, 3, none⟩) (.inl (Nat.le_refl _)) _).setCell (p := ⟨w.heap.size, 4, none⟩) (.inl (Nat.le_refl _)) _).setCell (p := ⟨w.heap.size, 5, none⟩) (.inl (Nat.le_refl _)) _).setCell (p := ⟨w.heap.size, 6, none⟩) (.inl (Nat.le_refl _)) _).setCell (p := ⟨w.heap.size, 7, none⟩) (.inl (Nat.le_refl _)) _).setCell (p := ⟨w.heap.size, 8, none⟩) (.inl (Nat.le_refl _)) _).setCell (p := ⟨w.heap.size, 9, none⟩) (.inl (Nat.le_refl _)) _).setCell (p := ⟨w.heap.size, 10, none⟩) (.inl (Nat.le_refl _)) _).setCell (p := ⟨w.heap.size, 11, none⟩) (.inl (Nat.le_refl _)) _).setCell (p := ⟨w.heap.size, 12, none⟩) (.inl (Nat.le_refl _)) _).setCell (p := ⟨w.heap.size, 13, none⟩) (.inl (Nat.le_refl _)) _)
set_option maxRecDepth 100000 in
set_option maxHeartbeats 16000000 in
theorem plainRecord_8 (txn : Int) (prev : Int) (page : Int) (slot : Int) (before_used : Bool) (before_data_a : Option Addr) (before_data_n before_data_c : Nat) (after_used : Bool) (after_data_a : Option Addr) (after_data_n after_data_c : Nat) (undoNext : Int) (nextTxn : Int) (txns_a : Option Addr) (txns_n txns_c : Nat) (dirty_a : Option Addr) (dirty_n dirty_c : Nat) (image_a : Option Addr) (image_n image_c : Nat) (w : World) : Calls Try.prog 38 #[.iface 111 (.agg #[.int .i64 0, .int .i64 0, .int .i64 page, .slice image_a image_n image_c])] w fun e w' => e = .returned (.agg #[.int .i64 8, .int .i64 0, .int .i64 0, .int .i64 page, .int .i64 0, .bool false, .slice none 0 0, .bool false, .slice none 0 0, .int .i64 0, .int .i64 0, .slice none 0 0, .slice none 0 0, .slice image_a image_n image_c]) ∧ Same w w' := by
  have hb0 : Blk ((w.alloc (.cells #[.int .i64 0, .int .i64 0, .int .i64 0, .int .i64 0, .int .i64 0, .bool false, .slice none 0 0, .bool false, .slice none 0 0, .int .i64 0, .int .i64 0, .slice none 0 0, .slice none 0 0, .slice none 0 0] 35)).alloc (.cells #[.int .i64 0, .int .i64 0, .int .i64 page, .slice image_a image_n image_c] 111)) (w.heap.size) 35 [.int .i64 0, .int .i64 0, .int .i64 0, .int .i64 0, .int .i64 0, .bool false, .slice none 0 0, .bool false, .slice none 0 0, .int .i64 0, .int .i64 0, .slice none 0 0, .slice none 0 0, .slice none 0 0] := (Blk.new w #[.int .i64 0, .int .i64 0, .int .i64 0, .int .i64 0, .int .i64 0, .bool false, .slice none 0 0, .bool false, .slice none 0 0, .int .i64 0, .int .i64 0, .slice none 0 0, .slice none 0 0, .slice none 0 0] 35).alloc _
  have hb1 : Blk ((w.alloc (.cells #[.int .i64 0, .int .i64 0, .int .i64 0, .int .i64 0, .int .i64 0, .bool false, .slice none 0 0, .bool false, .slice none 0 0, .int .i64 0, .int .i64 0, .slice none 0 0, .slice none 0 0, .slice none 0 0] 35)).alloc (.cells #[.int .i64 0, .int .i64 0, .int .i64 page, .slice image_a image_n image_c] 111)) (w.heap.size + 1) 111 [.int .i64 0, .int .i64 0, .int .i64 page, .slice image_a image_n image_c] := by have h := Blk.new (w.alloc (.cells #[.int .i64 0, .int .i64 0, .int .i64 0, .int .i64 0, .int .i64 0, .bool false, .slice none 0 0, .bool false, .slice none 0 0, .int .i64 0, .int .i64 0, .slice none 0 0, .slice none 0 0, .slice none 0 0] 35)) #[.int .i64 0, .int .i64 0, .int .i64 page, .slice image_a image_n image_c] 111; rwa [World.size_alloc] at h
  have hk1 : Same w ((w.alloc (.cells #[.int .i64 0, .int .i64 0, .int .i64 0, .int .i64 0, .int .i64 0, .bool false, .slice none 0 0, .bool false, .slice none 0 0, .int .i64 0, .int .i64 0, .slice none 0 0, .slice none 0 0, .slice none 0 0] 35)).alloc (.cells #[.int .i64 0, .int .i64 0, .int .i64 page, .slice image_a image_n image_c] 111)) := ((Kept.refl _ _).alloc _).alloc _
  go_enter Try.func38, Try.ntmps38
  go_wp2_with fail
  obtain ⟨w1, hw1⟩ : ∃ w1, ((w.alloc (.cells #[.int .i64 0, .int .i64 0, .int .i64 0, .int .i64 0, .int .i64 0, .bool false, .slice none 0 0, .bool false, .slice none 0 0, .int .i64 0, .int .i64 0, .slice none 0 0, .slice none 0 0, .slice none 0 0] 35)).alloc (.cells #[.int .i64 0, .int .i64 0, .int .i64 page, .slice image_a image_n image_c] 111)) = w1 := ⟨_, rfl⟩
  rw [hw1] at hb0 hb1 hk1 ⊢
  clear hw1
  have hSx : ∀ wx, Same w1 wx → (fun wx : World => wx.cell? ⟨w.heap.size + 1, 0, none⟩ = some (.int .i64 0) ∧ wx.cell? ⟨w.heap.size + 1, 1, none⟩ = some (.int .i64 0) ∧ wx.cell? ⟨w.heap.size + 1, 2, none⟩ = some (.int .i64 page) ∧ wx.cell? ⟨w.heap.size + 1, 3, none⟩ = some (.slice image_a image_n image_c)) wx := fun wx h => ⟨(hb1.same h).cell 0, (hb1.same h).cell 1, (hb1.same h).cell 2, (hb1.same h).cell 3⟩
  have hS : (fun wx : World => wx.cell? ⟨w.heap.size + 1, 0, none⟩ = some (.int .i64 0) ∧ wx.cell? ⟨w.heap.size + 1, 1, none⟩ = some (.int .i64 0) ∧ wx.cell? ⟨w.heap.size + 1, 2, none⟩ = some (.int .i64 page) ∧ wx.cell? ⟨w.heap.size + 1, 3, none⟩ = some (.slice image_a image_n image_c)) w1.drew := by exact hSx _ (Kept.refl _ _).drew
  refine wp_region_V (fun wx : World => wx.cell? ⟨w.heap.size + 1, 0, none⟩ = some (.int .i64 0) ∧ wx.cell? ⟨w.heap.size + 1, 1, none⟩ = some (.int .i64 0) ∧ wx.cell? ⟨w.heap.size + 1, 2, none⟩ = some (.int .i64 page) ∧ wx.cell? ⟨w.heap.size + 1, 3, none⟩ = some (.slice image_a image_n image_c)) 7 8 rfl (by kernel_rfl) ?_
  refine wpAnyV_take (i := 0) (v := ?vq59) (some 113) rfl rfl (by kernel_rfl) (by kernel_rfl) (by kernel_rfl) (by kernel_rfl) (fun _ _ _ h => h) (Or.inl ⟨by rfl, ?hyq59⟩) hS ?_
  case hyq59 => (intro w hSw; (try dsimp only at hSw); go_simp; (try with_reducible rfl))
  try simp only [Act.put, List.setIfInBounds_toArray, List.set_cons_zero, List.set_cons_succ]
  refine wpAnyV_take (i := 2) (v := ?vq60) (some 115) rfl rfl (by kernel_rfl) (by kernel_rfl) (by kernel_rfl) (by kernel_rfl) (fun _ _ _ h => h) (Or.inl ⟨by rfl, ?hyq60⟩) hS ?_
  case hyq60 => (intro w hSw; (try dsimp only at hSw); go_simp; (try with_reducible rfl))
  try simp only [Act.put, List.setIfInBounds_toArray, List.set_cons_zero, List.set_cons_succ]
  refine wpAnyV_take (i := 3) (v := ?vq61) (some 116) rfl rfl (by kernel_rfl) (by kernel_rfl) (by kernel_rfl) (by kernel_rfl) (fun _ _ _ h => h) (Or.inl ⟨by rfl, ?hyq61⟩) hS ?_
  case hyq61 => (intro w hSw; (try dsimp only at hSw); go_simp; (try with_reducible rfl))
  try simp only [Act.put, List.setIfInBounds_toArray, List.set_cons_zero, List.set_cons_succ]
  refine wpAnyV_take (i := 4) (v := ?vq62) (some 117) rfl rfl (by kernel_rfl) (by kernel_rfl) (by kernel_rfl) (by kernel_rfl) (fun _ _ _ h => h) (Or.inl ⟨by rfl, ?hyq62⟩) hS ?_
  case hyq62 => (intro w hSw; (try dsimp only at hSw); go_simp; (try with_reducible rfl))
  try simp only [Act.put, List.setIfInBounds_toArray, List.set_cons_zero, List.set_cons_succ]
  refine wpAnyV_take (i := 5) (v := ?vq63) (some 118) rfl rfl (by kernel_rfl) (by kernel_rfl) (by kernel_rfl) (by kernel_rfl) (fun _ _ _ h => h) (Or.inl ⟨by rfl, ?hyq63⟩) hS ?_
  case hyq63 => (intro w hSw; (try dsimp only at hSw); go_simp; (try with_reducible rfl))
  try simp only [Act.put, List.setIfInBounds_toArray, List.set_cons_zero, List.set_cons_succ]
  refine wpAnyV_one (i := 1) (by kernel_rfl) rfl (fun K hK => ?_)
  go_simp
  have hc := kind_8 undef txn prev page slot before_used before_data_a before_data_n before_data_c after_used after_data_a after_data_n after_data_c undoNext nextTxn txns_a txns_n txns_c dirty_a dirty_n dirty_c image_a image_n image_c (w1.drew)
  with_reducible refine hc.mono ?_
  clear hc
  rintro e w2 ⟨rfl, hkk⟩
  have hkw2 : Same w1 w2 := Kept.trans ((Kept.refl _ _).drew) hkk
  clear hkk
  have hS : (fun wx : World => wx.cell? ⟨w.heap.size + 1, 0, none⟩ = some (.int .i64 0) ∧ wx.cell? ⟨w.heap.size + 1, 1, none⟩ = some (.int .i64 0) ∧ wx.cell? ⟨w.heap.size + 1, 2, none⟩ = some (.int .i64 page) ∧ wx.cell? ⟨w.heap.size + 1, 3, none⟩ = some (.slice image_a image_n image_c)) w2 := hSx _ hkw2
  refine hK.out _ _ (fun _ => hS) ?_
  clear hK K
  try simp only [Act.put, List.setIfInBounds_toArray, List.set_cons_zero, List.set_cons_succ]
  refine wpAnyV_take (i := 6) (v := ?vq64) (some 119) rfl rfl (by kernel_rfl) (by kernel_rfl) (by kernel_rfl) (by kernel_rfl) (fun _ _ _ h => h) (Or.inl ⟨by rfl, ?hyq64⟩) hS ?_
  case hyq64 => (intro w hSw; (try dsimp only at hSw); go_simp; (try with_reducible rfl))
  try simp only [Act.put, List.setIfInBounds_toArray, List.set_cons_zero, List.set_cons_succ]
  have d0 : w2.cell? ⟨w.heap.size, 0, none⟩ = some (.int .i64 0) := (hb0.same hkw2).cell 0
  have f0 : w2.frozen? ⟨w.heap.size, 0, none⟩ = false := (hb0.same hkw2).frozen 0
  have d1 : w2.cell? ⟨w.heap.size, 1, none⟩ = some (.int .i64 0) := (hb0.same hkw2).cell 1
  have f1 : w2.frozen? ⟨w.heap.size, 1, none⟩ = false := (hb0.same hkw2).frozen 1
  have d2 : w2.cell? ⟨w.heap.size, 2, none⟩ = some (.int .i64 0) := (hb0.same hkw2).cell 2
  have f2 : w2.frozen? ⟨w.heap.size, 2, none⟩ = false := (hb0.same hkw2).frozen 2
  have d3 : w2.cell? ⟨w.heap.size, 3, none⟩ = some (.int .i64 0) := (hb0.same hkw2).cell 3
  have f3 : w2.frozen? ⟨w.heap.size, 3, none⟩ = false := (hb0.same hkw2).frozen 3
  have d4 : w2.cell? ⟨w.heap.size, 4, none⟩ = some (.int .i64 0) := (hb0.same hkw2).cell 4
  have f4 : w2.frozen? ⟨w.heap.size, 4, none⟩ = false := (hb0.same hkw2).frozen 4
  have d5 : w2.cell? ⟨w.heap.size, 5, none⟩ = some (.bool false) := (hb0.same hkw2).cell 5
  have f5 : w2.frozen? ⟨w.heap.size, 5, none⟩ = false := (hb0.same hkw2).frozen 5
  have d6 : w2.cell? ⟨w.heap.size, 6, none⟩ = some (.slice none 0 0) := (hb0.same hkw2).cell 6
  have f6 : w2.frozen? ⟨w.heap.size, 6, none⟩ = false := (hb0.same hkw2).frozen 6
  have d7 : w2.cell? ⟨w.heap.size, 7, none⟩ = some (.bool false) := (hb0.same hkw2).cell 7
  have f7 : w2.frozen? ⟨w.heap.size, 7, none⟩ = false := (hb0.same hkw2).frozen 7
  have d8 : w2.cell? ⟨w.heap.size, 8, none⟩ = some (.slice none 0 0) := (hb0.same hkw2).cell 8
  have f8 : w2.frozen? ⟨w.heap.size, 8, none⟩ = false := (hb0.same hkw2).frozen 8
  have d9 : w2.cell? ⟨w.heap.size, 9, none⟩ = some (.int .i64 0) := (hb0.same hkw2).cell 9
  have f9 : w2.frozen? ⟨w.heap.size, 9, none⟩ = false := (hb0.same hkw2).frozen 9
  have d10 : w2.cell? ⟨w.heap.size, 10, none⟩ = some (.int .i64 0) := (hb0.same hkw2).cell 10
  have f10 : w2.frozen? ⟨w.heap.size, 10, none⟩ = false := (hb0.same hkw2).frozen 10
  have d11 : w2.cell? ⟨w.heap.size, 11, none⟩ = some (.slice none 0 0) := (hb0.same hkw2).cell 11
  have f11 : w2.frozen? ⟨w.heap.size, 11, none⟩ = false := (hb0.same hkw2).frozen 11
  have d12 : w2.cell? ⟨w.heap.size, 12, none⟩ = some (.slice none 0 0) := (hb0.same hkw2).cell 12
  have f12 : w2.frozen? ⟨w.heap.size, 12, none⟩ = false := (hb0.same hkw2).frozen 12
  have d13 : w2.cell? ⟨w.heap.size, 13, none⟩ = some (.slice none 0 0) := (hb0.same hkw2).cell 13
  have f13 : w2.frozen? ⟨w.heap.size, 13, none⟩ = false := (hb0.same hkw2).frozen 13
  refine wpAnyV_one (i := 7) (by kernel_rfl) rfl (fun K hK => ?_)
  go_simp
  refine hK.out _ _ (fun h => absurd rfl h) ?_
  clear hK K
  refine wpAnyV_done (by kernel_rfl) ?_
  try simp only [Act.put, List.setIfInBounds_toArray, List.set_cons_zero, List.set_cons_succ]
  have hz : Same w w2 := hk1.trans hkw2
  go_wp2
  refine bodyPost_ret (v := .agg #[.int .i64 8, .int .i64 0, .int .i64 0, .int .i64 page, .int .i64 0, .bool false, .slice none 0 0, .bool false, .slice none 0 0, .int .i64 0, .int .i64 0, .slice none 0 0, .slice none 0 0, .slice image_a image_n image_c]) (by simp [results, Try.results38, go_sem, d0, d1, d2, d3, d4, d5, d6, d7, d8, d9, d10, d11, d12, d13]) rfl ⟨rfl, ?_⟩
  exact ((((((((((((((hz.setCell (p := ⟨w.heap.size, 0, none⟩) (.inl (Nat.le_refl _)) _).setCell (p := ⟨w.heap.size, 1, none⟩) (.inl (Nat.le_refl _)) _).setCell (p := ⟨w.heap.size, 2, none⟩) (.inl (Nat.le_refl _)) _).setCell (p := ⟨w.heap.size, 3, none⟩) (.inl (Nat.le_refl _)) _).setCell (p := ⟨w.heap.size, 4, none⟩) (.inl (Nat.le_refl _)) _).setCell (p := ⟨w.heap.size, 5, none⟩) (.inl (Nat.le_refl _)) _).setCell (p := ⟨w.heap.size, 6, none⟩) (.inl (Nat.le_refl _)) _).setCell (p := ⟨w.heap.size, 7, none⟩) (.inl (Nat.le_refl _)) _).setCell (p := ⟨w.heap.size, 8, none⟩) (.inl (Nat.le_refl _)) _).setCell (p := ⟨w.heap.size, 9, none⟩) (.inl (Nat.le_refl _)) _).setCell (p := ⟨w.heap.size, 10, none⟩) (.inl (Nat.le_refl _)) _).setCell (p := ⟨w.heap.size, 11, none⟩) (.inl (Nat.le_refl _)) _).setCell (p := ⟨w.heap.size, 12, none⟩) (.inl (Nat.le_refl _)) _).setCell (p := ⟨w.heap.size, 13, none⟩) (.inl (Nat.le_refl _)) _)
end Go.Proofs.Ytclmdpmelifplab
