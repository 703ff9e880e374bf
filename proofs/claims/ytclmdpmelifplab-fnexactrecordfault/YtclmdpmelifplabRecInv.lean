/-
  impl.RecordFault.
-/
import Derived.Test.YtclmdpmelifplabSameK
import Derived.Deep.RegionWith
import Derived.Deep.DeepMust
namespace Go.Proofs.Ytclmdpmelifplab
open Go.RowKit
set_option linter.unusedVariables false
set_option linter.unusedSimpArgs false
@[go_sem] theorem inv_1 (n : Nat) (txn : Int) (prev : Int) (page : Int) (slot : Int) (before_used : Bool) (after_used : Bool) (before_data_a : Option Addr) (before_data_c : Nat) (before_data_b : List Int) (after_data_a : Option Addr) (after_data_c : Nat) (after_data_b : List Int)  (w : World) : (method (n + 1) 100 (.agg #[.int .i64 txn, .int .i64 prev, .int .i64 page, .int .i64 slot, .bool before_used, .slice before_data_a before_data_b.length before_data_c, .bool after_used, .slice after_data_a after_data_b.length after_data_c]) "loop.example/s02544/impl.fault").run Try.prog w = .ok (131, .agg #[.int .i64 txn, .int .i64 prev, .int .i64 page, .int .i64 slot, .bool before_used, .slice before_data_a before_data_b.length before_data_c, .bool after_used, .slice after_data_a after_data_b.length after_data_c]) w := by kernel_rfl
@[go_sem] theorem inv_2 (n : Nat) (txn : Int) (prev : Int) (page : Int) (slot : Int) (undoNext : Int) (after_used : Bool) (after_data_a : Option Addr) (after_data_c : Nat) (after_data_b : List Int)  (w : World) : (method (n + 1) 102 (.agg #[.int .i64 txn, .int .i64 prev, .int .i64 page, .int .i64 slot, .bool after_used, .slice after_data_a after_data_b.length after_data_c, .int .i64 undoNext]) "loop.example/s02544/impl.fault").run Try.prog w = .ok (137, .agg #[.int .i64 txn, .int .i64 prev, .int .i64 page, .int .i64 slot, .bool after_used, .slice after_data_a after_data_b.length after_data_c, .int .i64 undoNext]) w := by kernel_rfl
@[go_sem] theorem inv_3 (n : Nat) (txn : Int) (prev : Int)  (w : World) : (method (n + 1) 104 (.agg #[.int .i64 txn, .int .i64 prev]) "loop.example/s02544/impl.fault").run Try.prog w = .ok (125, .agg #[.int .i64 txn, .int .i64 prev]) w := by kernel_rfl
@[go_sem] theorem inv_4 (n : Nat) (txn : Int) (prev : Int)  (w : World) : (method (n + 1) 105 (.agg #[.int .i64 txn, .int .i64 prev]) "loop.example/s02544/impl.fault").run Try.prog w = .ok (125, .agg #[.int .i64 txn, .int .i64 prev]) w := by kernel_rfl
@[go_sem] theorem inv_5 (n : Nat) (txn : Int) (prev : Int)  (w : World) : (method (n + 1) 106 (.agg #[.int .i64 txn, .int .i64 prev]) "loop.example/s02544/impl.fault").run Try.prog w = .ok (125, .agg #[.int .i64 txn, .int .i64 prev]) w := by kernel_rfl
@[go_sem] theorem inv_6 (n : Nat)  (w : World) : (method (n + 1) 107 (.agg #[.int .i64 0, .int .i64 0]) "loop.example/s02544/impl.fault").run Try.prog w = .ok (138, .agg #[.int .i64 0, .int .i64 0]) w := by kernel_rfl
@[go_sem] theorem inv_7 (n : Nat) (nextTxn : Int) (txns_a : Option Addr) (txns_n : Nat) (txns_c : Nat) (dirty_a : Option Addr) (dirty_n : Nat) (dirty_c : Nat)  (w : World) : (method (n + 1) 109 (.agg #[.int .i64 0, .int .i64 0, .int .i64 nextTxn, .slice txns_a txns_n txns_c, .slice dirty_a dirty_n dirty_c]) "loop.example/s02544/impl.fault").run Try.prog w = .ok (140, .agg #[.int .i64 0, .int .i64 0, .int .i64 nextTxn, .slice txns_a txns_n txns_c, .slice dirty_a dirty_n dirty_c]) w := by kernel_rfl
@[go_sem] theorem inv_8 (n : Nat) (page : Int) (image_a : Option Addr) (image_c : Nat) (image_b : List Int)  (w : World) : (method (n + 1) 111 (.agg #[.int .i64 0, .int .i64 0, .int .i64 page, .slice image_a image_b.length image_c]) "loop.example/s02544/impl.fault").run Try.prog w = .ok (144, .agg #[.int .i64 0, .int .i64 0, .int .i64 page, .slice image_a image_b.length image_c]) w := by kernel_rfl
end Go.Proofs.Ytclmdpmelifplab
