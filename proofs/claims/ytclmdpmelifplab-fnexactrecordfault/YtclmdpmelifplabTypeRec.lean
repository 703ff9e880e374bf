/-
  typeRecord: a record as one of its kind.
-/
import Derived.Test.YtclmdpmelifplabTyLogRecord
namespace Go.Proofs.Ytclmdpmelifplab
open Go.RowKit
set_option linter.unusedVariables false
set_option linter.unusedSimpArgs false
set_option maxRecDepth 100000 in
set_option maxHeartbeats 4000000 in
theorem typeRecord_1 (txn : Int) (prev : Int) (page : Int) (slot : Int) (before_used : Bool) (before_data_a : Option Addr) (before_data_n before_data_c : Nat) (after_used : Bool) (after_data_a : Option Addr) (after_data_n after_data_c : Nat) (undoNext : Int) (nextTxn : Int) (txns_a : Option Addr) (txns_n txns_c : Nat) (dirty_a : Option Addr) (dirty_n dirty_c : Nat) (image_a : Option Addr) (image_n image_c : Nat) (w : World) : Calls Try.prog 36 #[.agg #[.int .i64 1, .int .i64 txn, .int .i64 prev, .int .i64 page, .int .i64 slot, .bool before_used, .slice before_data_a before_data_n before_data_c, .bool after_used, .slice after_data_a after_data_n after_data_c, .int .i64 undoNext, .int .i64 nextTxn, .slice txns_a txns_n txns_c, .slice dirty_a dirty_n dirty_c, .slice image_a image_n image_c]] w fun e w' => e = .returned (.iface 100 (.agg #[.int .i64 txn, .int .i64 prev, .int .i64 page, .int .i64 slot, .bool before_used, .slice before_data_a before_data_n before_data_c, .bool after_used, .slice after_data_a after_data_n after_data_c])) ∧ Same w w' := by
  go_enter Try.func36, Try.ntmps36
  go_wp2
  go_ret
  exact ⟨rfl, by repeat (first | exact Kept.refl _ _ | refine Kept.alloc ?_ _)⟩
set_option maxRecDepth 100000 in
set_option maxHeartbeats 4000000 in
theorem typeRecord_2 (txn : Int) (prev : Int) (page : Int) (slot : Int) (before_used : Bool) (before_data_a : Option Addr) (before_data_n before_data_c : Nat) (after_used : Bool) (after_data_a : Option Addr) (after_data_n after_data_c : Nat) (undoNext : Int) (nextTxn : Int) (txns_a : Option Addr) (txns_n txns_c : Nat) (dirty_a : Option Addr) (dirty_n dirty_c : Nat) (image_a : Option Addr) (image_n image_c : Nat) (w : World) : Calls Try.prog 36 #[.agg #[.int .i64 2, .int .i64 txn, .int .i64 prev, .int .i64 page, .int .i64 slot, .bool before_used, .slice before_data_a before_data_n before_data_c, .bool after_used, .slice after_data_a after_data_n after_data_c, .int .i64 undoNext, .int .i64 nextTxn, .slice txns_a txns_n txns_c, .slice dirty_a dirty_n dirty_c, .slice image_a image_n image_c]] w fun e w' => e = .returned (.iface 102 (.agg #[.int .i64 txn, .int .i64 prev, .int .i64 page, .int .i64 slot, .bool after_used, .slice after_data_a after_data_n after_data_c, .int .i64 undoNext])) ∧ Same w w' := by
  go_enter Try.func36, Try.ntmps36
  go_wp2
  go_ret
  exact ⟨rfl, by repeat (first | exact Kept.refl _ _ | refine Kept.alloc ?_ _)⟩
set_option maxRecDepth 100000 in
set_option maxHeartbeats 4000000 in
theorem typeRecord_3 (txn : Int) (prev : Int) (page : Int) (slot : Int) (before_used : Bool) (before_data_a : Option Addr) (before_data_n before_data_c : Nat) (after_used : Bool) (after_data_a : Option Addr) (after_data_n after_data_c : Nat) (undoNext : Int) (nextTxn : Int) (txns_a : Option Addr) (txns_n txns_c : Nat) (dirty_a : Option Addr) (dirty_n dirty_c : Nat) (image_a : Option Addr) (image_n image_c : Nat) (w : World) : Calls Try.prog 36 #[.agg #[.int .i64 3, .int .i64 txn, .int .i64 prev, .int .i64 page, .int .i64 slot, .bool before_used, .slice before_data_a before_data_n before_data_c, .bool after_used, .slice after_data_a after_data_n after_data_c, .int .i64 undoNext, .int .i64 nextTxn, .slice txns_a txns_n txns_c, .slice dirty_a dirty_n dirty_c, .slice image_a image_n image_c]] w fun e w' => e = .returned (.iface 104 (.agg #[.int .i64 txn, .int .i64 prev])) ∧ Same w w' := by
  go_enter Try.func36, Try.ntmps36
  go_wp2
  go_ret
  exact ⟨rfl, by repeat (first | exact Kept.refl _ _ | refine Kept.alloc ?_ _)⟩
set_option maxRecDepth 100000 in
set_option maxHeartbeats 4000000 in
theorem typeRecord_4 (txn : Int) (prev : Int) (page : Int) (slot : Int) (before_used : Bool) (before_data_a : Option Addr) (before_data_n before_data_c : Nat) (after_used : Bool) (after_data_a : Option Addr) (after_data_n after_data_c : Nat) (undoNext : Int) (nextTxn : Int) (txns_a : Option Addr) (txns_n txns_c : Nat) (dirty_a : Option Addr) (dirty_n dirty_c : Nat) (image_a : Option Addr) (image_n image_c : Nat) (w : World) : Calls Try.prog 36 #[.agg #[.int .i64 4, .int .i64 txn, .int .i64 prev, .int .i64 page, .int .i64 slot, .bool before_used, .slice before_data_a before_data_n before_data_c, .bool after_used, .slice after_data_a after_data_n after_data_c, .int .i64 undoNext, .int .i64 nextTxn, .slice txns_a txns_n txns_c, .slice dirty_a dirty_n dirty_c, .slice image_a image_n image_c]] w fun e w' => e = .returned (.iface 105 (.agg #[.int .i64 txn, .int .i64 prev])) ∧ Same w w' := by
  go_enter Try.func36, Try.ntmps36
  go_wp2
  go_ret
  exact ⟨rfl, by repeat (first | exact Kept.refl _ _ | refine Kept.alloc ?_ _)⟩
set_option maxRecDepth 100000 in
set_option maxHeartbeats 4000000 in
theorem typeRecord_5 (txn : Int) (prev : Int) (page : Int) (slot : Int) (before_used : Bool) (before_data_a : Option Addr) (before_data_n before_data_c : Nat) (after_used : Bool) (after_data_a : Option Addr) (after_data_n after_data_c : Nat) (undoNext : Int) (nextTxn : Int) (txns_a : Option Addr) (txns_n txns_c : Nat) (dirty_a : Option Addr) (dirty_n dirty_c : Nat) (image_a : Option Addr) (image_n image_c : Nat) (w : World) : Calls Try.prog 36 #[.agg #[.int .i64 5, .int .i64 txn, .int .i64 prev, .int .i64 page, .int .i64 slot, .bool before_used, .slice before_data_a before_data_n before_data_c, .bool after_used, .slice after_data_a after_data_n after_data_c, .int .i64 undoNext, .int .i64 nextTxn, .slice txns_a txns_n txns_c, .slice dirty_a dirty_n dirty_c, .slice image_a image_n image_c]] w fun e w' => e = .returned (.iface 106 (.agg #[.int .i64 txn, .int .i64 prev])) ∧ Same w w' := by
  go_enter Try.func36, Try.ntmps36
  go_wp2
  go_ret
  exact ⟨rfl, by repeat (first | exact Kept.refl _ _ | refine Kept.alloc ?_ _)⟩
set_option maxRecDepth 100000 in
set_option maxHeartbeats 4000000 in
theorem typeRecord_6 (txn : Int) (prev : Int) (page : Int) (slot : Int) (before_used : Bool) (before_data_a : Option Addr) (before_data_n before_data_c : Nat) (after_used : Bool) (after_data_a : Option Addr) (after_data_n after_data_c : Nat) (undoNext : Int) (nextTxn : Int) (txns_a : Option Addr) (txns_n txns_c : Nat) (dirty_a : Option Addr) (dirty_n dirty_c : Nat) (image_a : Option Addr) (image_n image_c : Nat) (w : World) : Calls Try.prog 36 #[.agg #[.int .i64 6, .int .i64 txn, .int .i64 prev, .int .i64 page, .int .i64 slot, .bool before_used, .slice before_data_a before_data_n before_data_c, .bool after_used, .slice after_data_a after_data_n after_data_c, .int .i64 undoNext, .int .i64 nextTxn, .slice txns_a txns_n txns_c, .slice dirty_a dirty_n dirty_c, .slice image_a image_n image_c]] w fun e w' => e = .returned (.iface 107 (.agg #[.int .i64 0, .int .i64 0])) ∧ Same w w' := by
  go_enter Try.func36, Try.ntmps36
  go_wp2
  go_ret
  exact ⟨rfl, by repeat (first | exact Kept.refl _ _ | refine Kept.alloc ?_ _)⟩
set_option maxRecDepth 100000 in
set_option maxHeartbeats 4000000 in
theorem typeRecord_7 (txn : Int) (prev : Int) (page : Int) (slot : Int) (before_used : Bool) (before_data_a : Option Addr) (before_data_n before_data_c : Nat) (after_used : Bool) (after_data_a : Option Addr) (after_data_n after_data_c : Nat) (undoNext : Int) (nextTxn : Int) (txns_a : Option Addr) (txns_n txns_c : Nat) (dirty_a : Option Addr) (dirty_n dirty_c : Nat) (image_a : Option Addr) (image_n image_c : Nat) (w : World) : Calls Try.prog 36 #[.agg #[.int .i64 7, .int .i64 txn, .int .i64 prev, .int .i64 page, .int .i64 slot, .bool before_used, .slice before_data_a before_data_n before_data_c, .bool after_used, .slice after_data_a after_data_n after_data_c, .int .i64 undoNext, .int .i64 nextTxn, .slice txns_a txns_n txns_c, .slice dirty_a dirty_n dirty_c, .slice image_a image_n image_c]] w fun e w' => e = .returned (.iface 109 (.agg #[.int .i64 0, .int .i64 0, .int .i64 nextTxn, .slice txns_a txns_n txns_c, .slice dirty_a dirty_n dirty_c])) ∧ Same w w' := by
  go_enter Try.func36, Try.ntmps36
  go_wp2
  go_ret
  exact ⟨rfl, by repeat (first | exact Kept.refl _ _ | refine Kept.alloc ?_ _)⟩
set_option maxRecDepth 100000 in
set_option maxHeartbeats 4000000 in
theorem typeRecord_8 (txn : Int) (prev : Int) (page : Int) (slot : Int) (before_used : Bool) (before_data_a : Option Addr) (before_data_n before_data_c : Nat) (after_used : Bool) (after_data_a : Option Addr) (after_data_n after_data_c : Nat) (undoNext : Int) (nextTxn : Int) (txns_a : Option Addr) (txns_n txns_c : Nat) (dirty_a : Option Addr) (dirty_n dirty_c : Nat) (image_a : Option Addr) (image_n image_c : Nat) (w : World) : Calls Try.prog 36 #[.agg #[.int .i64 8, .int .i64 txn, .int .i64 prev, .int .i64 page, .int .i64 slot, .bool before_used, .slice before_data_a before_data_n before_data_c, .bool after_used, .slice after_data_a after_data_n after_data_c, .int .i64 undoNext, .int .i64 nextTxn, .slice txns_a txns_n txns_c, .slice dirty_a dirty_n dirty_c, .slice image_a image_n image_c]] w fun e w' => e = .returned (.iface 111 (.agg #[.int .i64 0, .int .i64 0, .int .i64 page, .slice image_a image_n image_c])) ∧ Same w w' := by
  go_enter Try.func36, Try.ntmps36
  go_wp2
  go_ret
  exact ⟨rfl, by repeat (first | exact Kept.refl _ _ | refine Kept.alloc ?_ _)⟩
set_option maxRecDepth 100000 in
set_option maxHeartbeats 4000000 in
theorem typeRecord_0 (kind : Int) (txn : Int) (prev : Int) (page : Int) (slot : Int) (before_used : Bool) (before_data_a : Option Addr) (before_data_n before_data_c : Nat) (after_used : Bool) (after_data_a : Option Addr) (after_data_n after_data_c : Nat) (undoNext : Int) (nextTxn : Int) (txns_a : Option Addr) (txns_n txns_c : Nat) (dirty_a : Option Addr) (dirty_n dirty_c : Nat) (image_a : Option Addr) (image_n image_c : Nat) (w : World) (h1 : ¬ kind = 1) (h2 : ¬ kind = 2) (h3 : ¬ kind = 3) (h4 : ¬ kind = 4) (h5 : ¬ kind = 5) (h6 : ¬ kind = 6) (h7 : ¬ kind = 7) (h8 : ¬ kind = 8) : Calls Try.prog 36 #[.agg #[.int .i64 kind, .int .i64 txn, .int .i64 prev, .int .i64 page, .int .i64 slot, .bool before_used, .slice before_data_a before_data_n before_data_c, .bool after_used, .slice after_data_a after_data_n after_data_c, .int .i64 undoNext, .int .i64 nextTxn, .slice txns_a txns_n txns_c, .slice dirty_a dirty_n dirty_c, .slice image_a image_n image_c]] w fun e w' => e = .returned .nilIface ∧ Same w w' := by
  go_enter Try.func36, Try.ntmps36
  go_wp2
  go_ret
  exact ⟨rfl, by repeat (first | exact Kept.refl _ _ | refine Kept.alloc ?_ _)⟩
end Go.Proofs.Ytclmdpmelifplab
