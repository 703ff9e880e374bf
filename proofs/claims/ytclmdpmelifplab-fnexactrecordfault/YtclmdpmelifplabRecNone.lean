/-
  Records of no kind.
-/
import Derived.Test.YtclmdpmelifplabSpecSmall4
import Derived.Test.YtclmdpmelifplabRecF
namespace Go.Proofs.Ytclmdpmelifplab
open Go.RowKit
set_option linter.unusedVariables false
set_option linter.unusedSimpArgs false
set_option maxRecDepth 100000 in
set_option maxHeartbeats 4000000 in
theorem recS_0 (kind : Int) (txn : Int) (prev : Int) (page : Int) (slot : Int) (before_used : Bool) (before_data_a : Option Addr) (before_data_c : Nat) (before_data_b : List Int) (after_used : Bool) (after_data_a : Option Addr) (after_data_c : Nat) (after_data_b : List Int) (undoNext : Int) (nextTxn : Int) (txns_e : TypeId) (txns_a : Option Addr) (txns_n txns_c : Nat) (txns_b : List Int) (dirty_e : TypeId) (dirty_a : Option Addr) (dirty_n dirty_c : Nat) (dirty_b : List Int) (image_a : Option Addr) (image_c : Nat) (image_b : List Int) (w : World) (h : inB kind 1 8 = false) : Calls Try.prog 11 #[.agg #[.int .i64 kind, .int .i64 txn, .int .i64 prev, .int .i64 page, .int .i64 slot, .bool before_used, .slice before_data_a before_data_b.length before_data_c, .bool after_used, .slice after_data_a after_data_b.length after_data_c, .int .i64 undoNext, .int .i64 nextTxn, .slice txns_a txns_n txns_c, .slice dirty_a dirty_n dirty_c, .slice image_a image_b.length image_c]] w fun e w' => e = .returned (.int .i64 1) ∧ Same w w' := by
  have h1 := fun wx => l4In_any kind 1 8 wx
  rw [h] at h1
  have hk1 : ¬ kind = 1 := fun e => by subst e; cases h
  have hk2 : ¬ kind = 2 := fun e => by subst e; cases h
  clear h
  go_enter Try.func11, Try.ntmps11
  go_wp2_with (go_at_call 31; refine (h1 _).mono ?_; rintro e w1 ⟨rfl, hk⟩)
  go_ret
  exact ⟨rfl, ((Kept.refl _ _).alloc _).trans hk⟩
set_option maxRecDepth 100000 in
set_option maxHeartbeats 4000000 in
theorem recI_0 (kind : Int) (txn : Int) (prev : Int) (page : Int) (slot : Int) (before_used : Bool) (before_data_a : Option Addr) (before_data_c : Nat) (before_data_b : List Int) (after_used : Bool) (after_data_a : Option Addr) (after_data_c : Nat) (after_data_b : List Int) (undoNext : Int) (nextTxn : Int) (txns_e : TypeId) (txns_a : Option Addr) (txns_n txns_c : Nat) (txns_b : List Int) (dirty_e : TypeId) (dirty_a : Option Addr) (dirty_n dirty_c : Nat) (dirty_b : List Int) (image_a : Option Addr) (image_c : Nat) (image_b : List Int) (w : World) (h1 : ¬ kind = 1) (h2 : ¬ kind = 2) (h3 : ¬ kind = 3) (h4 : ¬ kind = 4) (h5 : ¬ kind = 5) (h6 : ¬ kind = 6) (h7 : ¬ kind = 7) (h8 : ¬ kind = 8) : Calls Try.prog 12 #[.agg #[.int .i64 kind, .int .i64 txn, .int .i64 prev, .int .i64 page, .int .i64 slot, .bool before_used, .slice before_data_a before_data_b.length before_data_c, .bool after_used, .slice after_data_a after_data_b.length after_data_c, .int .i64 undoNext, .int .i64 nextTxn, .slice txns_a txns_n txns_c, .slice dirty_a dirty_n dirty_c, .slice image_a image_b.length image_c]] w fun e w' => e = .returned (.int .i64 1) ∧ Same w w' := by
  have hT := fun wx => typeRecord_0 kind txn prev page slot before_used before_data_a before_data_b.length before_data_c after_used after_data_a after_data_b.length after_data_c undoNext nextTxn txns_a txns_n txns_c dirty_a dirty_n dirty_c image_a image_b.length image_c wx h1 h2 h3 h4 h5 h6 h7 h8
  clear h1 h2 h3 h4 h5 h6 h7 h8
  go_enter Try.func12, Try.ntmps12
  go_wp2_with (go_at_call 36; refine (hT _).mono ?_; rintro e w1 ⟨rfl, hk⟩)
  go_ret
  exact ⟨rfl, ((Kept.refl _ _).alloc _).trans hk⟩
end Go.Proofs.Ytclmdpmelifplab
