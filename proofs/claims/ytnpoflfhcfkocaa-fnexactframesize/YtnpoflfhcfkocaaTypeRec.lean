import Derived.Test.YtnpoflfhcfkocaaTyLogRecord
namespace Go.Proofs.Ytnpoflfhcfkocaa
set_option maxRecDepth 100000
set_option maxHeartbeats 4000000
open Go.RowKit
set_option linter.unusedVariables false
set_option linter.unusedSimpArgs false
theorem typeRecord_1 (txn : Int) (prev : Int) (page : Int) (slot : Int) (bU : Bool) (bDa : Option Addr) (bDn bDc : Nat) (aU : Bool) (aDa : Option Addr) (aDn aDc : Nat) (uN : Int) (nT : Int) (txns_a : Option Addr) (txns_n txns_c : Nat) (dirty_a : Option Addr) (dirty_n dirty_c : Nat) (image_a : Option Addr) (image_n image_c : Nat) (w : World) : Calls Try.prog 36 #[.agg #[.int .i64 1, .int .i64 txn, .int .i64 prev, .int .i64 page, .int .i64 slot, .bool bU, .slice bDa bDn bDc, .bool aU, .slice aDa aDn aDc, .int .i64 uN, .int .i64 nT, .slice txns_a txns_n txns_c, .slice dirty_a dirty_n dirty_c, .slice image_a image_n image_c]] w fun e w' => e = .returned (.iface 92 (.agg #[.int .i64 txn, .int .i64 prev, .int .i64 page, .int .i64 slot, .bool bU, .slice bDa bDn bDc, .bool aU, .slice aDa aDn aDc])) ∧ Same w w' := by
  go_enter Try.func36, Try.ntmps36
  go_wp2
  go_ret
  exact ⟨rfl, by repeat (first | exact Kept.refl _ _ | refine Kept.alloc ?_ _)⟩
theorem typeRecord_2 (txn : Int) (prev : Int) (page : Int) (slot : Int) (bU : Bool) (bDa : Option Addr) (bDn bDc : Nat) (aU : Bool) (aDa : Option Addr) (aDn aDc : Nat) (uN : Int) (nT : Int) (txns_a : Option Addr) (txns_n txns_c : Nat) (dirty_a : Option Addr) (dirty_n dirty_c : Nat) (image_a : Option Addr) (image_n image_c : Nat) (w : World) : Calls Try.prog 36 #[.agg #[.int .i64 2, .int .i64 txn, .int .i64 prev, .int .i64 page, .int .i64 slot, .bool bU, .slice bDa bDn bDc, .bool aU, .slice aDa aDn aDc, .int .i64 uN, .int .i64 nT, .slice txns_a txns_n txns_c, .slice dirty_a dirty_n dirty_c, .slice image_a image_n image_c]] w fun e w' => e = .returned (.iface 79 (.agg #[.int .i64 txn, .int .i64 prev, .int .i64 page, .int .i64 slot, .bool aU, .slice aDa aDn aDc, .int .i64 uN])) ∧ Same w w' := by
  go_enter Try.func36, Try.ntmps36
  go_wp2
  go_ret
  exact ⟨rfl, by repeat (first | exact Kept.refl _ _ | refine Kept.alloc ?_ _)⟩
theorem typeRecord_3 (txn : Int) (prev : Int) (page : Int) (slot : Int) (bU : Bool) (bDa : Option Addr) (bDn bDc : Nat) (aU : Bool) (aDa : Option Addr) (aDn aDc : Nat) (uN : Int) (nT : Int) (txns_a : Option Addr) (txns_n txns_c : Nat) (dirty_a : Option Addr) (dirty_n dirty_c : Nat) (image_a : Option Addr) (image_n image_c : Nat) (w : World) : Calls Try.prog 36 #[.agg #[.int .i64 3, .int .i64 txn, .int .i64 prev, .int .i64 page, .int .i64 slot, .bool bU, .slice bDa bDn bDc, .bool aU, .slice aDa aDn aDc, .int .i64 uN, .int .i64 nT, .slice txns_a txns_n txns_c, .slice dirty_a dirty_n dirty_c, .slice image_a image_n image_c]] w fun e w' => e = .returned (.iface 94 (.agg #[.int .i64 txn, .int .i64 prev])) ∧ Same w w' := by
  go_enter Try.func36, Try.ntmps36
  go_wp2
  go_ret
  exact ⟨rfl, by repeat (first | exact Kept.refl _ _ | refine Kept.alloc ?_ _)⟩
theorem typeRecord_4 (txn : Int) (prev : Int) (page : Int) (slot : Int) (bU : Bool) (bDa : Option Addr) (bDn bDc : Nat) (aU : Bool) (aDa : Option Addr) (aDn aDc : Nat) (uN : Int) (nT : Int) (txns_a : Option Addr) (txns_n txns_c : Nat) (dirty_a : Option Addr) (dirty_n dirty_c : Nat) (image_a : Option Addr) (image_n image_c : Nat) (w : World) : Calls Try.prog 36 #[.agg #[.int .i64 4, .int .i64 txn, .int .i64 prev, .int .i64 page, .int .i64 slot, .bool bU, .slice bDa bDn bDc, .bool aU, .slice aDa aDn aDc, .int .i64 uN, .int .i64 nT, .slice txns_a txns_n txns_c, .slice dirty_a dirty_n dirty_c, .slice image_a image_n image_c]] w fun e w' => e = .returned (.iface 95 (.agg #[.int .i64 txn, .int .i64 prev])) ∧ Same w w' := by
  go_enter Try.func36, Try.ntmps36
  go_wp2
  go_ret
  exact ⟨rfl, by repeat (first | exact Kept.refl _ _ | refine Kept.alloc ?_ _)⟩
theorem typeRecord_5 (txn : Int) (prev : Int) (page : Int) (slot : Int) (bU : Bool) (bDa : Option Addr) (bDn bDc : Nat) (aU : Bool) (aDa : Option Addr) (aDn aDc : Nat) (uN : Int) (nT : Int) (txns_a : Option Addr) (txns_n txns_c : Nat) (dirty_a : Option Addr) (dirty_n dirty_c : Nat) (image_a : Option Addr) (image_n image_c : Nat) (w : World) : Calls Try.prog 36 #[.agg #[.int .i64 5, .int .i64 txn, .int .i64 prev, .int .i64 page, .int .i64 slot, .bool bU, .slice bDa bDn bDc, .bool aU, .slice aDa aDn aDc, .int .i64 uN, .int .i64 nT, .slice txns_a txns_n txns_c, .slice dirty_a dirty_n dirty_c, .slice image_a image_n image_c]] w fun e w' => e = .returned (.iface 96 (.agg #[.int .i64 txn, .int .i64 prev])) ∧ Same w w' := by
  go_enter Try.func36, Try.ntmps36
  go_wp2
  go_ret
  exact ⟨rfl, by repeat (first | exact Kept.refl _ _ | refine Kept.alloc ?_ _)⟩
theorem typeRecord_6 (txn : Int) (prev : Int) (page : Int) (slot : Int) (bU : Bool) (bDa : Option Addr) (bDn bDc : Nat) (aU : Bool) (aDa : Option Addr) (aDn aDc : Nat) (uN : Int) (nT : Int) (txns_a : Option Addr) (txns_n txns_c : Nat) (dirty_a : Option Addr) (dirty_n dirty_c : Nat) (image_a : Option Addr) (image_n image_c : Nat) (w : World) : Calls Try.prog 36 #[.agg #[.int .i64 6, .int .i64 txn, .int .i64 prev, .int .i64 page, .int .i64 slot, .bool bU, .slice bDa bDn bDc, .bool aU, .slice aDa aDn aDc, .int .i64 uN, .int .i64 nT, .slice txns_a txns_n txns_c, .slice dirty_a dirty_n dirty_c, .slice image_a image_n image_c]] w fun e w' => e = .returned (.iface 97 (.agg #[.int .i64 0, .int .i64 0])) ∧ Same w w' := by
  go_enter Try.func36, Try.ntmps36
  go_wp2
  go_ret
  exact ⟨rfl, by repeat (first | exact Kept.refl _ _ | refine Kept.alloc ?_ _)⟩
theorem typeRecord_7 (txn : Int) (prev : Int) (page : Int) (slot : Int) (bU : Bool) (bDa : Option Addr) (bDn bDc : Nat) (aU : Bool) (aDa : Option Addr) (aDn aDc : Nat) (uN : Int) (nT : Int) (txns_a : Option Addr) (txns_n txns_c : Nat) (dirty_a : Option Addr) (dirty_n dirty_c : Nat) (image_a : Option Addr) (image_n image_c : Nat) (w : World) : Calls Try.prog 36 #[.agg #[.int .i64 7, .int .i64 txn, .int .i64 prev, .int .i64 page, .int .i64 slot, .bool bU, .slice bDa bDn bDc, .bool aU, .slice aDa aDn aDc, .int .i64 uN, .int .i64 nT, .slice txns_a txns_n txns_c, .slice dirty_a dirty_n dirty_c, .slice image_a image_n image_c]] w fun e w' => e = .returned (.iface 99 (.agg #[.int .i64 0, .int .i64 0, .int .i64 nT, .slice txns_a txns_n txns_c, .slice dirty_a dirty_n dirty_c])) ∧ Same w w' := by
  go_enter Try.func36, Try.ntmps36
  go_wp2
  go_ret
  exact ⟨rfl, by repeat (first | exact Kept.refl _ _ | refine Kept.alloc ?_ _)⟩
theorem typeRecord_8 (txn : Int) (prev : Int) (page : Int) (slot : Int) (bU : Bool) (bDa : Option Addr) (bDn bDc : Nat) (aU : Bool) (aDa : Option Addr) (aDn aDc : Nat) (uN : Int) (nT : Int) (txns_a : Option Addr) (txns_n txns_c : Nat) (dirty_a : Option Addr) (dirty_n dirty_c : Nat) (image_a : Option Addr) (image_n image_c : Nat) (w : World) : Calls Try.prog 36 #[.agg #[.int .i64 8, .int .i64 txn, .int .i64 prev, .int .i64 page, .int .i64 slot, .bool bU, .slice bDa bDn bDc, .bool aU, .slice aDa aDn aDc, .int .i64 uN, .int .i64 nT, .slice txns_a txns_n txns_c, .slice dirty_a dirty_n dirty_c, .slice image_a image_n image_c]] w fun e w' => e = .returned (.iface 101 (.agg #[.int .i64 0, .int .i64 0, .int .i64 page, .slice image_a image_n image_c])) ∧ Same w w' := by
  go_enter Try.func36, Try.ntmps36
  go_wp2
  go_ret
  exact ⟨rfl, by repeat (first | exact Kept.refl _ _ | refine Kept.alloc ?_ _)⟩
theorem typeRecord_0 (kind : Int) (txn : Int) (prev : Int) (page : Int) (slot : Int) (bU : Bool) (bDa : Option Addr) (bDn bDc : Nat) (aU : Bool) (aDa : Option Addr) (aDn aDc : Nat) (uN : Int) (nT : Int) (txns_a : Option Addr) (txns_n txns_c : Nat) (dirty_a : Option Addr) (dirty_n dirty_c : Nat) (image_a : Option Addr) (image_n image_c : Nat) (w : World) (h1 : ¬ kind = 1) (h2 : ¬ kind = 2) (h3 : ¬ kind = 3) (h4 : ¬ kind = 4) (h5 : ¬ kind = 5) (h6 : ¬ kind = 6) (h7 : ¬ kind = 7) (h8 : ¬ kind = 8) : Calls Try.prog 36 #[.agg #[.int .i64 kind, .int .i64 txn, .int .i64 prev, .int .i64 page, .int .i64 slot, .bool bU, .slice bDa bDn bDc, .bool aU, .slice aDa aDn aDc, .int .i64 uN, .int .i64 nT, .slice txns_a txns_n txns_c, .slice dirty_a dirty_n dirty_c, .slice image_a image_n image_c]] w fun e w' => e = .returned .nilIface ∧ Same w w' := by
  go_enter Try.func36, Try.ntmps36
  go_wp2
  go_ret
  exact ⟨rfl, by repeat (first | exact Kept.refl _ _ | refine Kept.alloc ?_ _)⟩
end Go.Proofs.Ytnpoflfhcfkocaa
