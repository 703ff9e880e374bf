import Derived.Test.YtdbpaadndaoihaaGreatDoorG09
namespace Go.Proofs.YtdbpaadndaoihaaGreatDoor
set_option maxRecDepth 100000
set_option maxHeartbeats 4000000
set_option linter.unusedVariables false
set_option linter.unusedSimpArgs false
open Go.RowKit
theorem typeRecord_6 (txn : Int) (prev : Int) (page : Int) (slot : Int) (bU : Bool) (bDa : Option Addr) (bDn bDc : Nat) (aU : Bool) (aDa : Option Addr) (aDn aDc : Nat) (uN : Int) (nT : Int) (tXa : Option Addr) (tXn tXc : Nat) (dYa : Option Addr) (dYn dYc : Nat) (iMa : Option Addr) (iMn iMc : Nat) (w : World) : Calls Tryz.prog 95 #[.agg #[.int .i64 6, .int .i64 txn, .int .i64 prev, .int .i64 page, .int .i64 slot, .bool bU, .slice bDa bDn bDc, .bool aU, .slice aDa aDn aDc, .int .i64 uN, .int .i64 nT, .slice tXa tXn tXc, .slice dYa dYn dYc, .slice iMa iMn iMc]] w fun e w' => e = .returned (.iface 187 (.agg #[.int .i64 0, .int .i64 0])) ∧ Same w w' := by
 go_enter Tryz.func95, Tryz.ntmps95
 go_wp2
 go_ret
 exact ⟨rfl, by repeat (first | exact Kept.refl _ _ | refine Kept.alloc ?_ _)⟩
theorem typeRecord_7 (txn : Int) (prev : Int) (page : Int) (slot : Int) (bU : Bool) (bDa : Option Addr) (bDn bDc : Nat) (aU : Bool) (aDa : Option Addr) (aDn aDc : Nat) (uN : Int) (nT : Int) (tXa : Option Addr) (tXn tXc : Nat) (dYa : Option Addr) (dYn dYc : Nat) (iMa : Option Addr) (iMn iMc : Nat) (w : World) : Calls Tryz.prog 95 #[.agg #[.int .i64 7, .int .i64 txn, .int .i64 prev, .int .i64 page, .int .i64 slot, .bool bU, .slice bDa bDn bDc, .bool aU, .slice aDa aDn aDc, .int .i64 uN, .int .i64 nT, .slice tXa tXn tXc, .slice dYa dYn dYc, .slice iMa iMn iMc]] w fun e w' => e = .returned (.iface 189 (.agg #[.int .i64 0, .int .i64 0, .int .i64 nT, .slice tXa tXn tXc, .slice dYa dYn dYc])) ∧ Same w w' := by
 go_enter Tryz.func95, Tryz.ntmps95
 go_wp2
 go_ret
 exact ⟨rfl, by repeat (first | exact Kept.refl _ _ | refine Kept.alloc ?_ _)⟩
end Go.Proofs.YtdbpaadndaoihaaGreatDoor
