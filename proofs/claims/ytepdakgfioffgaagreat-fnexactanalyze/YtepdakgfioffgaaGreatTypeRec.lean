import Derived.Test.YtepdakgfioffgaaGreatTyLogRecord
namespace Go.Proofs.YtepdakgfioffgaaGreat
set_option maxRecDepth 100000
set_option maxHeartbeats 4000000
set_option linter.unusedVariables false
set_option linter.unusedSimpArgs false
open Go.RowKit
theorem typeRecord_1 (txn prev page slot : Int) (bU : Bool) (bN : Option Addr) (gU bO : Nat) (aU : Bool) (bH : Option Addr) (fB bI : Nat) (uN nT : Int) (b9 : Option Addr) (bp cf : Nat) (ch : Option Addr) (bo cj : Nat) (cg : Option Addr) (i6 cm : Nat) (w : World) : Calls Tryz.prog 73 #[.agg #[.int .i64 1, .int .i64 txn, .int .i64 prev, .int .i64 page, .int .i64 slot, .bool bU, .slice bN gU bO, .bool aU, .slice bH fB bI, .int .i64 uN, .int .i64 nT, .slice b9 bp cf, .slice ch bo cj, .slice cg i6 cm]] w fun e w' => e = .returned (.iface 139 (.agg #[.int .i64 txn, .int .i64 prev, .int .i64 page, .int .i64 slot, .bool bU, .slice bN gU bO, .bool aU, .slice bH fB bI])) ∧ Same w w' := by
 go_enter Tryz.func73, Tryz.ntmps73
 go_wp2
 go_ret
 exact ⟨rfl, by repeat (first | exact Kept.refl _ _ | refine Kept.alloc ?_ _)⟩
theorem typeRecord_2 (txn prev page slot : Int) (bU : Bool) (bN : Option Addr) (gU bO : Nat) (aU : Bool) (bH : Option Addr) (fB bI : Nat) (uN nT : Int) (b9 : Option Addr) (bp cf : Nat) (ch : Option Addr) (bo cj : Nat) (cg : Option Addr) (i6 cm : Nat) (w : World) : Calls Tryz.prog 73 #[.agg #[.int .i64 2, .int .i64 txn, .int .i64 prev, .int .i64 page, .int .i64 slot, .bool bU, .slice bN gU bO, .bool aU, .slice bH fB bI, .int .i64 uN, .int .i64 nT, .slice b9 bp cf, .slice ch bo cj, .slice cg i6 cm]] w fun e w' => e = .returned (.iface 141 (.agg #[.int .i64 txn, .int .i64 prev, .int .i64 page, .int .i64 slot, .bool aU, .slice bH fB bI, .int .i64 uN])) ∧ Same w w' := by
 go_enter Tryz.func73, Tryz.ntmps73
 go_wp2
 go_ret
 exact ⟨rfl, by repeat (first | exact Kept.refl _ _ | refine Kept.alloc ?_ _)⟩
theorem typeRecord_3 (txn prev page slot : Int) (bU : Bool) (bN : Option Addr) (gU bO : Nat) (aU : Bool) (bH : Option Addr) (fB bI : Nat) (uN nT : Int) (b9 : Option Addr) (bp cf : Nat) (ch : Option Addr) (bo cj : Nat) (cg : Option Addr) (i6 cm : Nat) (w : World) : Calls Tryz.prog 73 #[.agg #[.int .i64 3, .int .i64 txn, .int .i64 prev, .int .i64 page, .int .i64 slot, .bool bU, .slice bN gU bO, .bool aU, .slice bH fB bI, .int .i64 uN, .int .i64 nT, .slice b9 bp cf, .slice ch bo cj, .slice cg i6 cm]] w fun e w' => e = .returned (.iface 143 (.agg #[.int .i64 txn, .int .i64 prev])) ∧ Same w w' := by
 go_enter Tryz.func73, Tryz.ntmps73
 go_wp2
 go_ret
 exact ⟨rfl, by repeat (first | exact Kept.refl _ _ | refine Kept.alloc ?_ _)⟩
theorem typeRecord_4 (txn prev page slot : Int) (bU : Bool) (bN : Option Addr) (gU bO : Nat) (aU : Bool) (bH : Option Addr) (fB bI : Nat) (uN nT : Int) (b9 : Option Addr) (bp cf : Nat) (ch : Option Addr) (bo cj : Nat) (cg : Option Addr) (i6 cm : Nat) (w : World) : Calls Tryz.prog 73 #[.agg #[.int .i64 4, .int .i64 txn, .int .i64 prev, .int .i64 page, .int .i64 slot, .bool bU, .slice bN gU bO, .bool aU, .slice bH fB bI, .int .i64 uN, .int .i64 nT, .slice b9 bp cf, .slice ch bo cj, .slice cg i6 cm]] w fun e w' => e = .returned (.iface 144 (.agg #[.int .i64 txn, .int .i64 prev])) ∧ Same w w' := by
 go_enter Tryz.func73, Tryz.ntmps73
 go_wp2
 go_ret
 exact ⟨rfl, by repeat (first | exact Kept.refl _ _ | refine Kept.alloc ?_ _)⟩
theorem typeRecord_5 (txn prev page slot : Int) (bU : Bool) (bN : Option Addr) (gU bO : Nat) (aU : Bool) (bH : Option Addr) (fB bI : Nat) (uN nT : Int) (b9 : Option Addr) (bp cf : Nat) (ch : Option Addr) (bo cj : Nat) (cg : Option Addr) (i6 cm : Nat) (w : World) : Calls Tryz.prog 73 #[.agg #[.int .i64 5, .int .i64 txn, .int .i64 prev, .int .i64 page, .int .i64 slot, .bool bU, .slice bN gU bO, .bool aU, .slice bH fB bI, .int .i64 uN, .int .i64 nT, .slice b9 bp cf, .slice ch bo cj, .slice cg i6 cm]] w fun e w' => e = .returned (.iface 145 (.agg #[.int .i64 txn, .int .i64 prev])) ∧ Same w w' := by
 go_enter Tryz.func73, Tryz.ntmps73
 go_wp2
 go_ret
 exact ⟨rfl, by repeat (first | exact Kept.refl _ _ | refine Kept.alloc ?_ _)⟩
theorem typeRecord_6 (txn prev page slot : Int) (bU : Bool) (bN : Option Addr) (gU bO : Nat) (aU : Bool) (bH : Option Addr) (fB bI : Nat) (uN nT : Int) (b9 : Option Addr) (bp cf : Nat) (ch : Option Addr) (bo cj : Nat) (cg : Option Addr) (i6 cm : Nat) (w : World) : Calls Tryz.prog 73 #[.agg #[.int .i64 6, .int .i64 txn, .int .i64 prev, .int .i64 page, .int .i64 slot, .bool bU, .slice bN gU bO, .bool aU, .slice bH fB bI, .int .i64 uN, .int .i64 nT, .slice b9 bp cf, .slice ch bo cj, .slice cg i6 cm]] w fun e w' => e = .returned (.iface 146 (.agg #[.int .i64 0, .int .i64 0])) ∧ Same w w' := by
 go_enter Tryz.func73, Tryz.ntmps73
 go_wp2
 go_ret
 exact ⟨rfl, by repeat (first | exact Kept.refl _ _ | refine Kept.alloc ?_ _)⟩
theorem typeRecord_7 (txn prev page slot : Int) (bU : Bool) (bN : Option Addr) (gU bO : Nat) (aU : Bool) (bH : Option Addr) (fB bI : Nat) (uN nT : Int) (b9 : Option Addr) (bp cf : Nat) (ch : Option Addr) (bo cj : Nat) (cg : Option Addr) (i6 cm : Nat) (w : World) : Calls Tryz.prog 73 #[.agg #[.int .i64 7, .int .i64 txn, .int .i64 prev, .int .i64 page, .int .i64 slot, .bool bU, .slice bN gU bO, .bool aU, .slice bH fB bI, .int .i64 uN, .int .i64 nT, .slice b9 bp cf, .slice ch bo cj, .slice cg i6 cm]] w fun e w' => e = .returned (.iface 148 (.agg #[.int .i64 0, .int .i64 0, .int .i64 nT, .slice b9 bp cf, .slice ch bo cj])) ∧ Same w w' := by
 go_enter Tryz.func73, Tryz.ntmps73
 go_wp2
 go_ret
 exact ⟨rfl, by repeat (first | exact Kept.refl _ _ | refine Kept.alloc ?_ _)⟩
theorem typeRecord_8 (txn prev page slot : Int) (bU : Bool) (bN : Option Addr) (gU bO : Nat) (aU : Bool) (bH : Option Addr) (fB bI : Nat) (uN nT : Int) (b9 : Option Addr) (bp cf : Nat) (ch : Option Addr) (bo cj : Nat) (cg : Option Addr) (i6 cm : Nat) (w : World) : Calls Tryz.prog 73 #[.agg #[.int .i64 8, .int .i64 txn, .int .i64 prev, .int .i64 page, .int .i64 slot, .bool bU, .slice bN gU bO, .bool aU, .slice bH fB bI, .int .i64 uN, .int .i64 nT, .slice b9 bp cf, .slice ch bo cj, .slice cg i6 cm]] w fun e w' => e = .returned (.iface 150 (.agg #[.int .i64 0, .int .i64 0, .int .i64 page, .slice cg i6 cm])) ∧ Same w w' := by
 go_enter Tryz.func73, Tryz.ntmps73
 go_wp2
 go_ret
 exact ⟨rfl, by repeat (first | exact Kept.refl _ _ | refine Kept.alloc ?_ _)⟩
theorem typeRecord_0 (kind txn prev page slot : Int) (bU : Bool) (bN : Option Addr) (gU bO : Nat) (aU : Bool) (bH : Option Addr) (fB bI : Nat) (uN nT : Int) (b9 : Option Addr) (bp cf : Nat) (ch : Option Addr) (bo cj : Nat) (cg : Option Addr) (i6 cm : Nat) (w : World) (h1 : ¬ kind = 1) (h2 : ¬ kind = 2) (h3 : ¬ kind = 3) (h4 : ¬ kind = 4) (h5 : ¬ kind = 5) (h6 : ¬ kind = 6) (h7 : ¬ kind = 7) (h8 : ¬ kind = 8) : Calls Tryz.prog 73 #[.agg #[.int .i64 kind, .int .i64 txn, .int .i64 prev, .int .i64 page, .int .i64 slot, .bool bU, .slice bN gU bO, .bool aU, .slice bH fB bI, .int .i64 uN, .int .i64 nT, .slice b9 bp cf, .slice ch bo cj, .slice cg i6 cm]] w fun e w' => e = .returned .nilIface ∧ Same w w' := by
 go_enter Tryz.func73, Tryz.ntmps73
 go_wp2
 go_ret
 exact ⟨rfl, by repeat (first | exact Kept.refl _ _ | refine Kept.alloc ?_ _)⟩
end Go.Proofs.YtepdakgfioffgaaGreat
