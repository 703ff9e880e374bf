import Derived.Test.YtdbpaadndaoihaaGreatDoorTypeRec
import Derived.Test.YtdbpaadndaoihaaGreatDoorG01
namespace Go.Proofs.YtdbpaadndaoihaaGreatDoor
set_option maxRecDepth 100000
set_option maxHeartbeats 16000000
set_option linter.unusedVariables false
set_option linter.unusedSimpArgs false
open Go.RowKit
@[go_sem] theorem as1_1 (v : Value) (w : World) : (Instr.typeAssert (.iface 180 v) 147 180 true).run Tryz.prog w = .ok (.tuple #[v, .bool true]) w := by kernel_rfl
@[go_sem] theorem as2_1 (v : Value) (w : World) : (Instr.typeAssert (.iface 182 v) 147 180 true).run Tryz.prog w = .ok (.tuple #[.agg #[.int .i64 0, .int .i64 0, .int .i64 0, .int .i64 0, .bool false, .slice none 0 0, .bool false, .slice none 0 0], .bool false]) w := by kernel_rfl
@[go_sem] theorem as2_2 (v : Value) (w : World) : (Instr.typeAssert (.iface 182 v) 147 182 true).run Tryz.prog w = .ok (.tuple #[v, .bool true]) w := by kernel_rfl
@[go_sem] theorem as3_1 (v : Value) (w : World) : (Instr.typeAssert (.iface 184 v) 147 180 true).run Tryz.prog w = .ok (.tuple #[.agg #[.int .i64 0, .int .i64 0, .int .i64 0, .int .i64 0, .bool false, .slice none 0 0, .bool false, .slice none 0 0], .bool false]) w := by kernel_rfl
@[go_sem] theorem as3_2 (v : Value) (w : World) : (Instr.typeAssert (.iface 184 v) 147 182 true).run Tryz.prog w = .ok (.tuple #[.agg #[.int .i64 0, .int .i64 0, .int .i64 0, .int .i64 0, .bool false, .slice none 0 0, .int .i64 0], .bool false]) w := by kernel_rfl
@[go_sem] theorem as3_3 (v : Value) (w : World) : (Instr.typeAssert (.iface 184 v) 147 184 true).run Tryz.prog w = .ok (.tuple #[v, .bool true]) w := by kernel_rfl
@[go_sem] theorem as4_1 (v : Value) (w : World) : (Instr.typeAssert (.iface 185 v) 147 180 true).run Tryz.prog w = .ok (.tuple #[.agg #[.int .i64 0, .int .i64 0, .int .i64 0, .int .i64 0, .bool false, .slice none 0 0, .bool false, .slice none 0 0], .bool false]) w := by kernel_rfl
@[go_sem] theorem as4_2 (v : Value) (w : World) : (Instr.typeAssert (.iface 185 v) 147 182 true).run Tryz.prog w = .ok (.tuple #[.agg #[.int .i64 0, .int .i64 0, .int .i64 0, .int .i64 0, .bool false, .slice none 0 0, .int .i64 0], .bool false]) w := by kernel_rfl
@[go_sem] theorem as4_3 (v : Value) (w : World) : (Instr.typeAssert (.iface 185 v) 147 184 true).run Tryz.prog w = .ok (.tuple #[.agg #[.int .i64 0, .int .i64 0], .bool false]) w := by kernel_rfl
@[go_sem] theorem as4_4 (v : Value) (w : World) : (Instr.typeAssert (.iface 185 v) 147 185 true).run Tryz.prog w = .ok (.tuple #[v, .bool true]) w := by kernel_rfl
@[go_sem] theorem as5_1 (v : Value) (w : World) : (Instr.typeAssert (.iface 186 v) 147 180 true).run Tryz.prog w = .ok (.tuple #[.agg #[.int .i64 0, .int .i64 0, .int .i64 0, .int .i64 0, .bool false, .slice none 0 0, .bool false, .slice none 0 0], .bool false]) w := by kernel_rfl
@[go_sem] theorem as5_2 (v : Value) (w : World) : (Instr.typeAssert (.iface 186 v) 147 182 true).run Tryz.prog w = .ok (.tuple #[.agg #[.int .i64 0, .int .i64 0, .int .i64 0, .int .i64 0, .bool false, .slice none 0 0, .int .i64 0], .bool false]) w := by kernel_rfl
@[go_sem] theorem as5_3 (v : Value) (w : World) : (Instr.typeAssert (.iface 186 v) 147 184 true).run Tryz.prog w = .ok (.tuple #[.agg #[.int .i64 0, .int .i64 0], .bool false]) w := by kernel_rfl
@[go_sem] theorem as5_4 (v : Value) (w : World) : (Instr.typeAssert (.iface 186 v) 147 185 true).run Tryz.prog w = .ok (.tuple #[.agg #[.int .i64 0, .int .i64 0], .bool false]) w := by kernel_rfl
@[go_sem] theorem as5_5 (v : Value) (w : World) : (Instr.typeAssert (.iface 186 v) 147 186 true).run Tryz.prog w = .ok (.tuple #[v, .bool true]) w := by kernel_rfl
@[go_sem] theorem as6_1 (v : Value) (w : World) : (Instr.typeAssert (.iface 187 v) 147 180 true).run Tryz.prog w = .ok (.tuple #[.agg #[.int .i64 0, .int .i64 0, .int .i64 0, .int .i64 0, .bool false, .slice none 0 0, .bool false, .slice none 0 0], .bool false]) w := by kernel_rfl
@[go_sem] theorem as6_2 (v : Value) (w : World) : (Instr.typeAssert (.iface 187 v) 147 182 true).run Tryz.prog w = .ok (.tuple #[.agg #[.int .i64 0, .int .i64 0, .int .i64 0, .int .i64 0, .bool false, .slice none 0 0, .int .i64 0], .bool false]) w := by kernel_rfl
@[go_sem] theorem as6_3 (v : Value) (w : World) : (Instr.typeAssert (.iface 187 v) 147 184 true).run Tryz.prog w = .ok (.tuple #[.agg #[.int .i64 0, .int .i64 0], .bool false]) w := by kernel_rfl
@[go_sem] theorem as6_4 (v : Value) (w : World) : (Instr.typeAssert (.iface 187 v) 147 185 true).run Tryz.prog w = .ok (.tuple #[.agg #[.int .i64 0, .int .i64 0], .bool false]) w := by kernel_rfl
@[go_sem] theorem as6_5 (v : Value) (w : World) : (Instr.typeAssert (.iface 187 v) 147 186 true).run Tryz.prog w = .ok (.tuple #[.agg #[.int .i64 0, .int .i64 0], .bool false]) w := by kernel_rfl
@[go_sem] theorem as6_6 (v : Value) (w : World) : (Instr.typeAssert (.iface 187 v) 147 187 true).run Tryz.prog w = .ok (.tuple #[v, .bool true]) w := by kernel_rfl
@[go_sem] theorem as7_1 (v : Value) (w : World) : (Instr.typeAssert (.iface 189 v) 147 180 true).run Tryz.prog w = .ok (.tuple #[.agg #[.int .i64 0, .int .i64 0, .int .i64 0, .int .i64 0, .bool false, .slice none 0 0, .bool false, .slice none 0 0], .bool false]) w := by kernel_rfl
@[go_sem] theorem as7_2 (v : Value) (w : World) : (Instr.typeAssert (.iface 189 v) 147 182 true).run Tryz.prog w = .ok (.tuple #[.agg #[.int .i64 0, .int .i64 0, .int .i64 0, .int .i64 0, .bool false, .slice none 0 0, .int .i64 0], .bool false]) w := by kernel_rfl
@[go_sem] theorem as7_3 (v : Value) (w : World) : (Instr.typeAssert (.iface 189 v) 147 184 true).run Tryz.prog w = .ok (.tuple #[.agg #[.int .i64 0, .int .i64 0], .bool false]) w := by kernel_rfl
@[go_sem] theorem as7_4 (v : Value) (w : World) : (Instr.typeAssert (.iface 189 v) 147 185 true).run Tryz.prog w = .ok (.tuple #[.agg #[.int .i64 0, .int .i64 0], .bool false]) w := by kernel_rfl
@[go_sem] theorem as7_5 (v : Value) (w : World) : (Instr.typeAssert (.iface 189 v) 147 186 true).run Tryz.prog w = .ok (.tuple #[.agg #[.int .i64 0, .int .i64 0], .bool false]) w := by kernel_rfl
@[go_sem] theorem as7_6 (v : Value) (w : World) : (Instr.typeAssert (.iface 189 v) 147 187 true).run Tryz.prog w = .ok (.tuple #[.agg #[.int .i64 0, .int .i64 0], .bool false]) w := by kernel_rfl
@[go_sem] theorem as7_7 (v : Value) (w : World) : (Instr.typeAssert (.iface 189 v) 147 189 true).run Tryz.prog w = .ok (.tuple #[v, .bool true]) w := by kernel_rfl
@[go_sem] theorem as8_1 (v : Value) (w : World) : (Instr.typeAssert (.iface 191 v) 147 180 true).run Tryz.prog w = .ok (.tuple #[.agg #[.int .i64 0, .int .i64 0, .int .i64 0, .int .i64 0, .bool false, .slice none 0 0, .bool false, .slice none 0 0], .bool false]) w := by kernel_rfl
@[go_sem] theorem as8_2 (v : Value) (w : World) : (Instr.typeAssert (.iface 191 v) 147 182 true).run Tryz.prog w = .ok (.tuple #[.agg #[.int .i64 0, .int .i64 0, .int .i64 0, .int .i64 0, .bool false, .slice none 0 0, .int .i64 0], .bool false]) w := by kernel_rfl
@[go_sem] theorem as8_3 (v : Value) (w : World) : (Instr.typeAssert (.iface 191 v) 147 184 true).run Tryz.prog w = .ok (.tuple #[.agg #[.int .i64 0, .int .i64 0], .bool false]) w := by kernel_rfl
@[go_sem] theorem as8_4 (v : Value) (w : World) : (Instr.typeAssert (.iface 191 v) 147 185 true).run Tryz.prog w = .ok (.tuple #[.agg #[.int .i64 0, .int .i64 0], .bool false]) w := by kernel_rfl
@[go_sem] theorem as8_5 (v : Value) (w : World) : (Instr.typeAssert (.iface 191 v) 147 186 true).run Tryz.prog w = .ok (.tuple #[.agg #[.int .i64 0, .int .i64 0], .bool false]) w := by kernel_rfl
@[go_sem] theorem as8_6 (v : Value) (w : World) : (Instr.typeAssert (.iface 191 v) 147 187 true).run Tryz.prog w = .ok (.tuple #[.agg #[.int .i64 0, .int .i64 0], .bool false]) w := by kernel_rfl
@[go_sem] theorem as8_7 (v : Value) (w : World) : (Instr.typeAssert (.iface 191 v) 147 189 true).run Tryz.prog w = .ok (.tuple #[.agg #[.int .i64 0, .int .i64 0, .int .i64 0, .slice none 0 0, .slice none 0 0], .bool false]) w := by kernel_rfl
@[go_sem] theorem as8_8 (v : Value) (w : World) : (Instr.typeAssert (.iface 191 v) 147 191 true).run Tryz.prog w = .ok (.tuple #[v, .bool true]) w := by kernel_rfl
theorem kind_6 (v : Value) (txn : Int) (prev : Int) (page : Int) (slot : Int) (bU : Bool) (bDa : Option Addr) (bDn bDc : Nat) (aU : Bool) (aDa : Option Addr) (aDn aDc : Nat) (uN : Int) (nT : Int) (tXa : Option Addr) (tXn tXc : Nat) (dYa : Option Addr) (dYn dYc : Nat) (iMa : Option Addr) (iMn iMc : Nat) (w : World) : Calls Tryz.prog 124 #[.agg #[.int .i64 0, .int .i64 0]] w fun e w' => e = .returned (.int .i64 6) ∧ Same w w' := by
 go_enter Tryz.func124, Tryz.ntmps124
 go_wp2
 go_ret
 exact ⟨rfl, (Kept.refl _ _).alloc _⟩
theorem kind_7 (v : Value) (txn : Int) (prev : Int) (page : Int) (slot : Int) (bU : Bool) (bDa : Option Addr) (bDn bDc : Nat) (aU : Bool) (aDa : Option Addr) (aDn aDc : Nat) (uN : Int) (nT : Int) (tXa : Option Addr) (tXn tXc : Nat) (dYa : Option Addr) (dYn dYc : Nat) (iMa : Option Addr) (iMn iMc : Nat) (w : World) : Calls Tryz.prog 125 #[.agg #[.int .i64 0, .int .i64 0, .int .i64 nT, .slice tXa tXn tXc, .slice dYa dYn dYc]] w fun e w' => e = .returned (.int .i64 7) ∧ Same w w' := by
 go_enter Tryz.func125, Tryz.ntmps125
 go_wp2
 go_ret
 exact ⟨rfl, (Kept.refl _ _).alloc _⟩
theorem head_transaction (txn prev : Int) (w : World) : Calls Tryz.prog 118 #[.agg #[.int .i64 txn, .int .i64 prev]] w fun e w' => e = .returned (.int .i64 txn) ∧ Same w w' := by
 go_enter Tryz.func118, Tryz.ntmps118
 go_wp2
 go_ret
 exact ⟨rfl, (Kept.refl _ _).alloc _⟩
theorem head_ahead (txn prev : Int) (w : World) : Calls Tryz.prog 119 #[.agg #[.int .i64 txn, .int .i64 prev]] w fun e w' => e = .returned (.int .i64 prev) ∧ Same w w' := by
 go_enter Tryz.func119, Tryz.ntmps119
 go_wp2
 go_ret
 exact ⟨rfl, (Kept.refl _ _).alloc _⟩
theorem plainRecord_6 (txn : Int) (prev : Int) (page : Int) (slot : Int) (bU : Bool) (bDa : Option Addr) (bDn bDc : Nat) (aU : Bool) (aDa : Option Addr) (aDn aDc : Nat) (uN : Int) (nT : Int) (tXa : Option Addr) (tXn tXc : Nat) (dYa : Option Addr) (dYn dYc : Nat) (iMa : Option Addr) (iMn iMc : Nat) (w : World) : Calls Tryz.prog 106 #[.iface 187 (.agg #[.int .i64 0, .int .i64 0])] w fun e w' => e = .returned (.agg #[.int .i64 6, .int .i64 0, .int .i64 0, .int .i64 0, .int .i64 0, .bool false, .slice none 0 0, .bool false, .slice none 0 0, .int .i64 0, .int .i64 0, .slice none 0 0, .slice none 0 0, .slice none 0 0]) ∧ Same w w' := by
 have hb0 := Blk.newA w [.int .i64 0, .int .i64 0, .int .i64 0, .int .i64 0, .int .i64 0, .bool false, .slice none 0 0, .bool false, .slice none 0 0, .int .i64 0, .int .i64 0, .slice none 0 0, .slice none 0 0, .slice none 0 0] 49 [.int .i64 0, .int .i64 0] 187
 have hb1 := Blk.newB w [.int .i64 0, .int .i64 0, .int .i64 0, .int .i64 0, .int .i64 0, .bool false, .slice none 0 0, .bool false, .slice none 0 0, .int .i64 0, .int .i64 0, .slice none 0 0, .slice none 0 0, .slice none 0 0] 49 [.int .i64 0, .int .i64 0] 187
 have hk1 : Same w ((w.alloc (.cells #[.int .i64 0, .int .i64 0, .int .i64 0, .int .i64 0, .int .i64 0, .bool false, .slice none 0 0, .bool false, .slice none 0 0, .int .i64 0, .int .i64 0, .slice none 0 0, .slice none 0 0, .slice none 0 0] 49)).alloc (.cells #[.int .i64 0, .int .i64 0] 187)) := ((Kept.refl _ _).alloc _).alloc _
 go_enter Tryz.func106, Tryz.ntmps106
 go_wp2_with fail
 refine (kind_6 undef txn prev page slot bU bDa bDn bDc aU aDa aDn aDc uN nT tXa tXn tXc dYa dYn dYc iMa iMn iMc _).mono ?_
 rintro e w2 ⟨rfl, hk2⟩
 have d0 := (hb0.same hk2).c0
 have f0 : w2.frozen? ⟨w.heap.size, 0, none⟩ = false := (hb0.same hk2).frozen 0
 have d1 := (hb0.same hk2).c1
 have f1 : w2.frozen? ⟨w.heap.size, 1, none⟩ = false := (hb0.same hk2).frozen 1
 have d2 := (hb0.same hk2).c2
 have f2 : w2.frozen? ⟨w.heap.size, 2, none⟩ = false := (hb0.same hk2).frozen 2
 have d3 := (hb0.same hk2).c3
 have f3 : w2.frozen? ⟨w.heap.size, 3, none⟩ = false := (hb0.same hk2).frozen 3
 have d4 := (hb0.same hk2).c4
 have f4 : w2.frozen? ⟨w.heap.size, 4, none⟩ = false := (hb0.same hk2).frozen 4
 have d5 := (hb0.same hk2).c5
 have f5 : w2.frozen? ⟨w.heap.size, 5, none⟩ = false := (hb0.same hk2).frozen 5
 have d6 := (hb0.same hk2).c6
 have f6 : w2.frozen? ⟨w.heap.size, 6, none⟩ = false := (hb0.same hk2).frozen 6
 have d7 := (hb0.same hk2).c7
 have f7 : w2.frozen? ⟨w.heap.size, 7, none⟩ = false := (hb0.same hk2).frozen 7
 have d8 := (hb0.same hk2).c8
 have f8 : w2.frozen? ⟨w.heap.size, 8, none⟩ = false := (hb0.same hk2).frozen 8
 have d9 := (hb0.same hk2).c9
 have f9 : w2.frozen? ⟨w.heap.size, 9, none⟩ = false := (hb0.same hk2).frozen 9
 have d10 := (hb0.same hk2).c10
 have f10 : w2.frozen? ⟨w.heap.size, 10, none⟩ = false := (hb0.same hk2).frozen 10
 have d11 := (hb0.same hk2).c11
 have f11 : w2.frozen? ⟨w.heap.size, 11, none⟩ = false := (hb0.same hk2).frozen 11
 have d12 := (hb0.same hk2).c12
 have f12 : w2.frozen? ⟨w.heap.size, 12, none⟩ = false := (hb0.same hk2).frozen 12
 have d13 := (hb0.same hk2).c13
 have f13 : w2.frozen? ⟨w.heap.size, 13, none⟩ = false := (hb0.same hk2).frozen 13
 have hz : Same w w2 := hk1.trans hk2
 go_wp2
 refine bodyPost_ret (v := .agg #[.int .i64 6, .int .i64 0, .int .i64 0, .int .i64 0, .int .i64 0, .bool false, .slice none 0 0, .bool false, .slice none 0 0, .int .i64 0, .int .i64 0, .slice none 0 0, .slice none 0 0, .slice none 0 0]) (by simp [results, Tryz.results106, go_sem, d0, d1, d2, d3, d4, d5, d6, d7, d8, d9, d10, d11, d12, d13]) rfl ⟨rfl, ?_⟩
 exact ((((((((((((((hz.setCell (p := ⟨w.heap.size, 0, none⟩) (.inl (Nat.le_refl _)) _).setCell (p := ⟨w.heap.size, 1, none⟩) (.inl (Nat.le_refl _)) _).setCell (p := ⟨w.heap.size, 2, none⟩) (.inl (Nat.le_refl _)) _).setCell (p := ⟨w.heap.size, 3, none⟩) (.inl (Nat.le_refl _)) _).setCell (p := ⟨w.heap.size, 4, none⟩) (.inl (Nat.le_refl _)) _).setCell (p := ⟨w.heap.size, 5, none⟩) (.inl (Nat.le_refl _)) _).setCell (p := ⟨w.heap.size, 6, none⟩) (.inl (Nat.le_refl _)) _).setCell (p := ⟨w.heap.size, 7, none⟩) (.inl (Nat.le_refl _)) _).setCell (p := ⟨w.heap.size, 8, none⟩) (.inl (Nat.le_refl _)) _).setCell (p := ⟨w.heap.size, 9, none⟩) (.inl (Nat.le_refl _)) _).setCell (p := ⟨w.heap.size, 10, none⟩) (.inl (Nat.le_refl _)) _).setCell (p := ⟨w.heap.size, 11, none⟩) (.inl (Nat.le_refl _)) _).setCell (p := ⟨w.heap.size, 12, none⟩) (.inl (Nat.le_refl _)) _).setCell (p := ⟨w.heap.size, 13, none⟩) (.inl (Nat.le_refl _)) _)
theorem plainRecord_7 (txn : Int) (prev : Int) (page : Int) (slot : Int) (bU : Bool) (bDa : Option Addr) (bDn bDc : Nat) (aU : Bool) (aDa : Option Addr) (aDn aDc : Nat) (uN : Int) (nT : Int) (tXa : Option Addr) (tXn tXc : Nat) (dYa : Option Addr) (dYn dYc : Nat) (iMa : Option Addr) (iMn iMc : Nat) (w : World) : Calls Tryz.prog 106 #[.iface 189 (.agg #[.int .i64 0, .int .i64 0, .int .i64 nT, .slice tXa tXn tXc, .slice dYa dYn dYc])] w fun e w' => e = .returned (.agg #[.int .i64 7, .int .i64 0, .int .i64 0, .int .i64 0, .int .i64 0, .bool false, .slice none 0 0, .bool false, .slice none 0 0, .int .i64 0, .int .i64 nT, .slice tXa tXn tXc, .slice dYa dYn dYc, .slice none 0 0]) ∧ Same w w' := by
 have hb0 := Blk.newA w [.int .i64 0, .int .i64 0, .int .i64 0, .int .i64 0, .int .i64 0, .bool false, .slice none 0 0, .bool false, .slice none 0 0, .int .i64 0, .int .i64 0, .slice none 0 0, .slice none 0 0, .slice none 0 0] 49 [.int .i64 0, .int .i64 0, .int .i64 nT, .slice tXa tXn tXc, .slice dYa dYn dYc] 189
 have hb1 := Blk.newB w [.int .i64 0, .int .i64 0, .int .i64 0, .int .i64 0, .int .i64 0, .bool false, .slice none 0 0, .bool false, .slice none 0 0, .int .i64 0, .int .i64 0, .slice none 0 0, .slice none 0 0, .slice none 0 0] 49 [.int .i64 0, .int .i64 0, .int .i64 nT, .slice tXa tXn tXc, .slice dYa dYn dYc] 189
 have hk1 : Same w ((w.alloc (.cells #[.int .i64 0, .int .i64 0, .int .i64 0, .int .i64 0, .int .i64 0, .bool false, .slice none 0 0, .bool false, .slice none 0 0, .int .i64 0, .int .i64 0, .slice none 0 0, .slice none 0 0, .slice none 0 0] 49)).alloc (.cells #[.int .i64 0, .int .i64 0, .int .i64 nT, .slice tXa tXn tXc, .slice dYa dYn dYc] 189)) := ((Kept.refl _ _).alloc _).alloc _
 go_enter Tryz.func106, Tryz.ntmps106
 go_wp2_with fail
 obtain ⟨w1, hw1⟩ : ∃ w1, ((w.alloc (.cells #[.int .i64 0, .int .i64 0, .int .i64 0, .int .i64 0, .int .i64 0, .bool false, .slice none 0 0, .bool false, .slice none 0 0, .int .i64 0, .int .i64 0, .slice none 0 0, .slice none 0 0, .slice none 0 0] 49)).alloc (.cells #[.int .i64 0, .int .i64 0, .int .i64 nT, .slice tXa tXn tXc, .slice dYa dYn dYc] 189)) = w1 := ⟨_, rfl⟩
 rw [hw1] at hb0 hb1 hk1 ⊢
 clear hw1
 let Y1 : World → Prop := fun wx : World => wx.cell? ⟨w.heap.size + 1, 0, none⟩ = some (.int .i64 0) ∧ wx.cell? ⟨w.heap.size + 1, 1, none⟩ = some (.int .i64 0) ∧ wx.cell? ⟨w.heap.size + 1, 2, none⟩ = some (.int .i64 nT) ∧ wx.cell? ⟨w.heap.size + 1, 3, none⟩ = some (.slice tXa tXn tXc) ∧ wx.cell? ⟨w.heap.size + 1, 4, none⟩ = some (.slice dYa dYn dYc)
 have hSx : ∀ wx, Same w1 wx → Y1 wx := fun wx h => ⟨(hb1.same h).cell 0, (hb1.same h).cell 1, (hb1.same h).cell 2, (hb1.same h).cell 3, (hb1.same h).cell 4⟩
 have hS : Y1 w1.drew := by exact hSx _ (Kept.refl _ _).drew
 refine wp_region_V Y1 9 10 rfl (by kernel_rfl) ?_
 refine tk 0 101 hS ?_
 refine tk 2 103 hS ?_
 refine tk 3 104 hS ?_
 refine tk 4 105 hS ?_
 refine tk 5 106 hS ?_
 refine tk 6 107 hS ?_
 refine tk 7 108 hS ?_
 refine wpAnyV_one (i := 1) (by kernel_rfl) rfl (fun K hK => ?_)
 go_simp
 have hc := kind_7 undef txn prev page slot bU bDa bDn bDc aU aDa aDn aDc uN nT tXa tXn tXc dYa dYn dYc iMa iMn iMc (w1.drew)
 with_reducible refine hc.mono ?_
 clear hc
 rintro e w2 ⟨rfl, hkk⟩
 have hkw2 : Same w1 w2 := Kept.trans ((Kept.refl _ _).drew) hkk
 clear hkk
 have hS : Y1 w2 := hSx _ hkw2
 refine hK.out _ _ (fun _ => hS) ?_
 clear hK K
 try simp only [Act.put, sA, s0, sS]
 refine tk 8 109 hS ?_
 have d0 := (hb0.same hkw2).c0
 have f0 : w2.frozen? ⟨w.heap.size, 0, none⟩ = false := (hb0.same hkw2).frozen 0
 have d1 := (hb0.same hkw2).c1
 have f1 : w2.frozen? ⟨w.heap.size, 1, none⟩ = false := (hb0.same hkw2).frozen 1
 have d2 := (hb0.same hkw2).c2
 have f2 : w2.frozen? ⟨w.heap.size, 2, none⟩ = false := (hb0.same hkw2).frozen 2
 have d3 := (hb0.same hkw2).c3
 have f3 : w2.frozen? ⟨w.heap.size, 3, none⟩ = false := (hb0.same hkw2).frozen 3
 have d4 := (hb0.same hkw2).c4
 have f4 : w2.frozen? ⟨w.heap.size, 4, none⟩ = false := (hb0.same hkw2).frozen 4
 have d5 := (hb0.same hkw2).c5
 have f5 : w2.frozen? ⟨w.heap.size, 5, none⟩ = false := (hb0.same hkw2).frozen 5
 have d6 := (hb0.same hkw2).c6
 have f6 : w2.frozen? ⟨w.heap.size, 6, none⟩ = false := (hb0.same hkw2).frozen 6
 have d7 := (hb0.same hkw2).c7
 have f7 : w2.frozen? ⟨w.heap.size, 7, none⟩ = false := (hb0.same hkw2).frozen 7
 have d8 := (hb0.same hkw2).c8
 have f8 : w2.frozen? ⟨w.heap.size, 8, none⟩ = false := (hb0.same hkw2).frozen 8
 have d9 := (hb0.same hkw2).c9
 have f9 : w2.frozen? ⟨w.heap.size, 9, none⟩ = false := (hb0.same hkw2).frozen 9
 have d10 := (hb0.same hkw2).c10
 have f10 : w2.frozen? ⟨w.heap.size, 10, none⟩ = false := (hb0.same hkw2).frozen 10
 have d11 := (hb0.same hkw2).c11
 have f11 : w2.frozen? ⟨w.heap.size, 11, none⟩ = false := (hb0.same hkw2).frozen 11
 have d12 := (hb0.same hkw2).c12
 have f12 : w2.frozen? ⟨w.heap.size, 12, none⟩ = false := (hb0.same hkw2).frozen 12
 have d13 := (hb0.same hkw2).c13
 have f13 : w2.frozen? ⟨w.heap.size, 13, none⟩ = false := (hb0.same hkw2).frozen 13
 refine wpAnyV_one (i := 9) (by kernel_rfl) rfl (fun K hK => ?_)
 go_simp
 refine hK.out _ _ (fun h => absurd rfl h) ?_
 clear hK K
 refine wpAnyV_done (by kernel_rfl) ?_
 try simp only [Act.put, sA, s0, sS]
 have hz : Same w w2 := hk1.trans hkw2
 go_wp2
 refine bodyPost_ret (v := .agg #[.int .i64 7, .int .i64 0, .int .i64 0, .int .i64 0, .int .i64 0, .bool false, .slice none 0 0, .bool false, .slice none 0 0, .int .i64 0, .int .i64 nT, .slice tXa tXn tXc, .slice dYa dYn dYc, .slice none 0 0]) (by simp [results, Tryz.results106, go_sem, d0, d1, d2, d3, d4, d5, d6, d7, d8, d9, d10, d11, d12, d13]) rfl ⟨rfl, ?_⟩
 exact ((((((((((((((hz.setCell (p := ⟨w.heap.size, 0, none⟩) (.inl (Nat.le_refl _)) _).setCell (p := ⟨w.heap.size, 1, none⟩) (.inl (Nat.le_refl _)) _).setCell (p := ⟨w.heap.size, 2, none⟩) (.inl (Nat.le_refl _)) _).setCell (p := ⟨w.heap.size, 3, none⟩) (.inl (Nat.le_refl _)) _).setCell (p := ⟨w.heap.size, 4, none⟩) (.inl (Nat.le_refl _)) _).setCell (p := ⟨w.heap.size, 5, none⟩) (.inl (Nat.le_refl _)) _).setCell (p := ⟨w.heap.size, 6, none⟩) (.inl (Nat.le_refl _)) _).setCell (p := ⟨w.heap.size, 7, none⟩) (.inl (Nat.le_refl _)) _).setCell (p := ⟨w.heap.size, 8, none⟩) (.inl (Nat.le_refl _)) _).setCell (p := ⟨w.heap.size, 9, none⟩) (.inl (Nat.le_refl _)) _).setCell (p := ⟨w.heap.size, 10, none⟩) (.inl (Nat.le_refl _)) _).setCell (p := ⟨w.heap.size, 11, none⟩) (.inl (Nat.le_refl _)) _).setCell (p := ⟨w.heap.size, 12, none⟩) (.inl (Nat.le_refl _)) _).setCell (p := ⟨w.heap.size, 13, none⟩) (.inl (Nat.le_refl _)) _)
end Go.Proofs.YtdbpaadndaoihaaGreatDoor
