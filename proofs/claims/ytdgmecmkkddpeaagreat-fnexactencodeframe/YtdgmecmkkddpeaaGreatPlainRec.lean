import Derived.Test.YtdgmecmkkddpeaaGreatG14
import Derived.Test.YtdgmecmkkddpeaaGreatG06
namespace Go.Proofs.YtdgmecmkkddpeaaGreat
set_option maxRecDepth 100000
set_option maxHeartbeats 16000000
set_option linter.unusedVariables false
set_option linter.unusedSimpArgs false
open Go.RowKit
@[go_sem] theorem as1_1 (v : Value) (w : World) : (Instr.typeAssert (.iface 96 v) 77 96 true).run Tryz.prog w = .ok (.tuple #[v, .bool true]) w := by kernel_rfl
@[go_sem] theorem as2_1 (v : Value) (w : World) : (Instr.typeAssert (.iface 98 v) 77 96 true).run Tryz.prog w = .ok (.tuple #[.agg #[.int .i64 0, .int .i64 0, .int .i64 0, .int .i64 0, .bool false, .slice none 0 0, .bool false, .slice none 0 0], .bool false]) w := by kernel_rfl
@[go_sem] theorem as2_2 (v : Value) (w : World) : (Instr.typeAssert (.iface 98 v) 77 98 true).run Tryz.prog w = .ok (.tuple #[v, .bool true]) w := by kernel_rfl
@[go_sem] theorem as3_1 (v : Value) (w : World) : (Instr.typeAssert (.iface 100 v) 77 96 true).run Tryz.prog w = .ok (.tuple #[.agg #[.int .i64 0, .int .i64 0, .int .i64 0, .int .i64 0, .bool false, .slice none 0 0, .bool false, .slice none 0 0], .bool false]) w := by kernel_rfl
@[go_sem] theorem as3_2 (v : Value) (w : World) : (Instr.typeAssert (.iface 100 v) 77 98 true).run Tryz.prog w = .ok (.tuple #[.agg #[.int .i64 0, .int .i64 0, .int .i64 0, .int .i64 0, .bool false, .slice none 0 0, .int .i64 0], .bool false]) w := by kernel_rfl
@[go_sem] theorem as3_3 (v : Value) (w : World) : (Instr.typeAssert (.iface 100 v) 77 100 true).run Tryz.prog w = .ok (.tuple #[v, .bool true]) w := by kernel_rfl
@[go_sem] theorem as4_1 (v : Value) (w : World) : (Instr.typeAssert (.iface 101 v) 77 96 true).run Tryz.prog w = .ok (.tuple #[.agg #[.int .i64 0, .int .i64 0, .int .i64 0, .int .i64 0, .bool false, .slice none 0 0, .bool false, .slice none 0 0], .bool false]) w := by kernel_rfl
@[go_sem] theorem as4_2 (v : Value) (w : World) : (Instr.typeAssert (.iface 101 v) 77 98 true).run Tryz.prog w = .ok (.tuple #[.agg #[.int .i64 0, .int .i64 0, .int .i64 0, .int .i64 0, .bool false, .slice none 0 0, .int .i64 0], .bool false]) w := by kernel_rfl
@[go_sem] theorem as4_3 (v : Value) (w : World) : (Instr.typeAssert (.iface 101 v) 77 100 true).run Tryz.prog w = .ok (.tuple #[.agg #[.int .i64 0, .int .i64 0], .bool false]) w := by kernel_rfl
@[go_sem] theorem as4_4 (v : Value) (w : World) : (Instr.typeAssert (.iface 101 v) 77 101 true).run Tryz.prog w = .ok (.tuple #[v, .bool true]) w := by kernel_rfl
@[go_sem] theorem as5_1 (v : Value) (w : World) : (Instr.typeAssert (.iface 102 v) 77 96 true).run Tryz.prog w = .ok (.tuple #[.agg #[.int .i64 0, .int .i64 0, .int .i64 0, .int .i64 0, .bool false, .slice none 0 0, .bool false, .slice none 0 0], .bool false]) w := by kernel_rfl
@[go_sem] theorem as5_2 (v : Value) (w : World) : (Instr.typeAssert (.iface 102 v) 77 98 true).run Tryz.prog w = .ok (.tuple #[.agg #[.int .i64 0, .int .i64 0, .int .i64 0, .int .i64 0, .bool false, .slice none 0 0, .int .i64 0], .bool false]) w := by kernel_rfl
@[go_sem] theorem as5_3 (v : Value) (w : World) : (Instr.typeAssert (.iface 102 v) 77 100 true).run Tryz.prog w = .ok (.tuple #[.agg #[.int .i64 0, .int .i64 0], .bool false]) w := by kernel_rfl
@[go_sem] theorem as5_4 (v : Value) (w : World) : (Instr.typeAssert (.iface 102 v) 77 101 true).run Tryz.prog w = .ok (.tuple #[.agg #[.int .i64 0, .int .i64 0], .bool false]) w := by kernel_rfl
@[go_sem] theorem as5_5 (v : Value) (w : World) : (Instr.typeAssert (.iface 102 v) 77 102 true).run Tryz.prog w = .ok (.tuple #[v, .bool true]) w := by kernel_rfl
@[go_sem] theorem as6_1 (v : Value) (w : World) : (Instr.typeAssert (.iface 103 v) 77 96 true).run Tryz.prog w = .ok (.tuple #[.agg #[.int .i64 0, .int .i64 0, .int .i64 0, .int .i64 0, .bool false, .slice none 0 0, .bool false, .slice none 0 0], .bool false]) w := by kernel_rfl
@[go_sem] theorem as6_2 (v : Value) (w : World) : (Instr.typeAssert (.iface 103 v) 77 98 true).run Tryz.prog w = .ok (.tuple #[.agg #[.int .i64 0, .int .i64 0, .int .i64 0, .int .i64 0, .bool false, .slice none 0 0, .int .i64 0], .bool false]) w := by kernel_rfl
@[go_sem] theorem as6_3 (v : Value) (w : World) : (Instr.typeAssert (.iface 103 v) 77 100 true).run Tryz.prog w = .ok (.tuple #[.agg #[.int .i64 0, .int .i64 0], .bool false]) w := by kernel_rfl
@[go_sem] theorem as6_4 (v : Value) (w : World) : (Instr.typeAssert (.iface 103 v) 77 101 true).run Tryz.prog w = .ok (.tuple #[.agg #[.int .i64 0, .int .i64 0], .bool false]) w := by kernel_rfl
@[go_sem] theorem as6_5 (v : Value) (w : World) : (Instr.typeAssert (.iface 103 v) 77 102 true).run Tryz.prog w = .ok (.tuple #[.agg #[.int .i64 0, .int .i64 0], .bool false]) w := by kernel_rfl
@[go_sem] theorem as6_6 (v : Value) (w : World) : (Instr.typeAssert (.iface 103 v) 77 103 true).run Tryz.prog w = .ok (.tuple #[v, .bool true]) w := by kernel_rfl
@[go_sem] theorem as7_1 (v : Value) (w : World) : (Instr.typeAssert (.iface 105 v) 77 96 true).run Tryz.prog w = .ok (.tuple #[.agg #[.int .i64 0, .int .i64 0, .int .i64 0, .int .i64 0, .bool false, .slice none 0 0, .bool false, .slice none 0 0], .bool false]) w := by kernel_rfl
@[go_sem] theorem as7_2 (v : Value) (w : World) : (Instr.typeAssert (.iface 105 v) 77 98 true).run Tryz.prog w = .ok (.tuple #[.agg #[.int .i64 0, .int .i64 0, .int .i64 0, .int .i64 0, .bool false, .slice none 0 0, .int .i64 0], .bool false]) w := by kernel_rfl
@[go_sem] theorem as7_3 (v : Value) (w : World) : (Instr.typeAssert (.iface 105 v) 77 100 true).run Tryz.prog w = .ok (.tuple #[.agg #[.int .i64 0, .int .i64 0], .bool false]) w := by kernel_rfl
@[go_sem] theorem as7_4 (v : Value) (w : World) : (Instr.typeAssert (.iface 105 v) 77 101 true).run Tryz.prog w = .ok (.tuple #[.agg #[.int .i64 0, .int .i64 0], .bool false]) w := by kernel_rfl
@[go_sem] theorem as7_5 (v : Value) (w : World) : (Instr.typeAssert (.iface 105 v) 77 102 true).run Tryz.prog w = .ok (.tuple #[.agg #[.int .i64 0, .int .i64 0], .bool false]) w := by kernel_rfl
@[go_sem] theorem as7_6 (v : Value) (w : World) : (Instr.typeAssert (.iface 105 v) 77 103 true).run Tryz.prog w = .ok (.tuple #[.agg #[.int .i64 0, .int .i64 0], .bool false]) w := by kernel_rfl
@[go_sem] theorem as7_7 (v : Value) (w : World) : (Instr.typeAssert (.iface 105 v) 77 105 true).run Tryz.prog w = .ok (.tuple #[v, .bool true]) w := by kernel_rfl
@[go_sem] theorem as8_1 (v : Value) (w : World) : (Instr.typeAssert (.iface 107 v) 77 96 true).run Tryz.prog w = .ok (.tuple #[.agg #[.int .i64 0, .int .i64 0, .int .i64 0, .int .i64 0, .bool false, .slice none 0 0, .bool false, .slice none 0 0], .bool false]) w := by kernel_rfl
@[go_sem] theorem as8_2 (v : Value) (w : World) : (Instr.typeAssert (.iface 107 v) 77 98 true).run Tryz.prog w = .ok (.tuple #[.agg #[.int .i64 0, .int .i64 0, .int .i64 0, .int .i64 0, .bool false, .slice none 0 0, .int .i64 0], .bool false]) w := by kernel_rfl
@[go_sem] theorem as8_3 (v : Value) (w : World) : (Instr.typeAssert (.iface 107 v) 77 100 true).run Tryz.prog w = .ok (.tuple #[.agg #[.int .i64 0, .int .i64 0], .bool false]) w := by kernel_rfl
@[go_sem] theorem as8_4 (v : Value) (w : World) : (Instr.typeAssert (.iface 107 v) 77 101 true).run Tryz.prog w = .ok (.tuple #[.agg #[.int .i64 0, .int .i64 0], .bool false]) w := by kernel_rfl
@[go_sem] theorem as8_5 (v : Value) (w : World) : (Instr.typeAssert (.iface 107 v) 77 102 true).run Tryz.prog w = .ok (.tuple #[.agg #[.int .i64 0, .int .i64 0], .bool false]) w := by kernel_rfl
@[go_sem] theorem as8_6 (v : Value) (w : World) : (Instr.typeAssert (.iface 107 v) 77 103 true).run Tryz.prog w = .ok (.tuple #[.agg #[.int .i64 0, .int .i64 0], .bool false]) w := by kernel_rfl
@[go_sem] theorem as8_7 (v : Value) (w : World) : (Instr.typeAssert (.iface 107 v) 77 105 true).run Tryz.prog w = .ok (.tuple #[.agg #[.int .i64 0, .int .i64 0, .int .i64 0, .slice none 0 0, .slice none 0 0], .bool false]) w := by kernel_rfl
@[go_sem] theorem as8_8 (v : Value) (w : World) : (Instr.typeAssert (.iface 107 v) 77 107 true).run Tryz.prog w = .ok (.tuple #[v, .bool true]) w := by kernel_rfl
theorem kind_1 (v : Value) (txn : Int) (prev : Int) (page : Int) (slot : Int) (bU : Bool) (bDa : Option Addr) (bDn bDc : Nat) (aU : Bool) (aDa : Option Addr) (aDn aDc : Nat) (uN : Int) (nT : Int) (tXa : Option Addr) (tXn tXc : Nat) (dYa : Option Addr) (dYn dYc : Nat) (iMa : Option Addr) (iMn iMc : Nat) (w : World) : Calls Tryz.prog 66 #[.agg #[.int .i64 txn, .int .i64 prev, .int .i64 page, .int .i64 slot, .bool bU, .slice bDa bDn bDc, .bool aU, .slice aDa aDn aDc]] w fun e w' => e = .returned (.int .i64 1) ∧ Same w w' := by
 go_enter Tryz.func66, Tryz.ntmps66
 go_wp2
 go_ret
 exact ⟨rfl, (Kept.refl _ _).alloc _⟩
theorem kind_2 (v : Value) (txn : Int) (prev : Int) (page : Int) (slot : Int) (bU : Bool) (bDa : Option Addr) (bDn bDc : Nat) (aU : Bool) (aDa : Option Addr) (aDn aDc : Nat) (uN : Int) (nT : Int) (tXa : Option Addr) (tXn tXc : Nat) (dYa : Option Addr) (dYn dYc : Nat) (iMa : Option Addr) (iMn iMc : Nat) (w : World) : Calls Tryz.prog 69 #[.agg #[.int .i64 txn, .int .i64 prev, .int .i64 page, .int .i64 slot, .bool aU, .slice aDa aDn aDc, .int .i64 uN]] w fun e w' => e = .returned (.int .i64 2) ∧ Same w w' := by
 go_enter Tryz.func69, Tryz.ntmps69
 go_wp2
 go_ret
 exact ⟨rfl, (Kept.refl _ _).alloc _⟩
theorem kind_3 (v : Value) (txn : Int) (prev : Int) (page : Int) (slot : Int) (bU : Bool) (bDa : Option Addr) (bDn bDc : Nat) (aU : Bool) (aDa : Option Addr) (aDn aDc : Nat) (uN : Int) (nT : Int) (tXa : Option Addr) (tXn tXc : Nat) (dYa : Option Addr) (dYn dYc : Nat) (iMa : Option Addr) (iMn iMc : Nat) (w : World) : Calls Tryz.prog 70 #[.agg #[.int .i64 txn, .int .i64 prev]] w fun e w' => e = .returned (.int .i64 3) ∧ Same w w' := by
 go_enter Tryz.func70, Tryz.ntmps70
 go_wp2
 go_ret
 exact ⟨rfl, (Kept.refl _ _).alloc _⟩
theorem kind_4 (v : Value) (txn : Int) (prev : Int) (page : Int) (slot : Int) (bU : Bool) (bDa : Option Addr) (bDn bDc : Nat) (aU : Bool) (aDa : Option Addr) (aDn aDc : Nat) (uN : Int) (nT : Int) (tXa : Option Addr) (tXn tXc : Nat) (dYa : Option Addr) (dYn dYc : Nat) (iMa : Option Addr) (iMn iMc : Nat) (w : World) : Calls Tryz.prog 71 #[.agg #[.int .i64 txn, .int .i64 prev]] w fun e w' => e = .returned (.int .i64 4) ∧ Same w w' := by
 go_enter Tryz.func71, Tryz.ntmps71
 go_wp2
 go_ret
 exact ⟨rfl, (Kept.refl _ _).alloc _⟩
theorem kind_5 (v : Value) (txn : Int) (prev : Int) (page : Int) (slot : Int) (bU : Bool) (bDa : Option Addr) (bDn bDc : Nat) (aU : Bool) (aDa : Option Addr) (aDn aDc : Nat) (uN : Int) (nT : Int) (tXa : Option Addr) (tXn tXc : Nat) (dYa : Option Addr) (dYn dYc : Nat) (iMa : Option Addr) (iMn iMc : Nat) (w : World) : Calls Tryz.prog 72 #[.agg #[.int .i64 txn, .int .i64 prev]] w fun e w' => e = .returned (.int .i64 5) ∧ Same w w' := by
 go_enter Tryz.func72, Tryz.ntmps72
 go_wp2
 go_ret
 exact ⟨rfl, (Kept.refl _ _).alloc _⟩
theorem kind_6 (v : Value) (txn : Int) (prev : Int) (page : Int) (slot : Int) (bU : Bool) (bDa : Option Addr) (bDn bDc : Nat) (aU : Bool) (aDa : Option Addr) (aDn aDc : Nat) (uN : Int) (nT : Int) (tXa : Option Addr) (tXn tXc : Nat) (dYa : Option Addr) (dYn dYc : Nat) (iMa : Option Addr) (iMn iMc : Nat) (w : World) : Calls Tryz.prog 73 #[.agg #[.int .i64 0, .int .i64 0]] w fun e w' => e = .returned (.int .i64 6) ∧ Same w w' := by
 go_enter Tryz.func73, Tryz.ntmps73
 go_wp2
 go_ret
 exact ⟨rfl, (Kept.refl _ _).alloc _⟩
theorem kind_7 (v : Value) (txn : Int) (prev : Int) (page : Int) (slot : Int) (bU : Bool) (bDa : Option Addr) (bDn bDc : Nat) (aU : Bool) (aDa : Option Addr) (aDn aDc : Nat) (uN : Int) (nT : Int) (tXa : Option Addr) (tXn tXc : Nat) (dYa : Option Addr) (dYn dYc : Nat) (iMa : Option Addr) (iMn iMc : Nat) (w : World) : Calls Tryz.prog 74 #[.agg #[.int .i64 0, .int .i64 0, .int .i64 nT, .slice tXa tXn tXc, .slice dYa dYn dYc]] w fun e w' => e = .returned (.int .i64 7) ∧ Same w w' := by
 go_enter Tryz.func74, Tryz.ntmps74
 go_wp2
 go_ret
 exact ⟨rfl, (Kept.refl _ _).alloc _⟩
theorem kind_8 (v : Value) (txn : Int) (prev : Int) (page : Int) (slot : Int) (bU : Bool) (bDa : Option Addr) (bDn bDc : Nat) (aU : Bool) (aDa : Option Addr) (aDn aDc : Nat) (uN : Int) (nT : Int) (tXa : Option Addr) (tXn tXc : Nat) (dYa : Option Addr) (dYn dYc : Nat) (iMa : Option Addr) (iMn iMc : Nat) (w : World) : Calls Tryz.prog 75 #[.agg #[.int .i64 0, .int .i64 0, .int .i64 page, .slice iMa iMn iMc]] w fun e w' => e = .returned (.int .i64 8) ∧ Same w w' := by
 go_enter Tryz.func75, Tryz.ntmps75
 go_wp2
 go_ret
 exact ⟨rfl, (Kept.refl _ _).alloc _⟩
theorem head_transaction (txn prev : Int) (w : World) : Calls Tryz.prog 67 #[.agg #[.int .i64 txn, .int .i64 prev]] w fun e w' => e = .returned (.int .i64 txn) ∧ Same w w' := by
 go_enter Tryz.func67, Tryz.ntmps67
 go_wp2
 go_ret
 exact ⟨rfl, (Kept.refl _ _).alloc _⟩
theorem head_ahead (txn prev : Int) (w : World) : Calls Tryz.prog 68 #[.agg #[.int .i64 txn, .int .i64 prev]] w fun e w' => e = .returned (.int .i64 prev) ∧ Same w w' := by
 go_enter Tryz.func68, Tryz.ntmps68
 go_wp2
 go_ret
 exact ⟨rfl, (Kept.refl _ _).alloc _⟩
theorem plainRecord_1 (txn : Int) (prev : Int) (page : Int) (slot : Int) (bU : Bool) (bDa : Option Addr) (bDn bDc : Nat) (aU : Bool) (aDa : Option Addr) (aDn aDc : Nat) (uN : Int) (nT : Int) (tXa : Option Addr) (tXn tXc : Nat) (dYa : Option Addr) (dYn dYc : Nat) (iMa : Option Addr) (iMn iMc : Nat) (w : World) : Calls Tryz.prog 57 #[.iface 96 (.agg #[.int .i64 txn, .int .i64 prev, .int .i64 page, .int .i64 slot, .bool bU, .slice bDa bDn bDc, .bool aU, .slice aDa aDn aDc])] w fun e w' => e = .returned (.agg #[.int .i64 1, .int .i64 txn, .int .i64 prev, .int .i64 page, .int .i64 slot, .bool bU, .slice bDa bDn bDc, .bool aU, .slice aDa aDn aDc, .int .i64 0, .int .i64 0, .slice none 0 0, .slice none 0 0, .slice none 0 0]) ∧ Same w w' := by
 have hb0 := Blk.newA w [.int .i64 0, .int .i64 0, .int .i64 0, .int .i64 0, .int .i64 0, .bool false, .slice none 0 0, .bool false, .slice none 0 0, .int .i64 0, .int .i64 0, .slice none 0 0, .slice none 0 0, .slice none 0 0] 35 [.int .i64 txn, .int .i64 prev, .int .i64 page, .int .i64 slot, .bool bU, .slice bDa bDn bDc, .bool aU, .slice aDa aDn aDc] 96
 have hb1 := Blk.newB w [.int .i64 0, .int .i64 0, .int .i64 0, .int .i64 0, .int .i64 0, .bool false, .slice none 0 0, .bool false, .slice none 0 0, .int .i64 0, .int .i64 0, .slice none 0 0, .slice none 0 0, .slice none 0 0] 35 [.int .i64 txn, .int .i64 prev, .int .i64 page, .int .i64 slot, .bool bU, .slice bDa bDn bDc, .bool aU, .slice aDa aDn aDc] 96
 have hk1 : Same w ((w.alloc (.cells #[.int .i64 0, .int .i64 0, .int .i64 0, .int .i64 0, .int .i64 0, .bool false, .slice none 0 0, .bool false, .slice none 0 0, .int .i64 0, .int .i64 0, .slice none 0 0, .slice none 0 0, .slice none 0 0] 35)).alloc (.cells #[.int .i64 txn, .int .i64 prev, .int .i64 page, .int .i64 slot, .bool bU, .slice bDa bDn bDc, .bool aU, .slice aDa aDn aDc] 96)) := ((Kept.refl _ _).alloc _).alloc _
 go_enter Tryz.func57, Tryz.ntmps57
 go_wp2_with fail
 obtain ⟨w1, hw1⟩ : ∃ w1, ((w.alloc (.cells #[.int .i64 0, .int .i64 0, .int .i64 0, .int .i64 0, .int .i64 0, .bool false, .slice none 0 0, .bool false, .slice none 0 0, .int .i64 0, .int .i64 0, .slice none 0 0, .slice none 0 0, .slice none 0 0] 35)).alloc (.cells #[.int .i64 txn, .int .i64 prev, .int .i64 page, .int .i64 slot, .bool bU, .slice bDa bDn bDc, .bool aU, .slice aDa aDn aDc] 96)) = w1 := ⟨_, rfl⟩
 rw [hw1] at hb0 hb1 hk1 ⊢
 clear hw1
 let Y1 : World → Prop := fun wx : World => wx.cell? ⟨w.heap.size + 1, 0, none⟩ = some (.int .i64 txn) ∧ wx.cell? ⟨w.heap.size + 1, 1, none⟩ = some (.int .i64 prev) ∧ wx.cell? ⟨w.heap.size + 1, 2, none⟩ = some (.int .i64 page) ∧ wx.cell? ⟨w.heap.size + 1, 3, none⟩ = some (.int .i64 slot) ∧ wx.cell? ⟨w.heap.size + 1, 4, none⟩ = some (.bool bU) ∧ wx.cell? ⟨w.heap.size + 1, 5, none⟩ = some (.slice bDa bDn bDc) ∧ wx.cell? ⟨w.heap.size + 1, 6, none⟩ = some (.bool aU) ∧ wx.cell? ⟨w.heap.size + 1, 7, none⟩ = some (.slice aDa aDn aDc)
 have hSx : ∀ wx, Same w1 wx → Y1 wx := fun wx h => ⟨(hb1.same h).cell 0, (hb1.same h).cell 1, (hb1.same h).cell 2, (hb1.same h).cell 3, (hb1.same h).cell 4, (hb1.same h).cell 5, (hb1.same h).cell 6, (hb1.same h).cell 7⟩
 have hS : Y1 w1.drew := by exact hSx _ (Kept.refl _ _).drew
 refine wp_region_V Y1 19 20 rfl (by kernel_rfl) ?_
 refine tk 0 15 hS ?_
 refine tk 2 17 hS ?_
 refine tk 3 18 hS ?_
 refine tk 5 20 hS ?_
 refine tk 6 21 hS ?_
 refine tk 8 23 hS ?_
 refine tk 9 24 hS ?_
 refine tk 10 25 hS ?_
 refine tk 11 26 hS ?_
 refine tk 12 27 hS ?_
 refine tk 13 28 hS ?_
 refine tk 14 29 hS ?_
 refine tk 15 30 hS ?_
 refine tk 16 31 hS ?_
 refine tk 17 32 hS ?_
 refine wpAnyV_one (i := 1) (by kernel_rfl) rfl (fun K hK => ?_)
 go_simp
 have hc := kind_1 undef txn prev page slot bU bDa bDn bDc aU aDa aDn aDc uN nT tXa tXn tXc dYa dYn dYc iMa iMn iMc (w1.drew)
 with_reducible refine hc.mono ?_
 clear hc
 rintro e w2 ⟨rfl, hkk⟩
 have hkw2 : Same w1 w2 := Kept.trans ((Kept.refl _ _).drew) hkk
 clear hkk
 have hS : Y1 w2 := hSx _ hkw2
 refine hK.out _ _ (fun _ => hS) ?_
 clear hK K
 try simp only [Act.put, sA, s0, sS]
 refine wpAnyV_one (i := 4) (by kernel_rfl) rfl (fun K hK => ?_)
 go_simp
 have hc := head_transaction txn prev (w2)
 with_reducible refine hc.mono ?_
 clear hc
 rintro e w3 ⟨rfl, hkk⟩
 have hkw3 : Same w1 w3 := Kept.trans (hkw2) hkk
 clear hkk
 have hS : Y1 w3 := hSx _ hkw3
 refine hK.out _ _ (fun _ => hS) ?_
 clear hK K
 try simp only [Act.put, sA, s0, sS]
 refine wpAnyV_one (i := 7) (by kernel_rfl) rfl (fun K hK => ?_)
 go_simp
 have hc := head_ahead txn prev (w3)
 with_reducible refine hc.mono ?_
 clear hc
 rintro e w4 ⟨rfl, hkk⟩
 have hkw4 : Same w1 w4 := Kept.trans (hkw3) hkk
 clear hkk
 have hS : Y1 w4 := hSx _ hkw4
 refine hK.out _ _ (fun _ => hS) ?_
 clear hK K
 try simp only [Act.put, sA, s0, sS]
 refine tk 18 33 hS ?_
 have d0 := (hb0.same hkw4).c0
 have f0 : w4.frozen? ⟨w.heap.size, 0, none⟩ = false := (hb0.same hkw4).frozen 0
 have d1 := (hb0.same hkw4).c1
 have f1 : w4.frozen? ⟨w.heap.size, 1, none⟩ = false := (hb0.same hkw4).frozen 1
 have d2 := (hb0.same hkw4).c2
 have f2 : w4.frozen? ⟨w.heap.size, 2, none⟩ = false := (hb0.same hkw4).frozen 2
 have d3 := (hb0.same hkw4).c3
 have f3 : w4.frozen? ⟨w.heap.size, 3, none⟩ = false := (hb0.same hkw4).frozen 3
 have d4 := (hb0.same hkw4).c4
 have f4 : w4.frozen? ⟨w.heap.size, 4, none⟩ = false := (hb0.same hkw4).frozen 4
 have d5 := (hb0.same hkw4).c5
 have f5 : w4.frozen? ⟨w.heap.size, 5, none⟩ = false := (hb0.same hkw4).frozen 5
 have d6 := (hb0.same hkw4).c6
 have f6 : w4.frozen? ⟨w.heap.size, 6, none⟩ = false := (hb0.same hkw4).frozen 6
 have d7 := (hb0.same hkw4).c7
 have f7 : w4.frozen? ⟨w.heap.size, 7, none⟩ = false := (hb0.same hkw4).frozen 7
 have d8 := (hb0.same hkw4).c8
 have f8 : w4.frozen? ⟨w.heap.size, 8, none⟩ = false := (hb0.same hkw4).frozen 8
 have d9 := (hb0.same hkw4).c9
 have f9 : w4.frozen? ⟨w.heap.size, 9, none⟩ = false := (hb0.same hkw4).frozen 9
 have d10 := (hb0.same hkw4).c10
 have f10 : w4.frozen? ⟨w.heap.size, 10, none⟩ = false := (hb0.same hkw4).frozen 10
 have d11 := (hb0.same hkw4).c11
 have f11 : w4.frozen? ⟨w.heap.size, 11, none⟩ = false := (hb0.same hkw4).frozen 11
 have d12 := (hb0.same hkw4).c12
 have f12 : w4.frozen? ⟨w.heap.size, 12, none⟩ = false := (hb0.same hkw4).frozen 12
 have d13 := (hb0.same hkw4).c13
 have f13 : w4.frozen? ⟨w.heap.size, 13, none⟩ = false := (hb0.same hkw4).frozen 13
 refine wpAnyV_one (i := 19) (by kernel_rfl) rfl (fun K hK => ?_)
 go_simp
 refine hK.out _ _ (fun h => absurd rfl h) ?_
 clear hK K
 refine wpAnyV_done (by kernel_rfl) ?_
 try simp only [Act.put, sA, s0, sS]
 have hz : Same w w4 := hk1.trans hkw4
 go_wp2
 refine bodyPost_ret (v := .agg #[.int .i64 1, .int .i64 txn, .int .i64 prev, .int .i64 page, .int .i64 slot, .bool bU, .slice bDa bDn bDc, .bool aU, .slice aDa aDn aDc, .int .i64 0, .int .i64 0, .slice none 0 0, .slice none 0 0, .slice none 0 0]) (by simp [results, Tryz.results57, go_sem, d0, d1, d2, d3, d4, d5, d6, d7, d8, d9, d10, d11, d12, d13]) rfl ⟨rfl, ?_⟩
 exact ((((((((((((((hz.setCell (p := ⟨w.heap.size, 0, none⟩) (.inl (Nat.le_refl _)) _).setCell (p := ⟨w.heap.size, 1, none⟩) (.inl (Nat.le_refl _)) _).setCell (p := ⟨w.heap.size, 2, none⟩) (.inl (Nat.le_refl _)) _).setCell (p := ⟨w.heap.size, 3, none⟩) (.inl (Nat.le_refl _)) _).setCell (p := ⟨w.heap.size, 4, none⟩) (.inl (Nat.le_refl _)) _).setCell (p := ⟨w.heap.size, 5, none⟩) (.inl (Nat.le_refl _)) _).setCell (p := ⟨w.heap.size, 6, none⟩) (.inl (Nat.le_refl _)) _).setCell (p := ⟨w.heap.size, 7, none⟩) (.inl (Nat.le_refl _)) _).setCell (p := ⟨w.heap.size, 8, none⟩) (.inl (Nat.le_refl _)) _).setCell (p := ⟨w.heap.size, 9, none⟩) (.inl (Nat.le_refl _)) _).setCell (p := ⟨w.heap.size, 10, none⟩) (.inl (Nat.le_refl _)) _).setCell (p := ⟨w.heap.size, 11, none⟩) (.inl (Nat.le_refl _)) _).setCell (p := ⟨w.heap.size, 12, none⟩) (.inl (Nat.le_refl _)) _).setCell (p := ⟨w.heap.size, 13, none⟩) (.inl (Nat.le_refl _)) _)
theorem plainRecord_2 (txn : Int) (prev : Int) (page : Int) (slot : Int) (bU : Bool) (bDa : Option Addr) (bDn bDc : Nat) (aU : Bool) (aDa : Option Addr) (aDn aDc : Nat) (uN : Int) (nT : Int) (tXa : Option Addr) (tXn tXc : Nat) (dYa : Option Addr) (dYn dYc : Nat) (iMa : Option Addr) (iMn iMc : Nat) (w : World) : Calls Tryz.prog 57 #[.iface 98 (.agg #[.int .i64 txn, .int .i64 prev, .int .i64 page, .int .i64 slot, .bool aU, .slice aDa aDn aDc, .int .i64 uN])] w fun e w' => e = .returned (.agg #[.int .i64 2, .int .i64 txn, .int .i64 prev, .int .i64 page, .int .i64 slot, .bool false, .slice none 0 0, .bool aU, .slice aDa aDn aDc, .int .i64 uN, .int .i64 0, .slice none 0 0, .slice none 0 0, .slice none 0 0]) ∧ Same w w' := by
 have hb0 := Blk.newA w [.int .i64 0, .int .i64 0, .int .i64 0, .int .i64 0, .int .i64 0, .bool false, .slice none 0 0, .bool false, .slice none 0 0, .int .i64 0, .int .i64 0, .slice none 0 0, .slice none 0 0, .slice none 0 0] 35 [.int .i64 txn, .int .i64 prev, .int .i64 page, .int .i64 slot, .bool aU, .slice aDa aDn aDc, .int .i64 uN] 98
 have hb1 := Blk.newB w [.int .i64 0, .int .i64 0, .int .i64 0, .int .i64 0, .int .i64 0, .bool false, .slice none 0 0, .bool false, .slice none 0 0, .int .i64 0, .int .i64 0, .slice none 0 0, .slice none 0 0, .slice none 0 0] 35 [.int .i64 txn, .int .i64 prev, .int .i64 page, .int .i64 slot, .bool aU, .slice aDa aDn aDc, .int .i64 uN] 98
 have hk1 : Same w ((w.alloc (.cells #[.int .i64 0, .int .i64 0, .int .i64 0, .int .i64 0, .int .i64 0, .bool false, .slice none 0 0, .bool false, .slice none 0 0, .int .i64 0, .int .i64 0, .slice none 0 0, .slice none 0 0, .slice none 0 0] 35)).alloc (.cells #[.int .i64 txn, .int .i64 prev, .int .i64 page, .int .i64 slot, .bool aU, .slice aDa aDn aDc, .int .i64 uN] 98)) := ((Kept.refl _ _).alloc _).alloc _
 go_enter Tryz.func57, Tryz.ntmps57
 go_wp2_with fail
 obtain ⟨w1, hw1⟩ : ∃ w1, ((w.alloc (.cells #[.int .i64 0, .int .i64 0, .int .i64 0, .int .i64 0, .int .i64 0, .bool false, .slice none 0 0, .bool false, .slice none 0 0, .int .i64 0, .int .i64 0, .slice none 0 0, .slice none 0 0, .slice none 0 0] 35)).alloc (.cells #[.int .i64 txn, .int .i64 prev, .int .i64 page, .int .i64 slot, .bool aU, .slice aDa aDn aDc, .int .i64 uN] 98)) = w1 := ⟨_, rfl⟩
 rw [hw1] at hb0 hb1 hk1 ⊢
 clear hw1
 let Y1 : World → Prop := fun wx : World => wx.cell? ⟨w.heap.size + 1, 0, none⟩ = some (.int .i64 txn) ∧ wx.cell? ⟨w.heap.size + 1, 1, none⟩ = some (.int .i64 prev) ∧ wx.cell? ⟨w.heap.size + 1, 2, none⟩ = some (.int .i64 page) ∧ wx.cell? ⟨w.heap.size + 1, 3, none⟩ = some (.int .i64 slot) ∧ wx.cell? ⟨w.heap.size + 1, 4, none⟩ = some (.bool aU) ∧ wx.cell? ⟨w.heap.size + 1, 5, none⟩ = some (.slice aDa aDn aDc) ∧ wx.cell? ⟨w.heap.size + 1, 6, none⟩ = some (.int .i64 uN)
 have hSx : ∀ wx, Same w1 wx → Y1 wx := fun wx h => ⟨(hb1.same h).cell 0, (hb1.same h).cell 1, (hb1.same h).cell 2, (hb1.same h).cell 3, (hb1.same h).cell 4, (hb1.same h).cell 5, (hb1.same h).cell 6⟩
 have hS : Y1 w1.drew := by exact hSx _ (Kept.refl _ _).drew
 refine wp_region_V Y1 19 20 rfl (by kernel_rfl) ?_
 refine tk 0 37 hS ?_
 refine tk 2 39 hS ?_
 refine tk 3 40 hS ?_
 refine tk 5 42 hS ?_
 refine tk 6 43 hS ?_
 refine tk 8 45 hS ?_
 refine tk 9 46 hS ?_
 refine tk 10 47 hS ?_
 refine tk 11 48 hS ?_
 refine tk 12 49 hS ?_
 refine tk 13 50 hS ?_
 refine tk 14 51 hS ?_
 refine tk 15 52 hS ?_
 refine tk 16 53 hS ?_
 refine tk 17 54 hS ?_
 refine wpAnyV_one (i := 1) (by kernel_rfl) rfl (fun K hK => ?_)
 go_simp
 have hc := kind_2 undef txn prev page slot bU bDa bDn bDc aU aDa aDn aDc uN nT tXa tXn tXc dYa dYn dYc iMa iMn iMc (w1.drew)
 with_reducible refine hc.mono ?_
 clear hc
 rintro e w2 ⟨rfl, hkk⟩
 have hkw2 : Same w1 w2 := Kept.trans ((Kept.refl _ _).drew) hkk
 clear hkk
 have hS : Y1 w2 := hSx _ hkw2
 refine hK.out _ _ (fun _ => hS) ?_
 clear hK K
 try simp only [Act.put, sA, s0, sS]
 refine wpAnyV_one (i := 4) (by kernel_rfl) rfl (fun K hK => ?_)
 go_simp
 have hc := head_transaction txn prev (w2)
 with_reducible refine hc.mono ?_
 clear hc
 rintro e w3 ⟨rfl, hkk⟩
 have hkw3 : Same w1 w3 := Kept.trans (hkw2) hkk
 clear hkk
 have hS : Y1 w3 := hSx _ hkw3
 refine hK.out _ _ (fun _ => hS) ?_
 clear hK K
 try simp only [Act.put, sA, s0, sS]
 refine wpAnyV_one (i := 7) (by kernel_rfl) rfl (fun K hK => ?_)
 go_simp
 have hc := head_ahead txn prev (w3)
 with_reducible refine hc.mono ?_
 clear hc
 rintro e w4 ⟨rfl, hkk⟩
 have hkw4 : Same w1 w4 := Kept.trans (hkw3) hkk
 clear hkk
 have hS : Y1 w4 := hSx _ hkw4
 refine hK.out _ _ (fun _ => hS) ?_
 clear hK K
 try simp only [Act.put, sA, s0, sS]
 refine tk 18 55 hS ?_
 have d0 := (hb0.same hkw4).c0
 have f0 : w4.frozen? ⟨w.heap.size, 0, none⟩ = false := (hb0.same hkw4).frozen 0
 have d1 := (hb0.same hkw4).c1
 have f1 : w4.frozen? ⟨w.heap.size, 1, none⟩ = false := (hb0.same hkw4).frozen 1
 have d2 := (hb0.same hkw4).c2
 have f2 : w4.frozen? ⟨w.heap.size, 2, none⟩ = false := (hb0.same hkw4).frozen 2
 have d3 := (hb0.same hkw4).c3
 have f3 : w4.frozen? ⟨w.heap.size, 3, none⟩ = false := (hb0.same hkw4).frozen 3
 have d4 := (hb0.same hkw4).c4
 have f4 : w4.frozen? ⟨w.heap.size, 4, none⟩ = false := (hb0.same hkw4).frozen 4
 have d5 := (hb0.same hkw4).c5
 have f5 : w4.frozen? ⟨w.heap.size, 5, none⟩ = false := (hb0.same hkw4).frozen 5
 have d6 := (hb0.same hkw4).c6
 have f6 : w4.frozen? ⟨w.heap.size, 6, none⟩ = false := (hb0.same hkw4).frozen 6
 have d7 := (hb0.same hkw4).c7
 have f7 : w4.frozen? ⟨w.heap.size, 7, none⟩ = false := (hb0.same hkw4).frozen 7
 have d8 := (hb0.same hkw4).c8
 have f8 : w4.frozen? ⟨w.heap.size, 8, none⟩ = false := (hb0.same hkw4).frozen 8
 have d9 := (hb0.same hkw4).c9
 have f9 : w4.frozen? ⟨w.heap.size, 9, none⟩ = false := (hb0.same hkw4).frozen 9
 have d10 := (hb0.same hkw4).c10
 have f10 : w4.frozen? ⟨w.heap.size, 10, none⟩ = false := (hb0.same hkw4).frozen 10
 have d11 := (hb0.same hkw4).c11
 have f11 : w4.frozen? ⟨w.heap.size, 11, none⟩ = false := (hb0.same hkw4).frozen 11
 have d12 := (hb0.same hkw4).c12
 have f12 : w4.frozen? ⟨w.heap.size, 12, none⟩ = false := (hb0.same hkw4).frozen 12
 have d13 := (hb0.same hkw4).c13
 have f13 : w4.frozen? ⟨w.heap.size, 13, none⟩ = false := (hb0.same hkw4).frozen 13
 refine wpAnyV_one (i := 19) (by kernel_rfl) rfl (fun K hK => ?_)
 go_simp
 refine hK.out _ _ (fun h => absurd rfl h) ?_
 clear hK K
 refine wpAnyV_done (by kernel_rfl) ?_
 try simp only [Act.put, sA, s0, sS]
 have hz : Same w w4 := hk1.trans hkw4
 go_wp2
 refine bodyPost_ret (v := .agg #[.int .i64 2, .int .i64 txn, .int .i64 prev, .int .i64 page, .int .i64 slot, .bool false, .slice none 0 0, .bool aU, .slice aDa aDn aDc, .int .i64 uN, .int .i64 0, .slice none 0 0, .slice none 0 0, .slice none 0 0]) (by simp [results, Tryz.results57, go_sem, d0, d1, d2, d3, d4, d5, d6, d7, d8, d9, d10, d11, d12, d13]) rfl ⟨rfl, ?_⟩
 exact ((((((((((((((hz.setCell (p := ⟨w.heap.size, 0, none⟩) (.inl (Nat.le_refl _)) _).setCell (p := ⟨w.heap.size, 1, none⟩) (.inl (Nat.le_refl _)) _).setCell (p := ⟨w.heap.size, 2, none⟩) (.inl (Nat.le_refl _)) _).setCell (p := ⟨w.heap.size, 3, none⟩) (.inl (Nat.le_refl _)) _).setCell (p := ⟨w.heap.size, 4, none⟩) (.inl (Nat.le_refl _)) _).setCell (p := ⟨w.heap.size, 5, none⟩) (.inl (Nat.le_refl _)) _).setCell (p := ⟨w.heap.size, 6, none⟩) (.inl (Nat.le_refl _)) _).setCell (p := ⟨w.heap.size, 7, none⟩) (.inl (Nat.le_refl _)) _).setCell (p := ⟨w.heap.size, 8, none⟩) (.inl (Nat.le_refl _)) _).setCell (p := ⟨w.heap.size, 9, none⟩) (.inl (Nat.le_refl _)) _).setCell (p := ⟨w.heap.size, 10, none⟩) (.inl (Nat.le_refl _)) _).setCell (p := ⟨w.heap.size, 11, none⟩) (.inl (Nat.le_refl _)) _).setCell (p := ⟨w.heap.size, 12, none⟩) (.inl (Nat.le_refl _)) _).setCell (p := ⟨w.heap.size, 13, none⟩) (.inl (Nat.le_refl _)) _)
theorem plainRecord_3 (txn : Int) (prev : Int) (page : Int) (slot : Int) (bU : Bool) (bDa : Option Addr) (bDn bDc : Nat) (aU : Bool) (aDa : Option Addr) (aDn aDc : Nat) (uN : Int) (nT : Int) (tXa : Option Addr) (tXn tXc : Nat) (dYa : Option Addr) (dYn dYc : Nat) (iMa : Option Addr) (iMn iMc : Nat) (w : World) : Calls Tryz.prog 57 #[.iface 100 (.agg #[.int .i64 txn, .int .i64 prev])] w fun e w' => e = .returned (.agg #[.int .i64 3, .int .i64 txn, .int .i64 prev, .int .i64 0, .int .i64 0, .bool false, .slice none 0 0, .bool false, .slice none 0 0, .int .i64 0, .int .i64 0, .slice none 0 0, .slice none 0 0, .slice none 0 0]) ∧ Same w w' := by
 have hb0 := Blk.newA w [.int .i64 0, .int .i64 0, .int .i64 0, .int .i64 0, .int .i64 0, .bool false, .slice none 0 0, .bool false, .slice none 0 0, .int .i64 0, .int .i64 0, .slice none 0 0, .slice none 0 0, .slice none 0 0] 35 [.int .i64 txn, .int .i64 prev] 100
 have hb1 := Blk.newB w [.int .i64 0, .int .i64 0, .int .i64 0, .int .i64 0, .int .i64 0, .bool false, .slice none 0 0, .bool false, .slice none 0 0, .int .i64 0, .int .i64 0, .slice none 0 0, .slice none 0 0, .slice none 0 0] 35 [.int .i64 txn, .int .i64 prev] 100
 have hk1 : Same w ((w.alloc (.cells #[.int .i64 0, .int .i64 0, .int .i64 0, .int .i64 0, .int .i64 0, .bool false, .slice none 0 0, .bool false, .slice none 0 0, .int .i64 0, .int .i64 0, .slice none 0 0, .slice none 0 0, .slice none 0 0] 35)).alloc (.cells #[.int .i64 txn, .int .i64 prev] 100)) := ((Kept.refl _ _).alloc _).alloc _
 go_enter Tryz.func57, Tryz.ntmps57
 go_wp2_with fail
 obtain ⟨w1, hw1⟩ : ∃ w1, ((w.alloc (.cells #[.int .i64 0, .int .i64 0, .int .i64 0, .int .i64 0, .int .i64 0, .bool false, .slice none 0 0, .bool false, .slice none 0 0, .int .i64 0, .int .i64 0, .slice none 0 0, .slice none 0 0, .slice none 0 0] 35)).alloc (.cells #[.int .i64 txn, .int .i64 prev] 100)) = w1 := ⟨_, rfl⟩
 rw [hw1] at hb0 hb1 hk1 ⊢
 clear hw1
 let Y1 : World → Prop := fun wx : World => wx.cell? ⟨w.heap.size + 1, 0, none⟩ = some (.int .i64 txn) ∧ wx.cell? ⟨w.heap.size + 1, 1, none⟩ = some (.int .i64 prev)
 have hSx : ∀ wx, Same w1 wx → Y1 wx := fun wx h => ⟨(hb1.same h).cell 0, (hb1.same h).cell 1⟩
 have hS : Y1 w1.drew := by exact hSx _ (Kept.refl _ _).drew
 refine wp_region_V Y1 9 10 rfl (by kernel_rfl) ?_
 refine tk 0 59 hS ?_
 refine tk 2 61 hS ?_
 refine tk 3 62 hS ?_
 refine tk 5 64 hS ?_
 refine tk 6 65 hS ?_
 refine wpAnyV_one (i := 1) (by kernel_rfl) rfl (fun K hK => ?_)
 go_simp
 have hc := kind_3 undef txn prev page slot bU bDa bDn bDc aU aDa aDn aDc uN nT tXa tXn tXc dYa dYn dYc iMa iMn iMc (w1.drew)
 with_reducible refine hc.mono ?_
 clear hc
 rintro e w2 ⟨rfl, hkk⟩
 have hkw2 : Same w1 w2 := Kept.trans ((Kept.refl _ _).drew) hkk
 clear hkk
 have hS : Y1 w2 := hSx _ hkw2
 refine hK.out _ _ (fun _ => hS) ?_
 clear hK K
 try simp only [Act.put, sA, s0, sS]
 refine wpAnyV_one (i := 4) (by kernel_rfl) rfl (fun K hK => ?_)
 go_simp
 have hc := head_transaction txn prev (w2)
 with_reducible refine hc.mono ?_
 clear hc
 rintro e w3 ⟨rfl, hkk⟩
 have hkw3 : Same w1 w3 := Kept.trans (hkw2) hkk
 clear hkk
 have hS : Y1 w3 := hSx _ hkw3
 refine hK.out _ _ (fun _ => hS) ?_
 clear hK K
 try simp only [Act.put, sA, s0, sS]
 refine wpAnyV_one (i := 7) (by kernel_rfl) rfl (fun K hK => ?_)
 go_simp
 have hc := head_ahead txn prev (w3)
 with_reducible refine hc.mono ?_
 clear hc
 rintro e w4 ⟨rfl, hkk⟩
 have hkw4 : Same w1 w4 := Kept.trans (hkw3) hkk
 clear hkk
 have hS : Y1 w4 := hSx _ hkw4
 refine hK.out _ _ (fun _ => hS) ?_
 clear hK K
 try simp only [Act.put, sA, s0, sS]
 refine tk 8 67 hS ?_
 have d0 := (hb0.same hkw4).c0
 have f0 : w4.frozen? ⟨w.heap.size, 0, none⟩ = false := (hb0.same hkw4).frozen 0
 have d1 := (hb0.same hkw4).c1
 have f1 : w4.frozen? ⟨w.heap.size, 1, none⟩ = false := (hb0.same hkw4).frozen 1
 have d2 := (hb0.same hkw4).c2
 have f2 : w4.frozen? ⟨w.heap.size, 2, none⟩ = false := (hb0.same hkw4).frozen 2
 have d3 := (hb0.same hkw4).c3
 have f3 : w4.frozen? ⟨w.heap.size, 3, none⟩ = false := (hb0.same hkw4).frozen 3
 have d4 := (hb0.same hkw4).c4
 have f4 : w4.frozen? ⟨w.heap.size, 4, none⟩ = false := (hb0.same hkw4).frozen 4
 have d5 := (hb0.same hkw4).c5
 have f5 : w4.frozen? ⟨w.heap.size, 5, none⟩ = false := (hb0.same hkw4).frozen 5
 have d6 := (hb0.same hkw4).c6
 have f6 : w4.frozen? ⟨w.heap.size, 6, none⟩ = false := (hb0.same hkw4).frozen 6
 have d7 := (hb0.same hkw4).c7
 have f7 : w4.frozen? ⟨w.heap.size, 7, none⟩ = false := (hb0.same hkw4).frozen 7
 have d8 := (hb0.same hkw4).c8
 have f8 : w4.frozen? ⟨w.heap.size, 8, none⟩ = false := (hb0.same hkw4).frozen 8
 have d9 := (hb0.same hkw4).c9
 have f9 : w4.frozen? ⟨w.heap.size, 9, none⟩ = false := (hb0.same hkw4).frozen 9
 have d10 := (hb0.same hkw4).c10
 have f10 : w4.frozen? ⟨w.heap.size, 10, none⟩ = false := (hb0.same hkw4).frozen 10
 have d11 := (hb0.same hkw4).c11
 have f11 : w4.frozen? ⟨w.heap.size, 11, none⟩ = false := (hb0.same hkw4).frozen 11
 have d12 := (hb0.same hkw4).c12
 have f12 : w4.frozen? ⟨w.heap.size, 12, none⟩ = false := (hb0.same hkw4).frozen 12
 have d13 := (hb0.same hkw4).c13
 have f13 : w4.frozen? ⟨w.heap.size, 13, none⟩ = false := (hb0.same hkw4).frozen 13
 refine wpAnyV_one (i := 9) (by kernel_rfl) rfl (fun K hK => ?_)
 go_simp
 refine hK.out _ _ (fun h => absurd rfl h) ?_
 clear hK K
 refine wpAnyV_done (by kernel_rfl) ?_
 try simp only [Act.put, sA, s0, sS]
 have hz : Same w w4 := hk1.trans hkw4
 go_wp2
 refine bodyPost_ret (v := .agg #[.int .i64 3, .int .i64 txn, .int .i64 prev, .int .i64 0, .int .i64 0, .bool false, .slice none 0 0, .bool false, .slice none 0 0, .int .i64 0, .int .i64 0, .slice none 0 0, .slice none 0 0, .slice none 0 0]) (by simp [results, Tryz.results57, go_sem, d0, d1, d2, d3, d4, d5, d6, d7, d8, d9, d10, d11, d12, d13]) rfl ⟨rfl, ?_⟩
 exact ((((((((((((((hz.setCell (p := ⟨w.heap.size, 0, none⟩) (.inl (Nat.le_refl _)) _).setCell (p := ⟨w.heap.size, 1, none⟩) (.inl (Nat.le_refl _)) _).setCell (p := ⟨w.heap.size, 2, none⟩) (.inl (Nat.le_refl _)) _).setCell (p := ⟨w.heap.size, 3, none⟩) (.inl (Nat.le_refl _)) _).setCell (p := ⟨w.heap.size, 4, none⟩) (.inl (Nat.le_refl _)) _).setCell (p := ⟨w.heap.size, 5, none⟩) (.inl (Nat.le_refl _)) _).setCell (p := ⟨w.heap.size, 6, none⟩) (.inl (Nat.le_refl _)) _).setCell (p := ⟨w.heap.size, 7, none⟩) (.inl (Nat.le_refl _)) _).setCell (p := ⟨w.heap.size, 8, none⟩) (.inl (Nat.le_refl _)) _).setCell (p := ⟨w.heap.size, 9, none⟩) (.inl (Nat.le_refl _)) _).setCell (p := ⟨w.heap.size, 10, none⟩) (.inl (Nat.le_refl _)) _).setCell (p := ⟨w.heap.size, 11, none⟩) (.inl (Nat.le_refl _)) _).setCell (p := ⟨w.heap.size, 12, none⟩) (.inl (Nat.le_refl _)) _).setCell (p := ⟨w.heap.size, 13, none⟩) (.inl (Nat.le_refl _)) _)
theorem plainRecord_4 (txn : Int) (prev : Int) (page : Int) (slot : Int) (bU : Bool) (bDa : Option Addr) (bDn bDc : Nat) (aU : Bool) (aDa : Option Addr) (aDn aDc : Nat) (uN : Int) (nT : Int) (tXa : Option Addr) (tXn tXc : Nat) (dYa : Option Addr) (dYn dYc : Nat) (iMa : Option Addr) (iMn iMc : Nat) (w : World) : Calls Tryz.prog 57 #[.iface 101 (.agg #[.int .i64 txn, .int .i64 prev])] w fun e w' => e = .returned (.agg #[.int .i64 4, .int .i64 txn, .int .i64 prev, .int .i64 0, .int .i64 0, .bool false, .slice none 0 0, .bool false, .slice none 0 0, .int .i64 0, .int .i64 0, .slice none 0 0, .slice none 0 0, .slice none 0 0]) ∧ Same w w' := by
 have hb0 := Blk.newA w [.int .i64 0, .int .i64 0, .int .i64 0, .int .i64 0, .int .i64 0, .bool false, .slice none 0 0, .bool false, .slice none 0 0, .int .i64 0, .int .i64 0, .slice none 0 0, .slice none 0 0, .slice none 0 0] 35 [.int .i64 txn, .int .i64 prev] 101
 have hb1 := Blk.newB w [.int .i64 0, .int .i64 0, .int .i64 0, .int .i64 0, .int .i64 0, .bool false, .slice none 0 0, .bool false, .slice none 0 0, .int .i64 0, .int .i64 0, .slice none 0 0, .slice none 0 0, .slice none 0 0] 35 [.int .i64 txn, .int .i64 prev] 101
 have hk1 : Same w ((w.alloc (.cells #[.int .i64 0, .int .i64 0, .int .i64 0, .int .i64 0, .int .i64 0, .bool false, .slice none 0 0, .bool false, .slice none 0 0, .int .i64 0, .int .i64 0, .slice none 0 0, .slice none 0 0, .slice none 0 0] 35)).alloc (.cells #[.int .i64 txn, .int .i64 prev] 101)) := ((Kept.refl _ _).alloc _).alloc _
 go_enter Tryz.func57, Tryz.ntmps57
 go_wp2_with fail
 obtain ⟨w1, hw1⟩ : ∃ w1, ((w.alloc (.cells #[.int .i64 0, .int .i64 0, .int .i64 0, .int .i64 0, .int .i64 0, .bool false, .slice none 0 0, .bool false, .slice none 0 0, .int .i64 0, .int .i64 0, .slice none 0 0, .slice none 0 0, .slice none 0 0] 35)).alloc (.cells #[.int .i64 txn, .int .i64 prev] 101)) = w1 := ⟨_, rfl⟩
 rw [hw1] at hb0 hb1 hk1 ⊢
 clear hw1
 let Y1 : World → Prop := fun wx : World => wx.cell? ⟨w.heap.size + 1, 0, none⟩ = some (.int .i64 txn) ∧ wx.cell? ⟨w.heap.size + 1, 1, none⟩ = some (.int .i64 prev)
 have hSx : ∀ wx, Same w1 wx → Y1 wx := fun wx h => ⟨(hb1.same h).cell 0, (hb1.same h).cell 1⟩
 have hS : Y1 w1.drew := by exact hSx _ (Kept.refl _ _).drew
 refine wp_region_V Y1 9 10 rfl (by kernel_rfl) ?_
 refine tk 0 71 hS ?_
 refine tk 2 73 hS ?_
 refine tk 3 74 hS ?_
 refine tk 5 76 hS ?_
 refine tk 6 77 hS ?_
 refine wpAnyV_one (i := 1) (by kernel_rfl) rfl (fun K hK => ?_)
 go_simp
 have hc := kind_4 undef txn prev page slot bU bDa bDn bDc aU aDa aDn aDc uN nT tXa tXn tXc dYa dYn dYc iMa iMn iMc (w1.drew)
 with_reducible refine hc.mono ?_
 clear hc
 rintro e w2 ⟨rfl, hkk⟩
 have hkw2 : Same w1 w2 := Kept.trans ((Kept.refl _ _).drew) hkk
 clear hkk
 have hS : Y1 w2 := hSx _ hkw2
 refine hK.out _ _ (fun _ => hS) ?_
 clear hK K
 try simp only [Act.put, sA, s0, sS]
 refine wpAnyV_one (i := 4) (by kernel_rfl) rfl (fun K hK => ?_)
 go_simp
 have hc := head_transaction txn prev (w2)
 with_reducible refine hc.mono ?_
 clear hc
 rintro e w3 ⟨rfl, hkk⟩
 have hkw3 : Same w1 w3 := Kept.trans (hkw2) hkk
 clear hkk
 have hS : Y1 w3 := hSx _ hkw3
 refine hK.out _ _ (fun _ => hS) ?_
 clear hK K
 try simp only [Act.put, sA, s0, sS]
 refine wpAnyV_one (i := 7) (by kernel_rfl) rfl (fun K hK => ?_)
 go_simp
 have hc := head_ahead txn prev (w3)
 with_reducible refine hc.mono ?_
 clear hc
 rintro e w4 ⟨rfl, hkk⟩
 have hkw4 : Same w1 w4 := Kept.trans (hkw3) hkk
 clear hkk
 have hS : Y1 w4 := hSx _ hkw4
 refine hK.out _ _ (fun _ => hS) ?_
 clear hK K
 try simp only [Act.put, sA, s0, sS]
 refine tk 8 79 hS ?_
 have d0 := (hb0.same hkw4).c0
 have f0 : w4.frozen? ⟨w.heap.size, 0, none⟩ = false := (hb0.same hkw4).frozen 0
 have d1 := (hb0.same hkw4).c1
 have f1 : w4.frozen? ⟨w.heap.size, 1, none⟩ = false := (hb0.same hkw4).frozen 1
 have d2 := (hb0.same hkw4).c2
 have f2 : w4.frozen? ⟨w.heap.size, 2, none⟩ = false := (hb0.same hkw4).frozen 2
 have d3 := (hb0.same hkw4).c3
 have f3 : w4.frozen? ⟨w.heap.size, 3, none⟩ = false := (hb0.same hkw4).frozen 3
 have d4 := (hb0.same hkw4).c4
 have f4 : w4.frozen? ⟨w.heap.size, 4, none⟩ = false := (hb0.same hkw4).frozen 4
 have d5 := (hb0.same hkw4).c5
 have f5 : w4.frozen? ⟨w.heap.size, 5, none⟩ = false := (hb0.same hkw4).frozen 5
 have d6 := (hb0.same hkw4).c6
 have f6 : w4.frozen? ⟨w.heap.size, 6, none⟩ = false := (hb0.same hkw4).frozen 6
 have d7 := (hb0.same hkw4).c7
 have f7 : w4.frozen? ⟨w.heap.size, 7, none⟩ = false := (hb0.same hkw4).frozen 7
 have d8 := (hb0.same hkw4).c8
 have f8 : w4.frozen? ⟨w.heap.size, 8, none⟩ = false := (hb0.same hkw4).frozen 8
 have d9 := (hb0.same hkw4).c9
 have f9 : w4.frozen? ⟨w.heap.size, 9, none⟩ = false := (hb0.same hkw4).frozen 9
 have d10 := (hb0.same hkw4).c10
 have f10 : w4.frozen? ⟨w.heap.size, 10, none⟩ = false := (hb0.same hkw4).frozen 10
 have d11 := (hb0.same hkw4).c11
 have f11 : w4.frozen? ⟨w.heap.size, 11, none⟩ = false := (hb0.same hkw4).frozen 11
 have d12 := (hb0.same hkw4).c12
 have f12 : w4.frozen? ⟨w.heap.size, 12, none⟩ = false := (hb0.same hkw4).frozen 12
 have d13 := (hb0.same hkw4).c13
 have f13 : w4.frozen? ⟨w.heap.size, 13, none⟩ = false := (hb0.same hkw4).frozen 13
 refine wpAnyV_one (i := 9) (by kernel_rfl) rfl (fun K hK => ?_)
 go_simp
 refine hK.out _ _ (fun h => absurd rfl h) ?_
 clear hK K
 refine wpAnyV_done (by kernel_rfl) ?_
 try simp only [Act.put, sA, s0, sS]
 have hz : Same w w4 := hk1.trans hkw4
 go_wp2
 refine bodyPost_ret (v := .agg #[.int .i64 4, .int .i64 txn, .int .i64 prev, .int .i64 0, .int .i64 0, .bool false, .slice none 0 0, .bool false, .slice none 0 0, .int .i64 0, .int .i64 0, .slice none 0 0, .slice none 0 0, .slice none 0 0]) (by simp [results, Tryz.results57, go_sem, d0, d1, d2, d3, d4, d5, d6, d7, d8, d9, d10, d11, d12, d13]) rfl ⟨rfl, ?_⟩
 exact ((((((((((((((hz.setCell (p := ⟨w.heap.size, 0, none⟩) (.inl (Nat.le_refl _)) _).setCell (p := ⟨w.heap.size, 1, none⟩) (.inl (Nat.le_refl _)) _).setCell (p := ⟨w.heap.size, 2, none⟩) (.inl (Nat.le_refl _)) _).setCell (p := ⟨w.heap.size, 3, none⟩) (.inl (Nat.le_refl _)) _).setCell (p := ⟨w.heap.size, 4, none⟩) (.inl (Nat.le_refl _)) _).setCell (p := ⟨w.heap.size, 5, none⟩) (.inl (Nat.le_refl _)) _).setCell (p := ⟨w.heap.size, 6, none⟩) (.inl (Nat.le_refl _)) _).setCell (p := ⟨w.heap.size, 7, none⟩) (.inl (Nat.le_refl _)) _).setCell (p := ⟨w.heap.size, 8, none⟩) (.inl (Nat.le_refl _)) _).setCell (p := ⟨w.heap.size, 9, none⟩) (.inl (Nat.le_refl _)) _).setCell (p := ⟨w.heap.size, 10, none⟩) (.inl (Nat.le_refl _)) _).setCell (p := ⟨w.heap.size, 11, none⟩) (.inl (Nat.le_refl _)) _).setCell (p := ⟨w.heap.size, 12, none⟩) (.inl (Nat.le_refl _)) _).setCell (p := ⟨w.heap.size, 13, none⟩) (.inl (Nat.le_refl _)) _)
theorem plainRecord_5 (txn : Int) (prev : Int) (page : Int) (slot : Int) (bU : Bool) (bDa : Option Addr) (bDn bDc : Nat) (aU : Bool) (aDa : Option Addr) (aDn aDc : Nat) (uN : Int) (nT : Int) (tXa : Option Addr) (tXn tXc : Nat) (dYa : Option Addr) (dYn dYc : Nat) (iMa : Option Addr) (iMn iMc : Nat) (w : World) : Calls Tryz.prog 57 #[.iface 102 (.agg #[.int .i64 txn, .int .i64 prev])] w fun e w' => e = .returned (.agg #[.int .i64 5, .int .i64 txn, .int .i64 prev, .int .i64 0, .int .i64 0, .bool false, .slice none 0 0, .bool false, .slice none 0 0, .int .i64 0, .int .i64 0, .slice none 0 0, .slice none 0 0, .slice none 0 0]) ∧ Same w w' := by
 have hb0 := Blk.newA w [.int .i64 0, .int .i64 0, .int .i64 0, .int .i64 0, .int .i64 0, .bool false, .slice none 0 0, .bool false, .slice none 0 0, .int .i64 0, .int .i64 0, .slice none 0 0, .slice none 0 0, .slice none 0 0] 35 [.int .i64 txn, .int .i64 prev] 102
 have hb1 := Blk.newB w [.int .i64 0, .int .i64 0, .int .i64 0, .int .i64 0, .int .i64 0, .bool false, .slice none 0 0, .bool false, .slice none 0 0, .int .i64 0, .int .i64 0, .slice none 0 0, .slice none 0 0, .slice none 0 0] 35 [.int .i64 txn, .int .i64 prev] 102
 have hk1 : Same w ((w.alloc (.cells #[.int .i64 0, .int .i64 0, .int .i64 0, .int .i64 0, .int .i64 0, .bool false, .slice none 0 0, .bool false, .slice none 0 0, .int .i64 0, .int .i64 0, .slice none 0 0, .slice none 0 0, .slice none 0 0] 35)).alloc (.cells #[.int .i64 txn, .int .i64 prev] 102)) := ((Kept.refl _ _).alloc _).alloc _
 go_enter Tryz.func57, Tryz.ntmps57
 go_wp2_with fail
 obtain ⟨w1, hw1⟩ : ∃ w1, ((w.alloc (.cells #[.int .i64 0, .int .i64 0, .int .i64 0, .int .i64 0, .int .i64 0, .bool false, .slice none 0 0, .bool false, .slice none 0 0, .int .i64 0, .int .i64 0, .slice none 0 0, .slice none 0 0, .slice none 0 0] 35)).alloc (.cells #[.int .i64 txn, .int .i64 prev] 102)) = w1 := ⟨_, rfl⟩
 rw [hw1] at hb0 hb1 hk1 ⊢
 clear hw1
 let Y1 : World → Prop := fun wx : World => wx.cell? ⟨w.heap.size + 1, 0, none⟩ = some (.int .i64 txn) ∧ wx.cell? ⟨w.heap.size + 1, 1, none⟩ = some (.int .i64 prev)
 have hSx : ∀ wx, Same w1 wx → Y1 wx := fun wx h => ⟨(hb1.same h).cell 0, (hb1.same h).cell 1⟩
 have hS : Y1 w1.drew := by exact hSx _ (Kept.refl _ _).drew
 refine wp_region_V Y1 9 10 rfl (by kernel_rfl) ?_
 refine tk 0 83 hS ?_
 refine tk 2 85 hS ?_
 refine tk 3 86 hS ?_
 refine tk 5 88 hS ?_
 refine tk 6 89 hS ?_
 refine wpAnyV_one (i := 1) (by kernel_rfl) rfl (fun K hK => ?_)
 go_simp
 have hc := kind_5 undef txn prev page slot bU bDa bDn bDc aU aDa aDn aDc uN nT tXa tXn tXc dYa dYn dYc iMa iMn iMc (w1.drew)
 with_reducible refine hc.mono ?_
 clear hc
 rintro e w2 ⟨rfl, hkk⟩
 have hkw2 : Same w1 w2 := Kept.trans ((Kept.refl _ _).drew) hkk
 clear hkk
 have hS : Y1 w2 := hSx _ hkw2
 refine hK.out _ _ (fun _ => hS) ?_
 clear hK K
 try simp only [Act.put, sA, s0, sS]
 refine wpAnyV_one (i := 4) (by kernel_rfl) rfl (fun K hK => ?_)
 go_simp
 have hc := head_transaction txn prev (w2)
 with_reducible refine hc.mono ?_
 clear hc
 rintro e w3 ⟨rfl, hkk⟩
 have hkw3 : Same w1 w3 := Kept.trans (hkw2) hkk
 clear hkk
 have hS : Y1 w3 := hSx _ hkw3
 refine hK.out _ _ (fun _ => hS) ?_
 clear hK K
 try simp only [Act.put, sA, s0, sS]
 refine wpAnyV_one (i := 7) (by kernel_rfl) rfl (fun K hK => ?_)
 go_simp
 have hc := head_ahead txn prev (w3)
 with_reducible refine hc.mono ?_
 clear hc
 rintro e w4 ⟨rfl, hkk⟩
 have hkw4 : Same w1 w4 := Kept.trans (hkw3) hkk
 clear hkk
 have hS : Y1 w4 := hSx _ hkw4
 refine hK.out _ _ (fun _ => hS) ?_
 clear hK K
 try simp only [Act.put, sA, s0, sS]
 refine tk 8 91 hS ?_
 have d0 := (hb0.same hkw4).c0
 have f0 : w4.frozen? ⟨w.heap.size, 0, none⟩ = false := (hb0.same hkw4).frozen 0
 have d1 := (hb0.same hkw4).c1
 have f1 : w4.frozen? ⟨w.heap.size, 1, none⟩ = false := (hb0.same hkw4).frozen 1
 have d2 := (hb0.same hkw4).c2
 have f2 : w4.frozen? ⟨w.heap.size, 2, none⟩ = false := (hb0.same hkw4).frozen 2
 have d3 := (hb0.same hkw4).c3
 have f3 : w4.frozen? ⟨w.heap.size, 3, none⟩ = false := (hb0.same hkw4).frozen 3
 have d4 := (hb0.same hkw4).c4
 have f4 : w4.frozen? ⟨w.heap.size, 4, none⟩ = false := (hb0.same hkw4).frozen 4
 have d5 := (hb0.same hkw4).c5
 have f5 : w4.frozen? ⟨w.heap.size, 5, none⟩ = false := (hb0.same hkw4).frozen 5
 have d6 := (hb0.same hkw4).c6
 have f6 : w4.frozen? ⟨w.heap.size, 6, none⟩ = false := (hb0.same hkw4).frozen 6
 have d7 := (hb0.same hkw4).c7
 have f7 : w4.frozen? ⟨w.heap.size, 7, none⟩ = false := (hb0.same hkw4).frozen 7
 have d8 := (hb0.same hkw4).c8
 have f8 : w4.frozen? ⟨w.heap.size, 8, none⟩ = false := (hb0.same hkw4).frozen 8
 have d9 := (hb0.same hkw4).c9
 have f9 : w4.frozen? ⟨w.heap.size, 9, none⟩ = false := (hb0.same hkw4).frozen 9
 have d10 := (hb0.same hkw4).c10
 have f10 : w4.frozen? ⟨w.heap.size, 10, none⟩ = false := (hb0.same hkw4).frozen 10
 have d11 := (hb0.same hkw4).c11
 have f11 : w4.frozen? ⟨w.heap.size, 11, none⟩ = false := (hb0.same hkw4).frozen 11
 have d12 := (hb0.same hkw4).c12
 have f12 : w4.frozen? ⟨w.heap.size, 12, none⟩ = false := (hb0.same hkw4).frozen 12
 have d13 := (hb0.same hkw4).c13
 have f13 : w4.frozen? ⟨w.heap.size, 13, none⟩ = false := (hb0.same hkw4).frozen 13
 refine wpAnyV_one (i := 9) (by kernel_rfl) rfl (fun K hK => ?_)
 go_simp
 refine hK.out _ _ (fun h => absurd rfl h) ?_
 clear hK K
 refine wpAnyV_done (by kernel_rfl) ?_
 try simp only [Act.put, sA, s0, sS]
 have hz : Same w w4 := hk1.trans hkw4
 go_wp2
 refine bodyPost_ret (v := .agg #[.int .i64 5, .int .i64 txn, .int .i64 prev, .int .i64 0, .int .i64 0, .bool false, .slice none 0 0, .bool false, .slice none 0 0, .int .i64 0, .int .i64 0, .slice none 0 0, .slice none 0 0, .slice none 0 0]) (by simp [results, Tryz.results57, go_sem, d0, d1, d2, d3, d4, d5, d6, d7, d8, d9, d10, d11, d12, d13]) rfl ⟨rfl, ?_⟩
 exact ((((((((((((((hz.setCell (p := ⟨w.heap.size, 0, none⟩) (.inl (Nat.le_refl _)) _).setCell (p := ⟨w.heap.size, 1, none⟩) (.inl (Nat.le_refl _)) _).setCell (p := ⟨w.heap.size, 2, none⟩) (.inl (Nat.le_refl _)) _).setCell (p := ⟨w.heap.size, 3, none⟩) (.inl (Nat.le_refl _)) _).setCell (p := ⟨w.heap.size, 4, none⟩) (.inl (Nat.le_refl _)) _).setCell (p := ⟨w.heap.size, 5, none⟩) (.inl (Nat.le_refl _)) _).setCell (p := ⟨w.heap.size, 6, none⟩) (.inl (Nat.le_refl _)) _).setCell (p := ⟨w.heap.size, 7, none⟩) (.inl (Nat.le_refl _)) _).setCell (p := ⟨w.heap.size, 8, none⟩) (.inl (Nat.le_refl _)) _).setCell (p := ⟨w.heap.size, 9, none⟩) (.inl (Nat.le_refl _)) _).setCell (p := ⟨w.heap.size, 10, none⟩) (.inl (Nat.le_refl _)) _).setCell (p := ⟨w.heap.size, 11, none⟩) (.inl (Nat.le_refl _)) _).setCell (p := ⟨w.heap.size, 12, none⟩) (.inl (Nat.le_refl _)) _).setCell (p := ⟨w.heap.size, 13, none⟩) (.inl (Nat.le_refl _)) _)
theorem plainRecord_6 (txn : Int) (prev : Int) (page : Int) (slot : Int) (bU : Bool) (bDa : Option Addr) (bDn bDc : Nat) (aU : Bool) (aDa : Option Addr) (aDn aDc : Nat) (uN : Int) (nT : Int) (tXa : Option Addr) (tXn tXc : Nat) (dYa : Option Addr) (dYn dYc : Nat) (iMa : Option Addr) (iMn iMc : Nat) (w : World) : Calls Tryz.prog 57 #[.iface 103 (.agg #[.int .i64 0, .int .i64 0])] w fun e w' => e = .returned (.agg #[.int .i64 6, .int .i64 0, .int .i64 0, .int .i64 0, .int .i64 0, .bool false, .slice none 0 0, .bool false, .slice none 0 0, .int .i64 0, .int .i64 0, .slice none 0 0, .slice none 0 0, .slice none 0 0]) ∧ Same w w' := by
 have hb0 := Blk.newA w [.int .i64 0, .int .i64 0, .int .i64 0, .int .i64 0, .int .i64 0, .bool false, .slice none 0 0, .bool false, .slice none 0 0, .int .i64 0, .int .i64 0, .slice none 0 0, .slice none 0 0, .slice none 0 0] 35 [.int .i64 0, .int .i64 0] 103
 have hb1 := Blk.newB w [.int .i64 0, .int .i64 0, .int .i64 0, .int .i64 0, .int .i64 0, .bool false, .slice none 0 0, .bool false, .slice none 0 0, .int .i64 0, .int .i64 0, .slice none 0 0, .slice none 0 0, .slice none 0 0] 35 [.int .i64 0, .int .i64 0] 103
 have hk1 : Same w ((w.alloc (.cells #[.int .i64 0, .int .i64 0, .int .i64 0, .int .i64 0, .int .i64 0, .bool false, .slice none 0 0, .bool false, .slice none 0 0, .int .i64 0, .int .i64 0, .slice none 0 0, .slice none 0 0, .slice none 0 0] 35)).alloc (.cells #[.int .i64 0, .int .i64 0] 103)) := ((Kept.refl _ _).alloc _).alloc _
 go_enter Tryz.func57, Tryz.ntmps57
 go_wp2_with fail
 refine (kind_6 undef txn prev page slot bU bDa bDn bDc aU aDa aDn aDc uN nT tXa tXn tXc dYa dYn dYc iMa iMn iMc _).mono ?_
 rintro e w2 ⟨rfl, hk2⟩
 have d0 := (hb0.same hk2).c0
 have f0 : w2.frozen? ⟨w.heap.size, 0, none⟩ = false := (hb0.same hk2).frozen 0
 have d1 := (hb0.same hk2).c1
 have f1 : w2.frozen? ⟨w.heap.size, 1, none⟩ = false := (hb0.same hk2).frozen 1
 have d2 := (hb0.same hk2).c2
 have f2 : w2.frozen? ⟨w.heap.size, 2, none⟩ = false := (hb0.same hk2).frozen 2
 have d3 := (hb0.same hk2).c3
 have f3 : w2.frozen? ⟨w.heap.size, 3, none⟩ = false := (hb0.same hk2).frozen 3
 have d4 := (hb0.same hk2).c4
 have f4 : w2.frozen? ⟨w.heap.size, 4, none⟩ = false := (hb0.same hk2).frozen 4
 have d5 := (hb0.same hk2).c5
 have f5 : w2.frozen? ⟨w.heap.size, 5, none⟩ = false := (hb0.same hk2).frozen 5
 have d6 := (hb0.same hk2).c6
 have f6 : w2.frozen? ⟨w.heap.size, 6, none⟩ = false := (hb0.same hk2).frozen 6
 have d7 := (hb0.same hk2).c7
 have f7 : w2.frozen? ⟨w.heap.size, 7, none⟩ = false := (hb0.same hk2).frozen 7
 have d8 := (hb0.same hk2).c8
 have f8 : w2.frozen? ⟨w.heap.size, 8, none⟩ = false := (hb0.same hk2).frozen 8
 have d9 := (hb0.same hk2).c9
 have f9 : w2.frozen? ⟨w.heap.size, 9, none⟩ = false := (hb0.same hk2).frozen 9
 have d10 := (hb0.same hk2).c10
 have f10 : w2.frozen? ⟨w.heap.size, 10, none⟩ = false := (hb0.same hk2).frozen 10
 have d11 := (hb0.same hk2).c11
 have f11 : w2.frozen? ⟨w.heap.size, 11, none⟩ = false := (hb0.same hk2).frozen 11
 have d12 := (hb0.same hk2).c12
 have f12 : w2.frozen? ⟨w.heap.size, 12, none⟩ = false := (hb0.same hk2).frozen 12
 have d13 := (hb0.same hk2).c13
 have f13 : w2.frozen? ⟨w.heap.size, 13, none⟩ = false := (hb0.same hk2).frozen 13
 have hz : Same w w2 := hk1.trans hk2
 go_wp2
 refine bodyPost_ret (v := .agg #[.int .i64 6, .int .i64 0, .int .i64 0, .int .i64 0, .int .i64 0, .bool false, .slice none 0 0, .bool false, .slice none 0 0, .int .i64 0, .int .i64 0, .slice none 0 0, .slice none 0 0, .slice none 0 0]) (by simp [results, Tryz.results57, go_sem, d0, d1, d2, d3, d4, d5, d6, d7, d8, d9, d10, d11, d12, d13]) rfl ⟨rfl, ?_⟩
 exact ((((((((((((((hz.setCell (p := ⟨w.heap.size, 0, none⟩) (.inl (Nat.le_refl _)) _).setCell (p := ⟨w.heap.size, 1, none⟩) (.inl (Nat.le_refl _)) _).setCell (p := ⟨w.heap.size, 2, none⟩) (.inl (Nat.le_refl _)) _).setCell (p := ⟨w.heap.size, 3, none⟩) (.inl (Nat.le_refl _)) _).setCell (p := ⟨w.heap.size, 4, none⟩) (.inl (Nat.le_refl _)) _).setCell (p := ⟨w.heap.size, 5, none⟩) (.inl (Nat.le_refl _)) _).setCell (p := ⟨w.heap.size, 6, none⟩) (.inl (Nat.le_refl _)) _).setCell (p := ⟨w.heap.size, 7, none⟩) (.inl (Nat.le_refl _)) _).setCell (p := ⟨w.heap.size, 8, none⟩) (.inl (Nat.le_refl _)) _).setCell (p := ⟨w.heap.size, 9, none⟩) (.inl (Nat.le_refl _)) _).setCell (p := ⟨w.heap.size, 10, none⟩) (.inl (Nat.le_refl _)) _).setCell (p := ⟨w.heap.size, 11, none⟩) (.inl (Nat.le_refl _)) _).setCell (p := ⟨w.heap.size, 12, none⟩) (.inl (Nat.le_refl _)) _).setCell (p := ⟨w.heap.size, 13, none⟩) (.inl (Nat.le_refl _)) _)
theorem plainRecord_7 (txn : Int) (prev : Int) (page : Int) (slot : Int) (bU : Bool) (bDa : Option Addr) (bDn bDc : Nat) (aU : Bool) (aDa : Option Addr) (aDn aDc : Nat) (uN : Int) (nT : Int) (tXa : Option Addr) (tXn tXc : Nat) (dYa : Option Addr) (dYn dYc : Nat) (iMa : Option Addr) (iMn iMc : Nat) (w : World) : Calls Tryz.prog 57 #[.iface 105 (.agg #[.int .i64 0, .int .i64 0, .int .i64 nT, .slice tXa tXn tXc, .slice dYa dYn dYc])] w fun e w' => e = .returned (.agg #[.int .i64 7, .int .i64 0, .int .i64 0, .int .i64 0, .int .i64 0, .bool false, .slice none 0 0, .bool false, .slice none 0 0, .int .i64 0, .int .i64 nT, .slice tXa tXn tXc, .slice dYa dYn dYc, .slice none 0 0]) ∧ Same w w' := by
 have hb0 := Blk.newA w [.int .i64 0, .int .i64 0, .int .i64 0, .int .i64 0, .int .i64 0, .bool false, .slice none 0 0, .bool false, .slice none 0 0, .int .i64 0, .int .i64 0, .slice none 0 0, .slice none 0 0, .slice none 0 0] 35 [.int .i64 0, .int .i64 0, .int .i64 nT, .slice tXa tXn tXc, .slice dYa dYn dYc] 105
 have hb1 := Blk.newB w [.int .i64 0, .int .i64 0, .int .i64 0, .int .i64 0, .int .i64 0, .bool false, .slice none 0 0, .bool false, .slice none 0 0, .int .i64 0, .int .i64 0, .slice none 0 0, .slice none 0 0, .slice none 0 0] 35 [.int .i64 0, .int .i64 0, .int .i64 nT, .slice tXa tXn tXc, .slice dYa dYn dYc] 105
 have hk1 : Same w ((w.alloc (.cells #[.int .i64 0, .int .i64 0, .int .i64 0, .int .i64 0, .int .i64 0, .bool false, .slice none 0 0, .bool false, .slice none 0 0, .int .i64 0, .int .i64 0, .slice none 0 0, .slice none 0 0, .slice none 0 0] 35)).alloc (.cells #[.int .i64 0, .int .i64 0, .int .i64 nT, .slice tXa tXn tXc, .slice dYa dYn dYc] 105)) := ((Kept.refl _ _).alloc _).alloc _
 go_enter Tryz.func57, Tryz.ntmps57
 go_wp2_with fail
 obtain ⟨w1, hw1⟩ : ∃ w1, ((w.alloc (.cells #[.int .i64 0, .int .i64 0, .int .i64 0, .int .i64 0, .int .i64 0, .bool false, .slice none 0 0, .bool false, .slice none 0 0, .int .i64 0, .int .i64 0, .slice none 0 0, .slice none 0 0, .slice none 0 0] 35)).alloc (.cells #[.int .i64 0, .int .i64 0, .int .i64 nT, .slice tXa tXn tXc, .slice dYa dYn dYc] 105)) = w1 := ⟨_, rfl⟩
 rw [hw1] at hb0 hb1 hk1 ⊢
 clear hw1
 let Y1 : World → Prop := fun wx : World => wx.cell? ⟨w.heap.size + 1, 0, none⟩ = some (.int .i64 0) ∧ wx.cell? ⟨w.heap.size + 1, 1, none⟩ = some (.int .i64 0) ∧ wx.cell? ⟨w.heap.size + 1, 2, none⟩ = some (.int .i64 nT) ∧ wx.cell? ⟨w.heap.size + 1, 3, none⟩ = some (.slice tXa tXn tXc) ∧ wx.cell? ⟨w.heap.size + 1, 4, none⟩ = some (.slice dYa dYn dYc)
 have hSx : ∀ wx, Same w1 wx → Y1 wx := fun wx h => ⟨(hb1.same h).cell 0, (hb1.same h).cell 1, (hb1.same h).cell 2, (hb1.same h).cell 3, (hb1.same h).cell 4⟩
 have hS : Y1 w1.drew := by exact hSx _ (Kept.refl _ _).drew
 refine wp_region_V Y1 9 10 rfl (by kernel_rfl) ?_
 refine tk 0 101 hS ?_
 refine tk 2 103 hS ?_
 refine tk 3 104 hS ?_
 refine tk 4 105 hS ?_
 refine tk 5 106 hS ?_
 refine tk 6 107 hS ?_
 refine tk 7 108 hS ?_
 refine wpAnyV_one (i := 1) (by kernel_rfl) rfl (fun K hK => ?_)
 go_simp
 have hc := kind_7 undef txn prev page slot bU bDa bDn bDc aU aDa aDn aDc uN nT tXa tXn tXc dYa dYn dYc iMa iMn iMc (w1.drew)
 with_reducible refine hc.mono ?_
 clear hc
 rintro e w2 ⟨rfl, hkk⟩
 have hkw2 : Same w1 w2 := Kept.trans ((Kept.refl _ _).drew) hkk
 clear hkk
 have hS : Y1 w2 := hSx _ hkw2
 refine hK.out _ _ (fun _ => hS) ?_
 clear hK K
 try simp only [Act.put, sA, s0, sS]
 refine tk 8 109 hS ?_
 have d0 := (hb0.same hkw2).c0
 have f0 : w2.frozen? ⟨w.heap.size, 0, none⟩ = false := (hb0.same hkw2).frozen 0
 have d1 := (hb0.same hkw2).c1
 have f1 : w2.frozen? ⟨w.heap.size, 1, none⟩ = false := (hb0.same hkw2).frozen 1
 have d2 := (hb0.same hkw2).c2
 have f2 : w2.frozen? ⟨w.heap.size, 2, none⟩ = false := (hb0.same hkw2).frozen 2
 have d3 := (hb0.same hkw2).c3
 have f3 : w2.frozen? ⟨w.heap.size, 3, none⟩ = false := (hb0.same hkw2).frozen 3
 have d4 := (hb0.same hkw2).c4
 have f4 : w2.frozen? ⟨w.heap.size, 4, none⟩ = false := (hb0.same hkw2).frozen 4
 have d5 := (hb0.same hkw2).c5
 have f5 : w2.frozen? ⟨w.heap.size, 5, none⟩ = false := (hb0.same hkw2).frozen 5
 have d6 := (hb0.same hkw2).c6
 have f6 : w2.frozen? ⟨w.heap.size, 6, none⟩ = false := (hb0.same hkw2).frozen 6
 have d7 := (hb0.same hkw2).c7
 have f7 : w2.frozen? ⟨w.heap.size, 7, none⟩ = false := (hb0.same hkw2).frozen 7
 have d8 := (hb0.same hkw2).c8
 have f8 : w2.frozen? ⟨w.heap.size, 8, none⟩ = false := (hb0.same hkw2).frozen 8
 have d9 := (hb0.same hkw2).c9
 have f9 : w2.frozen? ⟨w.heap.size, 9, none⟩ = false := (hb0.same hkw2).frozen 9
 have d10 := (hb0.same hkw2).c10
 have f10 : w2.frozen? ⟨w.heap.size, 10, none⟩ = false := (hb0.same hkw2).frozen 10
 have d11 := (hb0.same hkw2).c11
 have f11 : w2.frozen? ⟨w.heap.size, 11, none⟩ = false := (hb0.same hkw2).frozen 11
 have d12 := (hb0.same hkw2).c12
 have f12 : w2.frozen? ⟨w.heap.size, 12, none⟩ = false := (hb0.same hkw2).frozen 12
 have d13 := (hb0.same hkw2).c13
 have f13 : w2.frozen? ⟨w.heap.size, 13, none⟩ = false := (hb0.same hkw2).frozen 13
 refine wpAnyV_one (i := 9) (by kernel_rfl) rfl (fun K hK => ?_)
 go_simp
 refine hK.out _ _ (fun h => absurd rfl h) ?_
 clear hK K
 refine wpAnyV_done (by kernel_rfl) ?_
 try simp only [Act.put, sA, s0, sS]
 have hz : Same w w2 := hk1.trans hkw2
 go_wp2
 refine bodyPost_ret (v := .agg #[.int .i64 7, .int .i64 0, .int .i64 0, .int .i64 0, .int .i64 0, .bool false, .slice none 0 0, .bool false, .slice none 0 0, .int .i64 0, .int .i64 nT, .slice tXa tXn tXc, .slice dYa dYn dYc, .slice none 0 0]) (by simp [results, Tryz.results57, go_sem, d0, d1, d2, d3, d4, d5, d6, d7, d8, d9, d10, d11, d12, d13]) rfl ⟨rfl, ?_⟩
 exact ((((((((((((((hz.setCell (p := ⟨w.heap.size, 0, none⟩) (.inl (Nat.le_refl _)) _).setCell (p := ⟨w.heap.size, 1, none⟩) (.inl (Nat.le_refl _)) _).setCell (p := ⟨w.heap.size, 2, none⟩) (.inl (Nat.le_refl _)) _).setCell (p := ⟨w.heap.size, 3, none⟩) (.inl (Nat.le_refl _)) _).setCell (p := ⟨w.heap.size, 4, none⟩) (.inl (Nat.le_refl _)) _).setCell (p := ⟨w.heap.size, 5, none⟩) (.inl (Nat.le_refl _)) _).setCell (p := ⟨w.heap.size, 6, none⟩) (.inl (Nat.le_refl _)) _).setCell (p := ⟨w.heap.size, 7, none⟩) (.inl (Nat.le_refl _)) _).setCell (p := ⟨w.heap.size, 8, none⟩) (.inl (Nat.le_refl _)) _).setCell (p := ⟨w.heap.size, 9, none⟩) (.inl (Nat.le_refl _)) _).setCell (p := ⟨w.heap.size, 10, none⟩) (.inl (Nat.le_refl _)) _).setCell (p := ⟨w.heap.size, 11, none⟩) (.inl (Nat.le_refl _)) _).setCell (p := ⟨w.heap.size, 12, none⟩) (.inl (Nat.le_refl _)) _).setCell (p := ⟨w.heap.size, 13, none⟩) (.inl (Nat.le_refl _)) _)
theorem plainRecord_8 (txn : Int) (prev : Int) (page : Int) (slot : Int) (bU : Bool) (bDa : Option Addr) (bDn bDc : Nat) (aU : Bool) (aDa : Option Addr) (aDn aDc : Nat) (uN : Int) (nT : Int) (tXa : Option Addr) (tXn tXc : Nat) (dYa : Option Addr) (dYn dYc : Nat) (iMa : Option Addr) (iMn iMc : Nat) (w : World) : Calls Tryz.prog 57 #[.iface 107 (.agg #[.int .i64 0, .int .i64 0, .int .i64 page, .slice iMa iMn iMc])] w fun e w' => e = .returned (.agg #[.int .i64 8, .int .i64 0, .int .i64 0, .int .i64 page, .int .i64 0, .bool false, .slice none 0 0, .bool false, .slice none 0 0, .int .i64 0, .int .i64 0, .slice none 0 0, .slice none 0 0, .slice iMa iMn iMc]) ∧ Same w w' := by
 have hb0 := Blk.newA w [.int .i64 0, .int .i64 0, .int .i64 0, .int .i64 0, .int .i64 0, .bool false, .slice none 0 0, .bool false, .slice none 0 0, .int .i64 0, .int .i64 0, .slice none 0 0, .slice none 0 0, .slice none 0 0] 35 [.int .i64 0, .int .i64 0, .int .i64 page, .slice iMa iMn iMc] 107
 have hb1 := Blk.newB w [.int .i64 0, .int .i64 0, .int .i64 0, .int .i64 0, .int .i64 0, .bool false, .slice none 0 0, .bool false, .slice none 0 0, .int .i64 0, .int .i64 0, .slice none 0 0, .slice none 0 0, .slice none 0 0] 35 [.int .i64 0, .int .i64 0, .int .i64 page, .slice iMa iMn iMc] 107
 have hk1 : Same w ((w.alloc (.cells #[.int .i64 0, .int .i64 0, .int .i64 0, .int .i64 0, .int .i64 0, .bool false, .slice none 0 0, .bool false, .slice none 0 0, .int .i64 0, .int .i64 0, .slice none 0 0, .slice none 0 0, .slice none 0 0] 35)).alloc (.cells #[.int .i64 0, .int .i64 0, .int .i64 page, .slice iMa iMn iMc] 107)) := ((Kept.refl _ _).alloc _).alloc _
 go_enter Tryz.func57, Tryz.ntmps57
 go_wp2_with fail
 obtain ⟨w1, hw1⟩ : ∃ w1, ((w.alloc (.cells #[.int .i64 0, .int .i64 0, .int .i64 0, .int .i64 0, .int .i64 0, .bool false, .slice none 0 0, .bool false, .slice none 0 0, .int .i64 0, .int .i64 0, .slice none 0 0, .slice none 0 0, .slice none 0 0] 35)).alloc (.cells #[.int .i64 0, .int .i64 0, .int .i64 page, .slice iMa iMn iMc] 107)) = w1 := ⟨_, rfl⟩
 rw [hw1] at hb0 hb1 hk1 ⊢
 clear hw1
 let Y1 : World → Prop := fun wx : World => wx.cell? ⟨w.heap.size + 1, 0, none⟩ = some (.int .i64 0) ∧ wx.cell? ⟨w.heap.size + 1, 1, none⟩ = some (.int .i64 0) ∧ wx.cell? ⟨w.heap.size + 1, 2, none⟩ = some (.int .i64 page) ∧ wx.cell? ⟨w.heap.size + 1, 3, none⟩ = some (.slice iMa iMn iMc)
 have hSx : ∀ wx, Same w1 wx → Y1 wx := fun wx h => ⟨(hb1.same h).cell 0, (hb1.same h).cell 1, (hb1.same h).cell 2, (hb1.same h).cell 3⟩
 have hS : Y1 w1.drew := by exact hSx _ (Kept.refl _ _).drew
 refine wp_region_V Y1 7 8 rfl (by kernel_rfl) ?_
 refine tk 0 113 hS ?_
 refine tk 2 115 hS ?_
 refine tk 3 116 hS ?_
 refine tk 4 117 hS ?_
 refine tk 5 118 hS ?_
 refine wpAnyV_one (i := 1) (by kernel_rfl) rfl (fun K hK => ?_)
 go_simp
 have hc := kind_8 undef txn prev page slot bU bDa bDn bDc aU aDa aDn aDc uN nT tXa tXn tXc dYa dYn dYc iMa iMn iMc (w1.drew)
 with_reducible refine hc.mono ?_
 clear hc
 rintro e w2 ⟨rfl, hkk⟩
 have hkw2 : Same w1 w2 := Kept.trans ((Kept.refl _ _).drew) hkk
 clear hkk
 have hS : Y1 w2 := hSx _ hkw2
 refine hK.out _ _ (fun _ => hS) ?_
 clear hK K
 try simp only [Act.put, sA, s0, sS]
 refine tk 6 119 hS ?_
 have d0 := (hb0.same hkw2).c0
 have f0 : w2.frozen? ⟨w.heap.size, 0, none⟩ = false := (hb0.same hkw2).frozen 0
 have d1 := (hb0.same hkw2).c1
 have f1 : w2.frozen? ⟨w.heap.size, 1, none⟩ = false := (hb0.same hkw2).frozen 1
 have d2 := (hb0.same hkw2).c2
 have f2 : w2.frozen? ⟨w.heap.size, 2, none⟩ = false := (hb0.same hkw2).frozen 2
 have d3 := (hb0.same hkw2).c3
 have f3 : w2.frozen? ⟨w.heap.size, 3, none⟩ = false := (hb0.same hkw2).frozen 3
 have d4 := (hb0.same hkw2).c4
 have f4 : w2.frozen? ⟨w.heap.size, 4, none⟩ = false := (hb0.same hkw2).frozen 4
 have d5 := (hb0.same hkw2).c5
 have f5 : w2.frozen? ⟨w.heap.size, 5, none⟩ = false := (hb0.same hkw2).frozen 5
 have d6 := (hb0.same hkw2).c6
 have f6 : w2.frozen? ⟨w.heap.size, 6, none⟩ = false := (hb0.same hkw2).frozen 6
 have d7 := (hb0.same hkw2).c7
 have f7 : w2.frozen? ⟨w.heap.size, 7, none⟩ = false := (hb0.same hkw2).frozen 7
 have d8 := (hb0.same hkw2).c8
 have f8 : w2.frozen? ⟨w.heap.size, 8, none⟩ = false := (hb0.same hkw2).frozen 8
 have d9 := (hb0.same hkw2).c9
 have f9 : w2.frozen? ⟨w.heap.size, 9, none⟩ = false := (hb0.same hkw2).frozen 9
 have d10 := (hb0.same hkw2).c10
 have f10 : w2.frozen? ⟨w.heap.size, 10, none⟩ = false := (hb0.same hkw2).frozen 10
 have d11 := (hb0.same hkw2).c11
 have f11 : w2.frozen? ⟨w.heap.size, 11, none⟩ = false := (hb0.same hkw2).frozen 11
 have d12 := (hb0.same hkw2).c12
 have f12 : w2.frozen? ⟨w.heap.size, 12, none⟩ = false := (hb0.same hkw2).frozen 12
 have d13 := (hb0.same hkw2).c13
 have f13 : w2.frozen? ⟨w.heap.size, 13, none⟩ = false := (hb0.same hkw2).frozen 13
 refine wpAnyV_one (i := 7) (by kernel_rfl) rfl (fun K hK => ?_)
 go_simp
 refine hK.out _ _ (fun h => absurd rfl h) ?_
 clear hK K
 refine wpAnyV_done (by kernel_rfl) ?_
 try simp only [Act.put, sA, s0, sS]
 have hz : Same w w2 := hk1.trans hkw2
 go_wp2
 refine bodyPost_ret (v := .agg #[.int .i64 8, .int .i64 0, .int .i64 0, .int .i64 page, .int .i64 0, .bool false, .slice none 0 0, .bool false, .slice none 0 0, .int .i64 0, .int .i64 0, .slice none 0 0, .slice none 0 0, .slice iMa iMn iMc]) (by simp [results, Tryz.results57, go_sem, d0, d1, d2, d3, d4, d5, d6, d7, d8, d9, d10, d11, d12, d13]) rfl ⟨rfl, ?_⟩
 exact ((((((((((((((hz.setCell (p := ⟨w.heap.size, 0, none⟩) (.inl (Nat.le_refl _)) _).setCell (p := ⟨w.heap.size, 1, none⟩) (.inl (Nat.le_refl _)) _).setCell (p := ⟨w.heap.size, 2, none⟩) (.inl (Nat.le_refl _)) _).setCell (p := ⟨w.heap.size, 3, none⟩) (.inl (Nat.le_refl _)) _).setCell (p := ⟨w.heap.size, 4, none⟩) (.inl (Nat.le_refl _)) _).setCell (p := ⟨w.heap.size, 5, none⟩) (.inl (Nat.le_refl _)) _).setCell (p := ⟨w.heap.size, 6, none⟩) (.inl (Nat.le_refl _)) _).setCell (p := ⟨w.heap.size, 7, none⟩) (.inl (Nat.le_refl _)) _).setCell (p := ⟨w.heap.size, 8, none⟩) (.inl (Nat.le_refl _)) _).setCell (p := ⟨w.heap.size, 9, none⟩) (.inl (Nat.le_refl _)) _).setCell (p := ⟨w.heap.size, 10, none⟩) (.inl (Nat.le_refl _)) _).setCell (p := ⟨w.heap.size, 11, none⟩) (.inl (Nat.le_refl _)) _).setCell (p := ⟨w.heap.size, 12, none⟩) (.inl (Nat.le_refl _)) _).setCell (p := ⟨w.heap.size, 13, none⟩) (.inl (Nat.le_refl _)) _)
end Go.Proofs.YtdgmecmkkddpeaaGreat
