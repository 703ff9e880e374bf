import Derived.Test.YtepdakgfioffgaaGreatTypeRec
import Derived.Test.YtepdakgfioffgaaGreatG04
namespace Go.Proofs.YtepdakgfioffgaaGreat
set_option maxRecDepth 100000
set_option maxHeartbeats 16000000
set_option linter.unusedVariables false
set_option linter.unusedSimpArgs false
open Go.RowKit
@[go_sem] theorem as1_1 (v : Value) (w : World) : (Instr.typeAssert (.iface 139 v) 118 139 true).run Tryz.prog w = .ok (.tuple #[v, .bool true]) w := by kernel_rfl
@[go_sem] theorem as2_1 (v : Value) (w : World) : (Instr.typeAssert (.iface 141 v) 118 139 true).run Tryz.prog w = .ok (.tuple #[.agg #[.int .i64 0, .int .i64 0, .int .i64 0, .int .i64 0, .bool false, .slice none 0 0, .bool false, .slice none 0 0], .bool false]) w := by kernel_rfl
@[go_sem] theorem as2_2 (v : Value) (w : World) : (Instr.typeAssert (.iface 141 v) 118 141 true).run Tryz.prog w = .ok (.tuple #[v, .bool true]) w := by kernel_rfl
@[go_sem] theorem as3_1 (v : Value) (w : World) : (Instr.typeAssert (.iface 143 v) 118 139 true).run Tryz.prog w = .ok (.tuple #[.agg #[.int .i64 0, .int .i64 0, .int .i64 0, .int .i64 0, .bool false, .slice none 0 0, .bool false, .slice none 0 0], .bool false]) w := by kernel_rfl
@[go_sem] theorem as3_2 (v : Value) (w : World) : (Instr.typeAssert (.iface 143 v) 118 141 true).run Tryz.prog w = .ok (.tuple #[.agg #[.int .i64 0, .int .i64 0, .int .i64 0, .int .i64 0, .bool false, .slice none 0 0, .int .i64 0], .bool false]) w := by kernel_rfl
@[go_sem] theorem as3_3 (v : Value) (w : World) : (Instr.typeAssert (.iface 143 v) 118 143 true).run Tryz.prog w = .ok (.tuple #[v, .bool true]) w := by kernel_rfl
@[go_sem] theorem as4_1 (v : Value) (w : World) : (Instr.typeAssert (.iface 144 v) 118 139 true).run Tryz.prog w = .ok (.tuple #[.agg #[.int .i64 0, .int .i64 0, .int .i64 0, .int .i64 0, .bool false, .slice none 0 0, .bool false, .slice none 0 0], .bool false]) w := by kernel_rfl
@[go_sem] theorem as4_2 (v : Value) (w : World) : (Instr.typeAssert (.iface 144 v) 118 141 true).run Tryz.prog w = .ok (.tuple #[.agg #[.int .i64 0, .int .i64 0, .int .i64 0, .int .i64 0, .bool false, .slice none 0 0, .int .i64 0], .bool false]) w := by kernel_rfl
@[go_sem] theorem as4_3 (v : Value) (w : World) : (Instr.typeAssert (.iface 144 v) 118 143 true).run Tryz.prog w = .ok (.tuple #[.agg #[.int .i64 0, .int .i64 0], .bool false]) w := by kernel_rfl
@[go_sem] theorem as4_4 (v : Value) (w : World) : (Instr.typeAssert (.iface 144 v) 118 144 true).run Tryz.prog w = .ok (.tuple #[v, .bool true]) w := by kernel_rfl
@[go_sem] theorem as5_1 (v : Value) (w : World) : (Instr.typeAssert (.iface 145 v) 118 139 true).run Tryz.prog w = .ok (.tuple #[.agg #[.int .i64 0, .int .i64 0, .int .i64 0, .int .i64 0, .bool false, .slice none 0 0, .bool false, .slice none 0 0], .bool false]) w := by kernel_rfl
@[go_sem] theorem as5_2 (v : Value) (w : World) : (Instr.typeAssert (.iface 145 v) 118 141 true).run Tryz.prog w = .ok (.tuple #[.agg #[.int .i64 0, .int .i64 0, .int .i64 0, .int .i64 0, .bool false, .slice none 0 0, .int .i64 0], .bool false]) w := by kernel_rfl
@[go_sem] theorem as5_3 (v : Value) (w : World) : (Instr.typeAssert (.iface 145 v) 118 143 true).run Tryz.prog w = .ok (.tuple #[.agg #[.int .i64 0, .int .i64 0], .bool false]) w := by kernel_rfl
@[go_sem] theorem as5_4 (v : Value) (w : World) : (Instr.typeAssert (.iface 145 v) 118 144 true).run Tryz.prog w = .ok (.tuple #[.agg #[.int .i64 0, .int .i64 0], .bool false]) w := by kernel_rfl
@[go_sem] theorem as5_5 (v : Value) (w : World) : (Instr.typeAssert (.iface 145 v) 118 145 true).run Tryz.prog w = .ok (.tuple #[v, .bool true]) w := by kernel_rfl
@[go_sem] theorem as6_1 (v : Value) (w : World) : (Instr.typeAssert (.iface 146 v) 118 139 true).run Tryz.prog w = .ok (.tuple #[.agg #[.int .i64 0, .int .i64 0, .int .i64 0, .int .i64 0, .bool false, .slice none 0 0, .bool false, .slice none 0 0], .bool false]) w := by kernel_rfl
@[go_sem] theorem as6_2 (v : Value) (w : World) : (Instr.typeAssert (.iface 146 v) 118 141 true).run Tryz.prog w = .ok (.tuple #[.agg #[.int .i64 0, .int .i64 0, .int .i64 0, .int .i64 0, .bool false, .slice none 0 0, .int .i64 0], .bool false]) w := by kernel_rfl
@[go_sem] theorem as6_3 (v : Value) (w : World) : (Instr.typeAssert (.iface 146 v) 118 143 true).run Tryz.prog w = .ok (.tuple #[.agg #[.int .i64 0, .int .i64 0], .bool false]) w := by kernel_rfl
@[go_sem] theorem as6_4 (v : Value) (w : World) : (Instr.typeAssert (.iface 146 v) 118 144 true).run Tryz.prog w = .ok (.tuple #[.agg #[.int .i64 0, .int .i64 0], .bool false]) w := by kernel_rfl
@[go_sem] theorem as6_5 (v : Value) (w : World) : (Instr.typeAssert (.iface 146 v) 118 145 true).run Tryz.prog w = .ok (.tuple #[.agg #[.int .i64 0, .int .i64 0], .bool false]) w := by kernel_rfl
@[go_sem] theorem as6_6 (v : Value) (w : World) : (Instr.typeAssert (.iface 146 v) 118 146 true).run Tryz.prog w = .ok (.tuple #[v, .bool true]) w := by kernel_rfl
@[go_sem] theorem as7_1 (v : Value) (w : World) : (Instr.typeAssert (.iface 148 v) 118 139 true).run Tryz.prog w = .ok (.tuple #[.agg #[.int .i64 0, .int .i64 0, .int .i64 0, .int .i64 0, .bool false, .slice none 0 0, .bool false, .slice none 0 0], .bool false]) w := by kernel_rfl
@[go_sem] theorem as7_2 (v : Value) (w : World) : (Instr.typeAssert (.iface 148 v) 118 141 true).run Tryz.prog w = .ok (.tuple #[.agg #[.int .i64 0, .int .i64 0, .int .i64 0, .int .i64 0, .bool false, .slice none 0 0, .int .i64 0], .bool false]) w := by kernel_rfl
@[go_sem] theorem as7_3 (v : Value) (w : World) : (Instr.typeAssert (.iface 148 v) 118 143 true).run Tryz.prog w = .ok (.tuple #[.agg #[.int .i64 0, .int .i64 0], .bool false]) w := by kernel_rfl
@[go_sem] theorem as7_4 (v : Value) (w : World) : (Instr.typeAssert (.iface 148 v) 118 144 true).run Tryz.prog w = .ok (.tuple #[.agg #[.int .i64 0, .int .i64 0], .bool false]) w := by kernel_rfl
@[go_sem] theorem as7_5 (v : Value) (w : World) : (Instr.typeAssert (.iface 148 v) 118 145 true).run Tryz.prog w = .ok (.tuple #[.agg #[.int .i64 0, .int .i64 0], .bool false]) w := by kernel_rfl
@[go_sem] theorem as7_6 (v : Value) (w : World) : (Instr.typeAssert (.iface 148 v) 118 146 true).run Tryz.prog w = .ok (.tuple #[.agg #[.int .i64 0, .int .i64 0], .bool false]) w := by kernel_rfl
@[go_sem] theorem as7_7 (v : Value) (w : World) : (Instr.typeAssert (.iface 148 v) 118 148 true).run Tryz.prog w = .ok (.tuple #[v, .bool true]) w := by kernel_rfl
@[go_sem] theorem as8_1 (v : Value) (w : World) : (Instr.typeAssert (.iface 150 v) 118 139 true).run Tryz.prog w = .ok (.tuple #[.agg #[.int .i64 0, .int .i64 0, .int .i64 0, .int .i64 0, .bool false, .slice none 0 0, .bool false, .slice none 0 0], .bool false]) w := by kernel_rfl
@[go_sem] theorem as8_2 (v : Value) (w : World) : (Instr.typeAssert (.iface 150 v) 118 141 true).run Tryz.prog w = .ok (.tuple #[.agg #[.int .i64 0, .int .i64 0, .int .i64 0, .int .i64 0, .bool false, .slice none 0 0, .int .i64 0], .bool false]) w := by kernel_rfl
@[go_sem] theorem as8_3 (v : Value) (w : World) : (Instr.typeAssert (.iface 150 v) 118 143 true).run Tryz.prog w = .ok (.tuple #[.agg #[.int .i64 0, .int .i64 0], .bool false]) w := by kernel_rfl
@[go_sem] theorem as8_4 (v : Value) (w : World) : (Instr.typeAssert (.iface 150 v) 118 144 true).run Tryz.prog w = .ok (.tuple #[.agg #[.int .i64 0, .int .i64 0], .bool false]) w := by kernel_rfl
@[go_sem] theorem as8_5 (v : Value) (w : World) : (Instr.typeAssert (.iface 150 v) 118 145 true).run Tryz.prog w = .ok (.tuple #[.agg #[.int .i64 0, .int .i64 0], .bool false]) w := by kernel_rfl
@[go_sem] theorem as8_6 (v : Value) (w : World) : (Instr.typeAssert (.iface 150 v) 118 146 true).run Tryz.prog w = .ok (.tuple #[.agg #[.int .i64 0, .int .i64 0], .bool false]) w := by kernel_rfl
@[go_sem] theorem as8_7 (v : Value) (w : World) : (Instr.typeAssert (.iface 150 v) 118 148 true).run Tryz.prog w = .ok (.tuple #[.agg #[.int .i64 0, .int .i64 0, .int .i64 0, .slice none 0 0, .slice none 0 0], .bool false]) w := by kernel_rfl
@[go_sem] theorem as8_8 (v : Value) (w : World) : (Instr.typeAssert (.iface 150 v) 118 150 true).run Tryz.prog w = .ok (.tuple #[v, .bool true]) w := by kernel_rfl
theorem kind_1 (v : Value) (txn prev page slot : Int) (bU : Bool) (bN : Option Addr) (gU bO : Nat) (aU : Bool) (bH : Option Addr) (fB bI : Nat) (uN nT : Int) (b9 : Option Addr) (bp cf : Nat) (ch : Option Addr) (bo cj : Nat) (cg : Option Addr) (i6 cm : Nat) (w : World) : Calls Tryz.prog 98 #[.agg #[.int .i64 txn, .int .i64 prev, .int .i64 page, .int .i64 slot, .bool bU, .slice bN gU bO, .bool aU, .slice bH fB bI]] w fun e w' => e = .returned (.int .i64 1) ∧ Same w w' := by
 go_enter Tryz.func98, Tryz.ntmps98
 go_wp2
 go_ret
 exact ⟨rfl, (Kept.refl _ _).alloc _⟩
theorem kind_2 (v : Value) (txn prev page slot : Int) (bU : Bool) (bN : Option Addr) (gU bO : Nat) (aU : Bool) (bH : Option Addr) (fB bI : Nat) (uN nT : Int) (b9 : Option Addr) (bp cf : Nat) (ch : Option Addr) (bo cj : Nat) (cg : Option Addr) (i6 cm : Nat) (w : World) : Calls Tryz.prog 101 #[.agg #[.int .i64 txn, .int .i64 prev, .int .i64 page, .int .i64 slot, .bool aU, .slice bH fB bI, .int .i64 uN]] w fun e w' => e = .returned (.int .i64 2) ∧ Same w w' := by
 go_enter Tryz.func101, Tryz.ntmps101
 go_wp2
 go_ret
 exact ⟨rfl, (Kept.refl _ _).alloc _⟩
theorem kind_3 (v : Value) (txn prev page slot : Int) (bU : Bool) (bN : Option Addr) (gU bO : Nat) (aU : Bool) (bH : Option Addr) (fB bI : Nat) (uN nT : Int) (b9 : Option Addr) (bp cf : Nat) (ch : Option Addr) (bo cj : Nat) (cg : Option Addr) (i6 cm : Nat) (w : World) : Calls Tryz.prog 102 #[.agg #[.int .i64 txn, .int .i64 prev]] w fun e w' => e = .returned (.int .i64 3) ∧ Same w w' := by
 go_enter Tryz.func102, Tryz.ntmps102
 go_wp2
 go_ret
 exact ⟨rfl, (Kept.refl _ _).alloc _⟩
theorem kind_4 (v : Value) (txn prev page slot : Int) (bU : Bool) (bN : Option Addr) (gU bO : Nat) (aU : Bool) (bH : Option Addr) (fB bI : Nat) (uN nT : Int) (b9 : Option Addr) (bp cf : Nat) (ch : Option Addr) (bo cj : Nat) (cg : Option Addr) (i6 cm : Nat) (w : World) : Calls Tryz.prog 103 #[.agg #[.int .i64 txn, .int .i64 prev]] w fun e w' => e = .returned (.int .i64 4) ∧ Same w w' := by
 go_enter Tryz.func103, Tryz.ntmps103
 go_wp2
 go_ret
 exact ⟨rfl, (Kept.refl _ _).alloc _⟩
theorem kind_5 (v : Value) (txn prev page slot : Int) (bU : Bool) (bN : Option Addr) (gU bO : Nat) (aU : Bool) (bH : Option Addr) (fB bI : Nat) (uN nT : Int) (b9 : Option Addr) (bp cf : Nat) (ch : Option Addr) (bo cj : Nat) (cg : Option Addr) (i6 cm : Nat) (w : World) : Calls Tryz.prog 104 #[.agg #[.int .i64 txn, .int .i64 prev]] w fun e w' => e = .returned (.int .i64 5) ∧ Same w w' := by
 go_enter Tryz.func104, Tryz.ntmps104
 go_wp2
 go_ret
 exact ⟨rfl, (Kept.refl _ _).alloc _⟩
theorem kind_6 (v : Value) (txn prev page slot : Int) (bU : Bool) (bN : Option Addr) (gU bO : Nat) (aU : Bool) (bH : Option Addr) (fB bI : Nat) (uN nT : Int) (b9 : Option Addr) (bp cf : Nat) (ch : Option Addr) (bo cj : Nat) (cg : Option Addr) (i6 cm : Nat) (w : World) : Calls Tryz.prog 105 #[.agg #[.int .i64 0, .int .i64 0]] w fun e w' => e = .returned (.int .i64 6) ∧ Same w w' := by
 go_enter Tryz.func105, Tryz.ntmps105
 go_wp2
 go_ret
 exact ⟨rfl, (Kept.refl _ _).alloc _⟩
theorem kind_7 (v : Value) (txn prev page slot : Int) (bU : Bool) (bN : Option Addr) (gU bO : Nat) (aU : Bool) (bH : Option Addr) (fB bI : Nat) (uN nT : Int) (b9 : Option Addr) (bp cf : Nat) (ch : Option Addr) (bo cj : Nat) (cg : Option Addr) (i6 cm : Nat) (w : World) : Calls Tryz.prog 106 #[.agg #[.int .i64 0, .int .i64 0, .int .i64 nT, .slice b9 bp cf, .slice ch bo cj]] w fun e w' => e = .returned (.int .i64 7) ∧ Same w w' := by
 go_enter Tryz.func106, Tryz.ntmps106
 go_wp2
 go_ret
 exact ⟨rfl, (Kept.refl _ _).alloc _⟩
theorem kind_8 (v : Value) (txn prev page slot : Int) (bU : Bool) (bN : Option Addr) (gU bO : Nat) (aU : Bool) (bH : Option Addr) (fB bI : Nat) (uN nT : Int) (b9 : Option Addr) (bp cf : Nat) (ch : Option Addr) (bo cj : Nat) (cg : Option Addr) (i6 cm : Nat) (w : World) : Calls Tryz.prog 107 #[.agg #[.int .i64 0, .int .i64 0, .int .i64 page, .slice cg i6 cm]] w fun e w' => e = .returned (.int .i64 8) ∧ Same w w' := by
 go_enter Tryz.func107, Tryz.ntmps107
 go_wp2
 go_ret
 exact ⟨rfl, (Kept.refl _ _).alloc _⟩
theorem head_transaction (txn prev : Int) (w : World) : Calls Tryz.prog 99 #[.agg #[.int .i64 txn, .int .i64 prev]] w fun e w' => e = .returned (.int .i64 txn) ∧ Same w w' := by
 go_enter Tryz.func99, Tryz.ntmps99
 go_wp2
 go_ret
 exact ⟨rfl, (Kept.refl _ _).alloc _⟩
theorem head_ahead (txn prev : Int) (w : World) : Calls Tryz.prog 100 #[.agg #[.int .i64 txn, .int .i64 prev]] w fun e w' => e = .returned (.int .i64 prev) ∧ Same w w' := by
 go_enter Tryz.func100, Tryz.ntmps100
 go_wp2
 go_ret
 exact ⟨rfl, (Kept.refl _ _).alloc _⟩
theorem plainRecord_1 (txn prev page slot : Int) (bU : Bool) (bN : Option Addr) (gU bO : Nat) (aU : Bool) (bH : Option Addr) (fB bI : Nat) (uN nT : Int) (b9 : Option Addr) (bp cf : Nat) (ch : Option Addr) (bo cj : Nat) (cg : Option Addr) (i6 cm : Nat) (w : World) : Calls Tryz.prog 75 #[.iface 139 (.agg #[.int .i64 txn, .int .i64 prev, .int .i64 page, .int .i64 slot, .bool bU, .slice bN gU bO, .bool aU, .slice bH fB bI])] w fun e w' => e = .returned (.agg #[.int .i64 1, .int .i64 txn, .int .i64 prev, .int .i64 page, .int .i64 slot, .bool bU, .slice bN gU bO, .bool aU, .slice bH fB bI, .int .i64 0, .int .i64 0, .slice none 0 0, .slice none 0 0, .slice none 0 0]) ∧ Same w w' := by
 have bY := Blk.newA w [.int .i64 0, .int .i64 0, .int .i64 0, .int .i64 0, .int .i64 0, .bool false, .slice none 0 0, .bool false, .slice none 0 0, .int .i64 0, .int .i64 0, .slice none 0 0, .slice none 0 0, .slice none 0 0] 49 [.int .i64 txn, .int .i64 prev, .int .i64 page, .int .i64 slot, .bool bU, .slice bN gU bO, .bool aU, .slice bH fB bI] 139
 have fx := Blk.newB w [.int .i64 0, .int .i64 0, .int .i64 0, .int .i64 0, .int .i64 0, .bool false, .slice none 0 0, .bool false, .slice none 0 0, .int .i64 0, .int .i64 0, .slice none 0 0, .slice none 0 0, .slice none 0 0] 49 [.int .i64 txn, .int .i64 prev, .int .i64 page, .int .i64 slot, .bool bU, .slice bN gU bO, .bool aU, .slice bH fB bI] 139
 have bg : Same w ((w.alloc (.cells #[.int .i64 0, .int .i64 0, .int .i64 0, .int .i64 0, .int .i64 0, .bool false, .slice none 0 0, .bool false, .slice none 0 0, .int .i64 0, .int .i64 0, .slice none 0 0, .slice none 0 0, .slice none 0 0] 49)).alloc (.cells #[.int .i64 txn, .int .i64 prev, .int .i64 page, .int .i64 slot, .bool bU, .slice bN gU bO, .bool aU, .slice bH fB bI] 139)) := ((Kept.refl _ _).alloc _).alloc _
 go_enter Tryz.func75, Tryz.ntmps75
 go_wp2_with fail
 obtain ⟨w1, fC⟩ : ∃ w1, ((w.alloc (.cells #[.int .i64 0, .int .i64 0, .int .i64 0, .int .i64 0, .int .i64 0, .bool false, .slice none 0 0, .bool false, .slice none 0 0, .int .i64 0, .int .i64 0, .slice none 0 0, .slice none 0 0, .slice none 0 0] 49)).alloc (.cells #[.int .i64 txn, .int .i64 prev, .int .i64 page, .int .i64 slot, .bool bU, .slice bN gU bO, .bool aU, .slice bH fB bI] 139)) = w1 := ⟨_, rfl⟩
 rw [fC] at bY fx bg ⊢
 clear fC
 let Y1 : World → Prop := fun wx : World => wx.cell? ⟨w.heap.size + 1, 0, none⟩ = some (.int .i64 txn) ∧ wx.cell? ⟨w.heap.size + 1, 1, none⟩ = some (.int .i64 prev) ∧ wx.cell? ⟨w.heap.size + 1, 2, none⟩ = some (.int .i64 page) ∧ wx.cell? ⟨w.heap.size + 1, 3, none⟩ = some (.int .i64 slot) ∧ wx.cell? ⟨w.heap.size + 1, 4, none⟩ = some (.bool bU) ∧ wx.cell? ⟨w.heap.size + 1, 5, none⟩ = some (.slice bN gU bO) ∧ wx.cell? ⟨w.heap.size + 1, 6, none⟩ = some (.bool aU) ∧ wx.cell? ⟨w.heap.size + 1, 7, none⟩ = some (.slice bH fB bI)
 have cI : ∀ wx, Same w1 wx → Y1 wx := fun wx h => ⟨(fx.same h).cell 0, (fx.same h).cell 1, (fx.same h).cell 2, (fx.same h).cell 3, (fx.same h).cell 4, (fx.same h).cell 5, (fx.same h).cell 6, (fx.same h).cell 7⟩
 have hS : Y1 w1.drew := by exact cI _ (Kept.refl _ _).drew
 refine wp_region_V Y1 19 20 rfl (by kernel_rfl) ?_
 refine tk 0 15 hS ?_
 refine tk 2 17 hS ?_
 refine tk 3 18 hS ?_
 refine tk 5 20 hS ?_
 refine tk 6 21 hS ?_
 refine tk 8 23 hS ?_
 refine tk 9 24 hS ?_
 refine tk 10 25 hS ?_
 refine tk 11 26 hS ?_
 refine tk 12 27 hS ?_
 refine tk 13 28 hS ?_
 refine tk 14 29 hS ?_
 refine tk 15 30 hS ?_
 refine tk 16 31 hS ?_
 refine tk 17 32 hS ?_
 refine wpAnyV_one (i := 1) (by kernel_rfl) rfl (fun K hK => ?_)
 go_simp
 have hc := kind_1 undef txn prev page slot bU bN gU bO aU bH fB bI uN nT b9 bp cf ch bo cj cg i6 cm (w1.drew)
 with_reducible refine hc.mono ?_
 clear hc
 rintro e w2 ⟨rfl, bJ⟩
 have cY : Same w1 w2 := Kept.trans ((Kept.refl _ _).drew) bJ
 clear bJ
 have hS : Y1 w2 := cI _ cY
 refine hK.out _ _ (fun _ => hS) ?_
 clear hK K
 try simp only [Act.put, sA, s0, sS]
 refine wpAnyV_one (i := 4) (by kernel_rfl) rfl (fun K hK => ?_)
 go_simp
 have hc := head_transaction txn prev (w2)
 with_reducible refine hc.mono ?_
 clear hc
 rintro e w3 ⟨rfl, bJ⟩
 have iV : Same w1 w3 := Kept.trans (cY) bJ
 clear bJ
 have hS : Y1 w3 := cI _ iV
 refine hK.out _ _ (fun _ => hS) ?_
 clear hK K
 try simp only [Act.put, sA, s0, sS]
 refine wpAnyV_one (i := 7) (by kernel_rfl) rfl (fun K hK => ?_)
 go_simp
 have hc := head_ahead txn prev (w3)
 with_reducible refine hc.mono ?_
 clear hc
 rintro e w4 ⟨rfl, bJ⟩
 have bC : Same w1 w4 := Kept.trans (iV) bJ
 clear bJ
 have hS : Y1 w4 := cI _ bC
 refine hK.out _ _ (fun _ => hS) ?_
 clear hK K
 try simp only [Act.put, sA, s0, sS]
 refine tk 18 33 hS ?_
 have d0 := (bY.same bC).c0
 have f0 : w4.frozen? ⟨w.heap.size, 0, none⟩ = false := (bY.same bC).frozen 0
 have d1 := (bY.same bC).c1
 have f1 : w4.frozen? ⟨w.heap.size, 1, none⟩ = false := (bY.same bC).frozen 1
 have d2 := (bY.same bC).c2
 have f2 : w4.frozen? ⟨w.heap.size, 2, none⟩ = false := (bY.same bC).frozen 2
 have d3 := (bY.same bC).c3
 have f3 : w4.frozen? ⟨w.heap.size, 3, none⟩ = false := (bY.same bC).frozen 3
 have d4 := (bY.same bC).c4
 have f4 : w4.frozen? ⟨w.heap.size, 4, none⟩ = false := (bY.same bC).frozen 4
 have d5 := (bY.same bC).c5
 have f5 : w4.frozen? ⟨w.heap.size, 5, none⟩ = false := (bY.same bC).frozen 5
 have d6 := (bY.same bC).c6
 have f6 : w4.frozen? ⟨w.heap.size, 6, none⟩ = false := (bY.same bC).frozen 6
 have d7 := (bY.same bC).c7
 have f7 : w4.frozen? ⟨w.heap.size, 7, none⟩ = false := (bY.same bC).frozen 7
 have d8 := (bY.same bC).c8
 have f8 : w4.frozen? ⟨w.heap.size, 8, none⟩ = false := (bY.same bC).frozen 8
 have d9 := (bY.same bC).c9
 have f9 : w4.frozen? ⟨w.heap.size, 9, none⟩ = false := (bY.same bC).frozen 9
 have eh := (bY.same bC).c10
 have rH : w4.frozen? ⟨w.heap.size, 10, none⟩ = false := (bY.same bC).frozen 10
 have eo := (bY.same bC).c11
 have lp : w4.frozen? ⟨w.heap.size, 11, none⟩ = false := (bY.same bC).frozen 11
 have er := (bY.same bC).c12
 have vp : w4.frozen? ⟨w.heap.size, 12, none⟩ = false := (bY.same bC).frozen 12
 have ec := (bY.same bC).c13
 have wZ : w4.frozen? ⟨w.heap.size, 13, none⟩ = false := (bY.same bC).frozen 13
 refine wpAnyV_one (i := 19) (by kernel_rfl) rfl (fun K hK => ?_)
 go_simp
 refine hK.out _ _ (fun h => absurd rfl h) ?_
 clear hK K
 refine wpAnyV_done (by kernel_rfl) ?_
 try simp only [Act.put, sA, s0, sS]
 have hz : Same w w4 := bg.trans bC
 go_wp2
 refine bodyPost_ret (v := .agg #[.int .i64 1, .int .i64 txn, .int .i64 prev, .int .i64 page, .int .i64 slot, .bool bU, .slice bN gU bO, .bool aU, .slice bH fB bI, .int .i64 0, .int .i64 0, .slice none 0 0, .slice none 0 0, .slice none 0 0]) (by simp [results, Tryz.results75, go_sem, d0, d1, d2, d3, d4, d5, d6, d7, d8, d9, eh, eo, er, ec]) rfl ⟨rfl, ?_⟩
 exact ((((((((((((((hz.setCell (p := ⟨w.heap.size, 0, none⟩) (.inl (Nat.le_refl _)) _).setCell (p := ⟨w.heap.size, 1, none⟩) (.inl (Nat.le_refl _)) _).setCell (p := ⟨w.heap.size, 2, none⟩) (.inl (Nat.le_refl _)) _).setCell (p := ⟨w.heap.size, 3, none⟩) (.inl (Nat.le_refl _)) _).setCell (p := ⟨w.heap.size, 4, none⟩) (.inl (Nat.le_refl _)) _).setCell (p := ⟨w.heap.size, 5, none⟩) (.inl (Nat.le_refl _)) _).setCell (p := ⟨w.heap.size, 6, none⟩) (.inl (Nat.le_refl _)) _).setCell (p := ⟨w.heap.size, 7, none⟩) (.inl (Nat.le_refl _)) _).setCell (p := ⟨w.heap.size, 8, none⟩) (.inl (Nat.le_refl _)) _).setCell (p := ⟨w.heap.size, 9, none⟩) (.inl (Nat.le_refl _)) _).setCell (p := ⟨w.heap.size, 10, none⟩) (.inl (Nat.le_refl _)) _).setCell (p := ⟨w.heap.size, 11, none⟩) (.inl (Nat.le_refl _)) _).setCell (p := ⟨w.heap.size, 12, none⟩) (.inl (Nat.le_refl _)) _).setCell (p := ⟨w.heap.size, 13, none⟩) (.inl (Nat.le_refl _)) _)
theorem plainRecord_2 (txn prev page slot : Int) (bU : Bool) (bN : Option Addr) (gU bO : Nat) (aU : Bool) (bH : Option Addr) (fB bI : Nat) (uN nT : Int) (b9 : Option Addr) (bp cf : Nat) (ch : Option Addr) (bo cj : Nat) (cg : Option Addr) (i6 cm : Nat) (w : World) : Calls Tryz.prog 75 #[.iface 141 (.agg #[.int .i64 txn, .int .i64 prev, .int .i64 page, .int .i64 slot, .bool aU, .slice bH fB bI, .int .i64 uN])] w fun e w' => e = .returned (.agg #[.int .i64 2, .int .i64 txn, .int .i64 prev, .int .i64 page, .int .i64 slot, .bool false, .slice none 0 0, .bool aU, .slice bH fB bI, .int .i64 uN, .int .i64 0, .slice none 0 0, .slice none 0 0, .slice none 0 0]) ∧ Same w w' := by
 have bY := Blk.newA w [.int .i64 0, .int .i64 0, .int .i64 0, .int .i64 0, .int .i64 0, .bool false, .slice none 0 0, .bool false, .slice none 0 0, .int .i64 0, .int .i64 0, .slice none 0 0, .slice none 0 0, .slice none 0 0] 49 [.int .i64 txn, .int .i64 prev, .int .i64 page, .int .i64 slot, .bool aU, .slice bH fB bI, .int .i64 uN] 141
 have fx := Blk.newB w [.int .i64 0, .int .i64 0, .int .i64 0, .int .i64 0, .int .i64 0, .bool false, .slice none 0 0, .bool false, .slice none 0 0, .int .i64 0, .int .i64 0, .slice none 0 0, .slice none 0 0, .slice none 0 0] 49 [.int .i64 txn, .int .i64 prev, .int .i64 page, .int .i64 slot, .bool aU, .slice bH fB bI, .int .i64 uN] 141
 have bg : Same w ((w.alloc (.cells #[.int .i64 0, .int .i64 0, .int .i64 0, .int .i64 0, .int .i64 0, .bool false, .slice none 0 0, .bool false, .slice none 0 0, .int .i64 0, .int .i64 0, .slice none 0 0, .slice none 0 0, .slice none 0 0] 49)).alloc (.cells #[.int .i64 txn, .int .i64 prev, .int .i64 page, .int .i64 slot, .bool aU, .slice bH fB bI, .int .i64 uN] 141)) := ((Kept.refl _ _).alloc _).alloc _
 go_enter Tryz.func75, Tryz.ntmps75
 go_wp2_with fail
 obtain ⟨w1, fC⟩ : ∃ w1, ((w.alloc (.cells #[.int .i64 0, .int .i64 0, .int .i64 0, .int .i64 0, .int .i64 0, .bool false, .slice none 0 0, .bool false, .slice none 0 0, .int .i64 0, .int .i64 0, .slice none 0 0, .slice none 0 0, .slice none 0 0] 49)).alloc (.cells #[.int .i64 txn, .int .i64 prev, .int .i64 page, .int .i64 slot, .bool aU, .slice bH fB bI, .int .i64 uN] 141)) = w1 := ⟨_, rfl⟩
 rw [fC] at bY fx bg ⊢
 clear fC
 let Y1 : World → Prop := fun wx : World => wx.cell? ⟨w.heap.size + 1, 0, none⟩ = some (.int .i64 txn) ∧ wx.cell? ⟨w.heap.size + 1, 1, none⟩ = some (.int .i64 prev) ∧ wx.cell? ⟨w.heap.size + 1, 2, none⟩ = some (.int .i64 page) ∧ wx.cell? ⟨w.heap.size + 1, 3, none⟩ = some (.int .i64 slot) ∧ wx.cell? ⟨w.heap.size + 1, 4, none⟩ = some (.bool aU) ∧ wx.cell? ⟨w.heap.size + 1, 5, none⟩ = some (.slice bH fB bI) ∧ wx.cell? ⟨w.heap.size + 1, 6, none⟩ = some (.int .i64 uN)
 have cI : ∀ wx, Same w1 wx → Y1 wx := fun wx h => ⟨(fx.same h).cell 0, (fx.same h).cell 1, (fx.same h).cell 2, (fx.same h).cell 3, (fx.same h).cell 4, (fx.same h).cell 5, (fx.same h).cell 6⟩
 have hS : Y1 w1.drew := by exact cI _ (Kept.refl _ _).drew
 refine wp_region_V Y1 19 20 rfl (by kernel_rfl) ?_
 refine tk 0 37 hS ?_
 refine tk 2 39 hS ?_
 refine tk 3 40 hS ?_
 refine tk 5 42 hS ?_
 refine tk 6 43 hS ?_
 refine tk 8 45 hS ?_
 refine tk 9 46 hS ?_
 refine tk 10 47 hS ?_
 refine tk 11 48 hS ?_
 refine tk 12 49 hS ?_
 refine tk 13 50 hS ?_
 refine tk 14 51 hS ?_
 refine tk 15 52 hS ?_
 refine tk 16 53 hS ?_
 refine tk 17 54 hS ?_
 refine wpAnyV_one (i := 1) (by kernel_rfl) rfl (fun K hK => ?_)
 go_simp
 have hc := kind_2 undef txn prev page slot bU bN gU bO aU bH fB bI uN nT b9 bp cf ch bo cj cg i6 cm (w1.drew)
 with_reducible refine hc.mono ?_
 clear hc
 rintro e w2 ⟨rfl, bJ⟩
 have cY : Same w1 w2 := Kept.trans ((Kept.refl _ _).drew) bJ
 clear bJ
 have hS : Y1 w2 := cI _ cY
 refine hK.out _ _ (fun _ => hS) ?_
 clear hK K
 try simp only [Act.put, sA, s0, sS]
 refine wpAnyV_one (i := 4) (by kernel_rfl) rfl (fun K hK => ?_)
 go_simp
 have hc := head_transaction txn prev (w2)
 with_reducible refine hc.mono ?_
 clear hc
 rintro e w3 ⟨rfl, bJ⟩
 have iV : Same w1 w3 := Kept.trans (cY) bJ
 clear bJ
 have hS : Y1 w3 := cI _ iV
 refine hK.out _ _ (fun _ => hS) ?_
 clear hK K
 try simp only [Act.put, sA, s0, sS]
 refine wpAnyV_one (i := 7) (by kernel_rfl) rfl (fun K hK => ?_)
 go_simp
 have hc := head_ahead txn prev (w3)
 with_reducible refine hc.mono ?_
 clear hc
 rintro e w4 ⟨rfl, bJ⟩
 have bC : Same w1 w4 := Kept.trans (iV) bJ
 clear bJ
 have hS : Y1 w4 := cI _ bC
 refine hK.out _ _ (fun _ => hS) ?_
 clear hK K
 try simp only [Act.put, sA, s0, sS]
 refine tk 18 55 hS ?_
 have d0 := (bY.same bC).c0
 have f0 : w4.frozen? ⟨w.heap.size, 0, none⟩ = false := (bY.same bC).frozen 0
 have d1 := (bY.same bC).c1
 have f1 : w4.frozen? ⟨w.heap.size, 1, none⟩ = false := (bY.same bC).frozen 1
 have d2 := (bY.same bC).c2
 have f2 : w4.frozen? ⟨w.heap.size, 2, none⟩ = false := (bY.same bC).frozen 2
 have d3 := (bY.same bC).c3
 have f3 : w4.frozen? ⟨w.heap.size, 3, none⟩ = false := (bY.same bC).frozen 3
 have d4 := (bY.same bC).c4
 have f4 : w4.frozen? ⟨w.heap.size, 4, none⟩ = false := (bY.same bC).frozen 4
 have d5 := (bY.same bC).c5
 have f5 : w4.frozen? ⟨w.heap.size, 5, none⟩ = false := (bY.same bC).frozen 5
 have d6 := (bY.same bC).c6
 have f6 : w4.frozen? ⟨w.heap.size, 6, none⟩ = false := (bY.same bC).frozen 6
 have d7 := (bY.same bC).c7
 have f7 : w4.frozen? ⟨w.heap.size, 7, none⟩ = false := (bY.same bC).frozen 7
 have d8 := (bY.same bC).c8
 have f8 : w4.frozen? ⟨w.heap.size, 8, none⟩ = false := (bY.same bC).frozen 8
 have d9 := (bY.same bC).c9
 have f9 : w4.frozen? ⟨w.heap.size, 9, none⟩ = false := (bY.same bC).frozen 9
 have eh := (bY.same bC).c10
 have rH : w4.frozen? ⟨w.heap.size, 10, none⟩ = false := (bY.same bC).frozen 10
 have eo := (bY.same bC).c11
 have lp : w4.frozen? ⟨w.heap.size, 11, none⟩ = false := (bY.same bC).frozen 11
 have er := (bY.same bC).c12
 have vp : w4.frozen? ⟨w.heap.size, 12, none⟩ = false := (bY.same bC).frozen 12
 have ec := (bY.same bC).c13
 have wZ : w4.frozen? ⟨w.heap.size, 13, none⟩ = false := (bY.same bC).frozen 13
 refine wpAnyV_one (i := 19) (by kernel_rfl) rfl (fun K hK => ?_)
 go_simp
 refine hK.out _ _ (fun h => absurd rfl h) ?_
 clear hK K
 refine wpAnyV_done (by kernel_rfl) ?_
 try simp only [Act.put, sA, s0, sS]
 have hz : Same w w4 := bg.trans bC
 go_wp2
 refine bodyPost_ret (v := .agg #[.int .i64 2, .int .i64 txn, .int .i64 prev, .int .i64 page, .int .i64 slot, .bool false, .slice none 0 0, .bool aU, .slice bH fB bI, .int .i64 uN, .int .i64 0, .slice none 0 0, .slice none 0 0, .slice none 0 0]) (by simp [results, Tryz.results75, go_sem, d0, d1, d2, d3, d4, d5, d6, d7, d8, d9, eh, eo, er, ec]) rfl ⟨rfl, ?_⟩
 exact ((((((((((((((hz.setCell (p := ⟨w.heap.size, 0, none⟩) (.inl (Nat.le_refl _)) _).setCell (p := ⟨w.heap.size, 1, none⟩) (.inl (Nat.le_refl _)) _).setCell (p := ⟨w.heap.size, 2, none⟩) (.inl (Nat.le_refl _)) _).setCell (p := ⟨w.heap.size, 3, none⟩) (.inl (Nat.le_refl _)) _).setCell (p := ⟨w.heap.size, 4, none⟩) (.inl (Nat.le_refl _)) _).setCell (p := ⟨w.heap.size, 5, none⟩) (.inl (Nat.le_refl _)) _).setCell (p := ⟨w.heap.size, 6, none⟩) (.inl (Nat.le_refl _)) _).setCell (p := ⟨w.heap.size, 7, none⟩) (.inl (Nat.le_refl _)) _).setCell (p := ⟨w.heap.size, 8, none⟩) (.inl (Nat.le_refl _)) _).setCell (p := ⟨w.heap.size, 9, none⟩) (.inl (Nat.le_refl _)) _).setCell (p := ⟨w.heap.size, 10, none⟩) (.inl (Nat.le_refl _)) _).setCell (p := ⟨w.heap.size, 11, none⟩) (.inl (Nat.le_refl _)) _).setCell (p := ⟨w.heap.size, 12, none⟩) (.inl (Nat.le_refl _)) _).setCell (p := ⟨w.heap.size, 13, none⟩) (.inl (Nat.le_refl _)) _)
theorem plainRecord_3 (txn prev page slot : Int) (bU : Bool) (bN : Option Addr) (gU bO : Nat) (aU : Bool) (bH : Option Addr) (fB bI : Nat) (uN nT : Int) (b9 : Option Addr) (bp cf : Nat) (ch : Option Addr) (bo cj : Nat) (cg : Option Addr) (i6 cm : Nat) (w : World) : Calls Tryz.prog 75 #[.iface 143 (.agg #[.int .i64 txn, .int .i64 prev])] w fun e w' => e = .returned (.agg #[.int .i64 3, .int .i64 txn, .int .i64 prev, .int .i64 0, .int .i64 0, .bool false, .slice none 0 0, .bool false, .slice none 0 0, .int .i64 0, .int .i64 0, .slice none 0 0, .slice none 0 0, .slice none 0 0]) ∧ Same w w' := by
 have bY := Blk.newA w [.int .i64 0, .int .i64 0, .int .i64 0, .int .i64 0, .int .i64 0, .bool false, .slice none 0 0, .bool false, .slice none 0 0, .int .i64 0, .int .i64 0, .slice none 0 0, .slice none 0 0, .slice none 0 0] 49 [.int .i64 txn, .int .i64 prev] 143
 have fx := Blk.newB w [.int .i64 0, .int .i64 0, .int .i64 0, .int .i64 0, .int .i64 0, .bool false, .slice none 0 0, .bool false, .slice none 0 0, .int .i64 0, .int .i64 0, .slice none 0 0, .slice none 0 0, .slice none 0 0] 49 [.int .i64 txn, .int .i64 prev] 143
 have bg : Same w ((w.alloc (.cells #[.int .i64 0, .int .i64 0, .int .i64 0, .int .i64 0, .int .i64 0, .bool false, .slice none 0 0, .bool false, .slice none 0 0, .int .i64 0, .int .i64 0, .slice none 0 0, .slice none 0 0, .slice none 0 0] 49)).alloc (.cells #[.int .i64 txn, .int .i64 prev] 143)) := ((Kept.refl _ _).alloc _).alloc _
 go_enter Tryz.func75, Tryz.ntmps75
 go_wp2_with fail
 obtain ⟨w1, fC⟩ : ∃ w1, ((w.alloc (.cells #[.int .i64 0, .int .i64 0, .int .i64 0, .int .i64 0, .int .i64 0, .bool false, .slice none 0 0, .bool false, .slice none 0 0, .int .i64 0, .int .i64 0, .slice none 0 0, .slice none 0 0, .slice none 0 0] 49)).alloc (.cells #[.int .i64 txn, .int .i64 prev] 143)) = w1 := ⟨_, rfl⟩
 rw [fC] at bY fx bg ⊢
 clear fC
 let Y1 : World → Prop := fun wx : World => wx.cell? ⟨w.heap.size + 1, 0, none⟩ = some (.int .i64 txn) ∧ wx.cell? ⟨w.heap.size + 1, 1, none⟩ = some (.int .i64 prev)
 have cI : ∀ wx, Same w1 wx → Y1 wx := fun wx h => ⟨(fx.same h).cell 0, (fx.same h).cell 1⟩
 have hS : Y1 w1.drew := by exact cI _ (Kept.refl _ _).drew
 refine wp_region_V Y1 9 10 rfl (by kernel_rfl) ?_
 refine tk 0 59 hS ?_
 refine tk 2 61 hS ?_
 refine tk 3 62 hS ?_
 refine tk 5 64 hS ?_
 refine tk 6 65 hS ?_
 refine wpAnyV_one (i := 1) (by kernel_rfl) rfl (fun K hK => ?_)
 go_simp
 have hc := kind_3 undef txn prev page slot bU bN gU bO aU bH fB bI uN nT b9 bp cf ch bo cj cg i6 cm (w1.drew)
 with_reducible refine hc.mono ?_
 clear hc
 rintro e w2 ⟨rfl, bJ⟩
 have cY : Same w1 w2 := Kept.trans ((Kept.refl _ _).drew) bJ
 clear bJ
 have hS : Y1 w2 := cI _ cY
 refine hK.out _ _ (fun _ => hS) ?_
 clear hK K
 try simp only [Act.put, sA, s0, sS]
 refine wpAnyV_one (i := 4) (by kernel_rfl) rfl (fun K hK => ?_)
 go_simp
 have hc := head_transaction txn prev (w2)
 with_reducible refine hc.mono ?_
 clear hc
 rintro e w3 ⟨rfl, bJ⟩
 have iV : Same w1 w3 := Kept.trans (cY) bJ
 clear bJ
 have hS : Y1 w3 := cI _ iV
 refine hK.out _ _ (fun _ => hS) ?_
 clear hK K
 try simp only [Act.put, sA, s0, sS]
 refine wpAnyV_one (i := 7) (by kernel_rfl) rfl (fun K hK => ?_)
 go_simp
 have hc := head_ahead txn prev (w3)
 with_reducible refine hc.mono ?_
 clear hc
 rintro e w4 ⟨rfl, bJ⟩
 have bC : Same w1 w4 := Kept.trans (iV) bJ
 clear bJ
 have hS : Y1 w4 := cI _ bC
 refine hK.out _ _ (fun _ => hS) ?_
 clear hK K
 try simp only [Act.put, sA, s0, sS]
 refine tk 8 67 hS ?_
 have d0 := (bY.same bC).c0
 have f0 : w4.frozen? ⟨w.heap.size, 0, none⟩ = false := (bY.same bC).frozen 0
 have d1 := (bY.same bC).c1
 have f1 : w4.frozen? ⟨w.heap.size, 1, none⟩ = false := (bY.same bC).frozen 1
 have d2 := (bY.same bC).c2
 have f2 : w4.frozen? ⟨w.heap.size, 2, none⟩ = false := (bY.same bC).frozen 2
 have d3 := (bY.same bC).c3
 have f3 : w4.frozen? ⟨w.heap.size, 3, none⟩ = false := (bY.same bC).frozen 3
 have d4 := (bY.same bC).c4
 have f4 : w4.frozen? ⟨w.heap.size, 4, none⟩ = false := (bY.same bC).frozen 4
 have d5 := (bY.same bC).c5
 have f5 : w4.frozen? ⟨w.heap.size, 5, none⟩ = false := (bY.same bC).frozen 5
 have d6 := (bY.same bC).c6
 have f6 : w4.frozen? ⟨w.heap.size, 6, none⟩ = false := (bY.same bC).frozen 6
 have d7 := (bY.same bC).c7
 have f7 : w4.frozen? ⟨w.heap.size, 7, none⟩ = false := (bY.same bC).frozen 7
 have d8 := (bY.same bC).c8
 have f8 : w4.frozen? ⟨w.heap.size, 8, none⟩ = false := (bY.same bC).frozen 8
 have d9 := (bY.same bC).c9
 have f9 : w4.frozen? ⟨w.heap.size, 9, none⟩ = false := (bY.same bC).frozen 9
 have eh := (bY.same bC).c10
 have rH : w4.frozen? ⟨w.heap.size, 10, none⟩ = false := (bY.same bC).frozen 10
 have eo := (bY.same bC).c11
 have lp : w4.frozen? ⟨w.heap.size, 11, none⟩ = false := (bY.same bC).frozen 11
 have er := (bY.same bC).c12
 have vp : w4.frozen? ⟨w.heap.size, 12, none⟩ = false := (bY.same bC).frozen 12
 have ec := (bY.same bC).c13
 have wZ : w4.frozen? ⟨w.heap.size, 13, none⟩ = false := (bY.same bC).frozen 13
 refine wpAnyV_one (i := 9) (by kernel_rfl) rfl (fun K hK => ?_)
 go_simp
 refine hK.out _ _ (fun h => absurd rfl h) ?_
 clear hK K
 refine wpAnyV_done (by kernel_rfl) ?_
 try simp only [Act.put, sA, s0, sS]
 have hz : Same w w4 := bg.trans bC
 go_wp2
 refine bodyPost_ret (v := .agg #[.int .i64 3, .int .i64 txn, .int .i64 prev, .int .i64 0, .int .i64 0, .bool false, .slice none 0 0, .bool false, .slice none 0 0, .int .i64 0, .int .i64 0, .slice none 0 0, .slice none 0 0, .slice none 0 0]) (by simp [results, Tryz.results75, go_sem, d0, d1, d2, d3, d4, d5, d6, d7, d8, d9, eh, eo, er, ec]) rfl ⟨rfl, ?_⟩
 exact ((((((((((((((hz.setCell (p := ⟨w.heap.size, 0, none⟩) (.inl (Nat.le_refl _)) _).setCell (p := ⟨w.heap.size, 1, none⟩) (.inl (Nat.le_refl _)) _).setCell (p := ⟨w.heap.size, 2, none⟩) (.inl (Nat.le_refl _)) _).setCell (p := ⟨w.heap.size, 3, none⟩) (.inl (Nat.le_refl _)) _).setCell (p := ⟨w.heap.size, 4, none⟩) (.inl (Nat.le_refl _)) _).setCell (p := ⟨w.heap.size, 5, none⟩) (.inl (Nat.le_refl _)) _).setCell (p := ⟨w.heap.size, 6, none⟩) (.inl (Nat.le_refl _)) _).setCell (p := ⟨w.heap.size, 7, none⟩) (.inl (Nat.le_refl _)) _).setCell (p := ⟨w.heap.size, 8, none⟩) (.inl (Nat.le_refl _)) _).setCell (p := ⟨w.heap.size, 9, none⟩) (.inl (Nat.le_refl _)) _).setCell (p := ⟨w.heap.size, 10, none⟩) (.inl (Nat.le_refl _)) _).setCell (p := ⟨w.heap.size, 11, none⟩) (.inl (Nat.le_refl _)) _).setCell (p := ⟨w.heap.size, 12, none⟩) (.inl (Nat.le_refl _)) _).setCell (p := ⟨w.heap.size, 13, none⟩) (.inl (Nat.le_refl _)) _)
theorem plainRecord_4 (txn prev page slot : Int) (bU : Bool) (bN : Option Addr) (gU bO : Nat) (aU : Bool) (bH : Option Addr) (fB bI : Nat) (uN nT : Int) (b9 : Option Addr) (bp cf : Nat) (ch : Option Addr) (bo cj : Nat) (cg : Option Addr) (i6 cm : Nat) (w : World) : Calls Tryz.prog 75 #[.iface 144 (.agg #[.int .i64 txn, .int .i64 prev])] w fun e w' => e = .returned (.agg #[.int .i64 4, .int .i64 txn, .int .i64 prev, .int .i64 0, .int .i64 0, .bool false, .slice none 0 0, .bool false, .slice none 0 0, .int .i64 0, .int .i64 0, .slice none 0 0, .slice none 0 0, .slice none 0 0]) ∧ Same w w' := by
 have bY := Blk.newA w [.int .i64 0, .int .i64 0, .int .i64 0, .int .i64 0, .int .i64 0, .bool false, .slice none 0 0, .bool false, .slice none 0 0, .int .i64 0, .int .i64 0, .slice none 0 0, .slice none 0 0, .slice none 0 0] 49 [.int .i64 txn, .int .i64 prev] 144
 have fx := Blk.newB w [.int .i64 0, .int .i64 0, .int .i64 0, .int .i64 0, .int .i64 0, .bool false, .slice none 0 0, .bool false, .slice none 0 0, .int .i64 0, .int .i64 0, .slice none 0 0, .slice none 0 0, .slice none 0 0] 49 [.int .i64 txn, .int .i64 prev] 144
 have bg : Same w ((w.alloc (.cells #[.int .i64 0, .int .i64 0, .int .i64 0, .int .i64 0, .int .i64 0, .bool false, .slice none 0 0, .bool false, .slice none 0 0, .int .i64 0, .int .i64 0, .slice none 0 0, .slice none 0 0, .slice none 0 0] 49)).alloc (.cells #[.int .i64 txn, .int .i64 prev] 144)) := ((Kept.refl _ _).alloc _).alloc _
 go_enter Tryz.func75, Tryz.ntmps75
 go_wp2_with fail
 obtain ⟨w1, fC⟩ : ∃ w1, ((w.alloc (.cells #[.int .i64 0, .int .i64 0, .int .i64 0, .int .i64 0, .int .i64 0, .bool false, .slice none 0 0, .bool false, .slice none 0 0, .int .i64 0, .int .i64 0, .slice none 0 0, .slice none 0 0, .slice none 0 0] 49)).alloc (.cells #[.int .i64 txn, .int .i64 prev] 144)) = w1 := ⟨_, rfl⟩
 rw [fC] at bY fx bg ⊢
 clear fC
 let Y1 : World → Prop := fun wx : World => wx.cell? ⟨w.heap.size + 1, 0, none⟩ = some (.int .i64 txn) ∧ wx.cell? ⟨w.heap.size + 1, 1, none⟩ = some (.int .i64 prev)
 have cI : ∀ wx, Same w1 wx → Y1 wx := fun wx h => ⟨(fx.same h).cell 0, (fx.same h).cell 1⟩
 have hS : Y1 w1.drew := by exact cI _ (Kept.refl _ _).drew
 refine wp_region_V Y1 9 10 rfl (by kernel_rfl) ?_
 refine tk 0 71 hS ?_
 refine tk 2 73 hS ?_
 refine tk 3 74 hS ?_
 refine tk 5 76 hS ?_
 refine tk 6 77 hS ?_
 refine wpAnyV_one (i := 1) (by kernel_rfl) rfl (fun K hK => ?_)
 go_simp
 have hc := kind_4 undef txn prev page slot bU bN gU bO aU bH fB bI uN nT b9 bp cf ch bo cj cg i6 cm (w1.drew)
 with_reducible refine hc.mono ?_
 clear hc
 rintro e w2 ⟨rfl, bJ⟩
 have cY : Same w1 w2 := Kept.trans ((Kept.refl _ _).drew) bJ
 clear bJ
 have hS : Y1 w2 := cI _ cY
 refine hK.out _ _ (fun _ => hS) ?_
 clear hK K
 try simp only [Act.put, sA, s0, sS]
 refine wpAnyV_one (i := 4) (by kernel_rfl) rfl (fun K hK => ?_)
 go_simp
 have hc := head_transaction txn prev (w2)
 with_reducible refine hc.mono ?_
 clear hc
 rintro e w3 ⟨rfl, bJ⟩
 have iV : Same w1 w3 := Kept.trans (cY) bJ
 clear bJ
 have hS : Y1 w3 := cI _ iV
 refine hK.out _ _ (fun _ => hS) ?_
 clear hK K
 try simp only [Act.put, sA, s0, sS]
 refine wpAnyV_one (i := 7) (by kernel_rfl) rfl (fun K hK => ?_)
 go_simp
 have hc := head_ahead txn prev (w3)
 with_reducible refine hc.mono ?_
 clear hc
 rintro e w4 ⟨rfl, bJ⟩
 have bC : Same w1 w4 := Kept.trans (iV) bJ
 clear bJ
 have hS : Y1 w4 := cI _ bC
 refine hK.out _ _ (fun _ => hS) ?_
 clear hK K
 try simp only [Act.put, sA, s0, sS]
 refine tk 8 79 hS ?_
 have d0 := (bY.same bC).c0
 have f0 : w4.frozen? ⟨w.heap.size, 0, none⟩ = false := (bY.same bC).frozen 0
 have d1 := (bY.same bC).c1
 have f1 : w4.frozen? ⟨w.heap.size, 1, none⟩ = false := (bY.same bC).frozen 1
 have d2 := (bY.same bC).c2
 have f2 : w4.frozen? ⟨w.heap.size, 2, none⟩ = false := (bY.same bC).frozen 2
 have d3 := (bY.same bC).c3
 have f3 : w4.frozen? ⟨w.heap.size, 3, none⟩ = false := (bY.same bC).frozen 3
 have d4 := (bY.same bC).c4
 have f4 : w4.frozen? ⟨w.heap.size, 4, none⟩ = false := (bY.same bC).frozen 4
 have d5 := (bY.same bC).c5
 have f5 : w4.frozen? ⟨w.heap.size, 5, none⟩ = false := (bY.same bC).frozen 5
 have d6 := (bY.same bC).c6
 have f6 : w4.frozen? ⟨w.heap.size, 6, none⟩ = false := (bY.same bC).frozen 6
 have d7 := (bY.same bC).c7
 have f7 : w4.frozen? ⟨w.heap.size, 7, none⟩ = false := (bY.same bC).frozen 7
 have d8 := (bY.same bC).c8
 have f8 : w4.frozen? ⟨w.heap.size, 8, none⟩ = false := (bY.same bC).frozen 8
 have d9 := (bY.same bC).c9
 have f9 : w4.frozen? ⟨w.heap.size, 9, none⟩ = false := (bY.same bC).frozen 9
 have eh := (bY.same bC).c10
 have rH : w4.frozen? ⟨w.heap.size, 10, none⟩ = false := (bY.same bC).frozen 10
 have eo := (bY.same bC).c11
 have lp : w4.frozen? ⟨w.heap.size, 11, none⟩ = false := (bY.same bC).frozen 11
 have er := (bY.same bC).c12
 have vp : w4.frozen? ⟨w.heap.size, 12, none⟩ = false := (bY.same bC).frozen 12
 have ec := (bY.same bC).c13
 have wZ : w4.frozen? ⟨w.heap.size, 13, none⟩ = false := (bY.same bC).frozen 13
 refine wpAnyV_one (i := 9) (by kernel_rfl) rfl (fun K hK => ?_)
 go_simp
 refine hK.out _ _ (fun h => absurd rfl h) ?_
 clear hK K
 refine wpAnyV_done (by kernel_rfl) ?_
 try simp only [Act.put, sA, s0, sS]
 have hz : Same w w4 := bg.trans bC
 go_wp2
 refine bodyPost_ret (v := .agg #[.int .i64 4, .int .i64 txn, .int .i64 prev, .int .i64 0, .int .i64 0, .bool false, .slice none 0 0, .bool false, .slice none 0 0, .int .i64 0, .int .i64 0, .slice none 0 0, .slice none 0 0, .slice none 0 0]) (by simp [results, Tryz.results75, go_sem, d0, d1, d2, d3, d4, d5, d6, d7, d8, d9, eh, eo, er, ec]) rfl ⟨rfl, ?_⟩
 exact ((((((((((((((hz.setCell (p := ⟨w.heap.size, 0, none⟩) (.inl (Nat.le_refl _)) _).setCell (p := ⟨w.heap.size, 1, none⟩) (.inl (Nat.le_refl _)) _).setCell (p := ⟨w.heap.size, 2, none⟩) (.inl (Nat.le_refl _)) _).setCell (p := ⟨w.heap.size, 3, none⟩) (.inl (Nat.le_refl _)) _).setCell (p := ⟨w.heap.size, 4, none⟩) (.inl (Nat.le_refl _)) _).setCell (p := ⟨w.heap.size, 5, none⟩) (.inl (Nat.le_refl _)) _).setCell (p := ⟨w.heap.size, 6, none⟩) (.inl (Nat.le_refl _)) _).setCell (p := ⟨w.heap.size, 7, none⟩) (.inl (Nat.le_refl _)) _).setCell (p := ⟨w.heap.size, 8, none⟩) (.inl (Nat.le_refl _)) _).setCell (p := ⟨w.heap.size, 9, none⟩) (.inl (Nat.le_refl _)) _).setCell (p := ⟨w.heap.size, 10, none⟩) (.inl (Nat.le_refl _)) _).setCell (p := ⟨w.heap.size, 11, none⟩) (.inl (Nat.le_refl _)) _).setCell (p := ⟨w.heap.size, 12, none⟩) (.inl (Nat.le_refl _)) _).setCell (p := ⟨w.heap.size, 13, none⟩) (.inl (Nat.le_refl _)) _)
theorem plainRecord_5 (txn prev page slot : Int) (bU : Bool) (bN : Option Addr) (gU bO : Nat) (aU : Bool) (bH : Option Addr) (fB bI : Nat) (uN nT : Int) (b9 : Option Addr) (bp cf : Nat) (ch : Option Addr) (bo cj : Nat) (cg : Option Addr) (i6 cm : Nat) (w : World) : Calls Tryz.prog 75 #[.iface 145 (.agg #[.int .i64 txn, .int .i64 prev])] w fun e w' => e = .returned (.agg #[.int .i64 5, .int .i64 txn, .int .i64 prev, .int .i64 0, .int .i64 0, .bool false, .slice none 0 0, .bool false, .slice none 0 0, .int .i64 0, .int .i64 0, .slice none 0 0, .slice none 0 0, .slice none 0 0]) ∧ Same w w' := by
 have bY := Blk.newA w [.int .i64 0, .int .i64 0, .int .i64 0, .int .i64 0, .int .i64 0, .bool false, .slice none 0 0, .bool false, .slice none 0 0, .int .i64 0, .int .i64 0, .slice none 0 0, .slice none 0 0, .slice none 0 0] 49 [.int .i64 txn, .int .i64 prev] 145
 have fx := Blk.newB w [.int .i64 0, .int .i64 0, .int .i64 0, .int .i64 0, .int .i64 0, .bool false, .slice none 0 0, .bool false, .slice none 0 0, .int .i64 0, .int .i64 0, .slice none 0 0, .slice none 0 0, .slice none 0 0] 49 [.int .i64 txn, .int .i64 prev] 145
 have bg : Same w ((w.alloc (.cells #[.int .i64 0, .int .i64 0, .int .i64 0, .int .i64 0, .int .i64 0, .bool false, .slice none 0 0, .bool false, .slice none 0 0, .int .i64 0, .int .i64 0, .slice none 0 0, .slice none 0 0, .slice none 0 0] 49)).alloc (.cells #[.int .i64 txn, .int .i64 prev] 145)) := ((Kept.refl _ _).alloc _).alloc _
 go_enter Tryz.func75, Tryz.ntmps75
 go_wp2_with fail
 obtain ⟨w1, fC⟩ : ∃ w1, ((w.alloc (.cells #[.int .i64 0, .int .i64 0, .int .i64 0, .int .i64 0, .int .i64 0, .bool false, .slice none 0 0, .bool false, .slice none 0 0, .int .i64 0, .int .i64 0, .slice none 0 0, .slice none 0 0, .slice none 0 0] 49)).alloc (.cells #[.int .i64 txn, .int .i64 prev] 145)) = w1 := ⟨_, rfl⟩
 rw [fC] at bY fx bg ⊢
 clear fC
 let Y1 : World → Prop := fun wx : World => wx.cell? ⟨w.heap.size + 1, 0, none⟩ = some (.int .i64 txn) ∧ wx.cell? ⟨w.heap.size + 1, 1, none⟩ = some (.int .i64 prev)
 have cI : ∀ wx, Same w1 wx → Y1 wx := fun wx h => ⟨(fx.same h).cell 0, (fx.same h).cell 1⟩
 have hS : Y1 w1.drew := by exact cI _ (Kept.refl _ _).drew
 refine wp_region_V Y1 9 10 rfl (by kernel_rfl) ?_
 refine tk 0 83 hS ?_
 refine tk 2 85 hS ?_
 refine tk 3 86 hS ?_
 refine tk 5 88 hS ?_
 refine tk 6 89 hS ?_
 refine wpAnyV_one (i := 1) (by kernel_rfl) rfl (fun K hK => ?_)
 go_simp
 have hc := kind_5 undef txn prev page slot bU bN gU bO aU bH fB bI uN nT b9 bp cf ch bo cj cg i6 cm (w1.drew)
 with_reducible refine hc.mono ?_
 clear hc
 rintro e w2 ⟨rfl, bJ⟩
 have cY : Same w1 w2 := Kept.trans ((Kept.refl _ _).drew) bJ
 clear bJ
 have hS : Y1 w2 := cI _ cY
 refine hK.out _ _ (fun _ => hS) ?_
 clear hK K
 try simp only [Act.put, sA, s0, sS]
 refine wpAnyV_one (i := 4) (by kernel_rfl) rfl (fun K hK => ?_)
 go_simp
 have hc := head_transaction txn prev (w2)
 with_reducible refine hc.mono ?_
 clear hc
 rintro e w3 ⟨rfl, bJ⟩
 have iV : Same w1 w3 := Kept.trans (cY) bJ
 clear bJ
 have hS : Y1 w3 := cI _ iV
 refine hK.out _ _ (fun _ => hS) ?_
 clear hK K
 try simp only [Act.put, sA, s0, sS]
 refine wpAnyV_one (i := 7) (by kernel_rfl) rfl (fun K hK => ?_)
 go_simp
 have hc := head_ahead txn prev (w3)
 with_reducible refine hc.mono ?_
 clear hc
 rintro e w4 ⟨rfl, bJ⟩
 have bC : Same w1 w4 := Kept.trans (iV) bJ
 clear bJ
 have hS : Y1 w4 := cI _ bC
 refine hK.out _ _ (fun _ => hS) ?_
 clear hK K
 try simp only [Act.put, sA, s0, sS]
 refine tk 8 91 hS ?_
 have d0 := (bY.same bC).c0
 have f0 : w4.frozen? ⟨w.heap.size, 0, none⟩ = false := (bY.same bC).frozen 0
 have d1 := (bY.same bC).c1
 have f1 : w4.frozen? ⟨w.heap.size, 1, none⟩ = false := (bY.same bC).frozen 1
 have d2 := (bY.same bC).c2
 have f2 : w4.frozen? ⟨w.heap.size, 2, none⟩ = false := (bY.same bC).frozen 2
 have d3 := (bY.same bC).c3
 have f3 : w4.frozen? ⟨w.heap.size, 3, none⟩ = false := (bY.same bC).frozen 3
 have d4 := (bY.same bC).c4
 have f4 : w4.frozen? ⟨w.heap.size, 4, none⟩ = false := (bY.same bC).frozen 4
 have d5 := (bY.same bC).c5
 have f5 : w4.frozen? ⟨w.heap.size, 5, none⟩ = false := (bY.same bC).frozen 5
 have d6 := (bY.same bC).c6
 have f6 : w4.frozen? ⟨w.heap.size, 6, none⟩ = false := (bY.same bC).frozen 6
 have d7 := (bY.same bC).c7
 have f7 : w4.frozen? ⟨w.heap.size, 7, none⟩ = false := (bY.same bC).frozen 7
 have d8 := (bY.same bC).c8
 have f8 : w4.frozen? ⟨w.heap.size, 8, none⟩ = false := (bY.same bC).frozen 8
 have d9 := (bY.same bC).c9
 have f9 : w4.frozen? ⟨w.heap.size, 9, none⟩ = false := (bY.same bC).frozen 9
 have eh := (bY.same bC).c10
 have rH : w4.frozen? ⟨w.heap.size, 10, none⟩ = false := (bY.same bC).frozen 10
 have eo := (bY.same bC).c11
 have lp : w4.frozen? ⟨w.heap.size, 11, none⟩ = false := (bY.same bC).frozen 11
 have er := (bY.same bC).c12
 have vp : w4.frozen? ⟨w.heap.size, 12, none⟩ = false := (bY.same bC).frozen 12
 have ec := (bY.same bC).c13
 have wZ : w4.frozen? ⟨w.heap.size, 13, none⟩ = false := (bY.same bC).frozen 13
 refine wpAnyV_one (i := 9) (by kernel_rfl) rfl (fun K hK => ?_)
 go_simp
 refine hK.out _ _ (fun h => absurd rfl h) ?_
 clear hK K
 refine wpAnyV_done (by kernel_rfl) ?_
 try simp only [Act.put, sA, s0, sS]
 have hz : Same w w4 := bg.trans bC
 go_wp2
 refine bodyPost_ret (v := .agg #[.int .i64 5, .int .i64 txn, .int .i64 prev, .int .i64 0, .int .i64 0, .bool false, .slice none 0 0, .bool false, .slice none 0 0, .int .i64 0, .int .i64 0, .slice none 0 0, .slice none 0 0, .slice none 0 0]) (by simp [results, Tryz.results75, go_sem, d0, d1, d2, d3, d4, d5, d6, d7, d8, d9, eh, eo, er, ec]) rfl ⟨rfl, ?_⟩
 exact ((((((((((((((hz.setCell (p := ⟨w.heap.size, 0, none⟩) (.inl (Nat.le_refl _)) _).setCell (p := ⟨w.heap.size, 1, none⟩) (.inl (Nat.le_refl _)) _).setCell (p := ⟨w.heap.size, 2, none⟩) (.inl (Nat.le_refl _)) _).setCell (p := ⟨w.heap.size, 3, none⟩) (.inl (Nat.le_refl _)) _).setCell (p := ⟨w.heap.size, 4, none⟩) (.inl (Nat.le_refl _)) _).setCell (p := ⟨w.heap.size, 5, none⟩) (.inl (Nat.le_refl _)) _).setCell (p := ⟨w.heap.size, 6, none⟩) (.inl (Nat.le_refl _)) _).setCell (p := ⟨w.heap.size, 7, none⟩) (.inl (Nat.le_refl _)) _).setCell (p := ⟨w.heap.size, 8, none⟩) (.inl (Nat.le_refl _)) _).setCell (p := ⟨w.heap.size, 9, none⟩) (.inl (Nat.le_refl _)) _).setCell (p := ⟨w.heap.size, 10, none⟩) (.inl (Nat.le_refl _)) _).setCell (p := ⟨w.heap.size, 11, none⟩) (.inl (Nat.le_refl _)) _).setCell (p := ⟨w.heap.size, 12, none⟩) (.inl (Nat.le_refl _)) _).setCell (p := ⟨w.heap.size, 13, none⟩) (.inl (Nat.le_refl _)) _)
theorem plainRecord_6 (txn prev page slot : Int) (bU : Bool) (bN : Option Addr) (gU bO : Nat) (aU : Bool) (bH : Option Addr) (fB bI : Nat) (uN nT : Int) (b9 : Option Addr) (bp cf : Nat) (ch : Option Addr) (bo cj : Nat) (cg : Option Addr) (i6 cm : Nat) (w : World) : Calls Tryz.prog 75 #[.iface 146 (.agg #[.int .i64 0, .int .i64 0])] w fun e w' => e = .returned (.agg #[.int .i64 6, .int .i64 0, .int .i64 0, .int .i64 0, .int .i64 0, .bool false, .slice none 0 0, .bool false, .slice none 0 0, .int .i64 0, .int .i64 0, .slice none 0 0, .slice none 0 0, .slice none 0 0]) ∧ Same w w' := by
 have bY := Blk.newA w [.int .i64 0, .int .i64 0, .int .i64 0, .int .i64 0, .int .i64 0, .bool false, .slice none 0 0, .bool false, .slice none 0 0, .int .i64 0, .int .i64 0, .slice none 0 0, .slice none 0 0, .slice none 0 0] 49 [.int .i64 0, .int .i64 0] 146
 have fx := Blk.newB w [.int .i64 0, .int .i64 0, .int .i64 0, .int .i64 0, .int .i64 0, .bool false, .slice none 0 0, .bool false, .slice none 0 0, .int .i64 0, .int .i64 0, .slice none 0 0, .slice none 0 0, .slice none 0 0] 49 [.int .i64 0, .int .i64 0] 146
 have bg : Same w ((w.alloc (.cells #[.int .i64 0, .int .i64 0, .int .i64 0, .int .i64 0, .int .i64 0, .bool false, .slice none 0 0, .bool false, .slice none 0 0, .int .i64 0, .int .i64 0, .slice none 0 0, .slice none 0 0, .slice none 0 0] 49)).alloc (.cells #[.int .i64 0, .int .i64 0] 146)) := ((Kept.refl _ _).alloc _).alloc _
 go_enter Tryz.func75, Tryz.ntmps75
 go_wp2_with fail
 refine (kind_6 undef txn prev page slot bU bN gU bO aU bH fB bI uN nT b9 bp cf ch bo cj cg i6 cm _).mono ?_
 rintro e w2 ⟨rfl, eC⟩
 have d0 := (bY.same eC).c0
 have f0 : w2.frozen? ⟨w.heap.size, 0, none⟩ = false := (bY.same eC).frozen 0
 have d1 := (bY.same eC).c1
 have f1 : w2.frozen? ⟨w.heap.size, 1, none⟩ = false := (bY.same eC).frozen 1
 have d2 := (bY.same eC).c2
 have f2 : w2.frozen? ⟨w.heap.size, 2, none⟩ = false := (bY.same eC).frozen 2
 have d3 := (bY.same eC).c3
 have f3 : w2.frozen? ⟨w.heap.size, 3, none⟩ = false := (bY.same eC).frozen 3
 have d4 := (bY.same eC).c4
 have f4 : w2.frozen? ⟨w.heap.size, 4, none⟩ = false := (bY.same eC).frozen 4
 have d5 := (bY.same eC).c5
 have f5 : w2.frozen? ⟨w.heap.size, 5, none⟩ = false := (bY.same eC).frozen 5
 have d6 := (bY.same eC).c6
 have f6 : w2.frozen? ⟨w.heap.size, 6, none⟩ = false := (bY.same eC).frozen 6
 have d7 := (bY.same eC).c7
 have f7 : w2.frozen? ⟨w.heap.size, 7, none⟩ = false := (bY.same eC).frozen 7
 have d8 := (bY.same eC).c8
 have f8 : w2.frozen? ⟨w.heap.size, 8, none⟩ = false := (bY.same eC).frozen 8
 have d9 := (bY.same eC).c9
 have f9 : w2.frozen? ⟨w.heap.size, 9, none⟩ = false := (bY.same eC).frozen 9
 have eh := (bY.same eC).c10
 have rH : w2.frozen? ⟨w.heap.size, 10, none⟩ = false := (bY.same eC).frozen 10
 have eo := (bY.same eC).c11
 have lp : w2.frozen? ⟨w.heap.size, 11, none⟩ = false := (bY.same eC).frozen 11
 have er := (bY.same eC).c12
 have vp : w2.frozen? ⟨w.heap.size, 12, none⟩ = false := (bY.same eC).frozen 12
 have ec := (bY.same eC).c13
 have wZ : w2.frozen? ⟨w.heap.size, 13, none⟩ = false := (bY.same eC).frozen 13
 have hz : Same w w2 := bg.trans eC
 go_wp2
 refine bodyPost_ret (v := .agg #[.int .i64 6, .int .i64 0, .int .i64 0, .int .i64 0, .int .i64 0, .bool false, .slice none 0 0, .bool false, .slice none 0 0, .int .i64 0, .int .i64 0, .slice none 0 0, .slice none 0 0, .slice none 0 0]) (by simp [results, Tryz.results75, go_sem, d0, d1, d2, d3, d4, d5, d6, d7, d8, d9, eh, eo, er, ec]) rfl ⟨rfl, ?_⟩
 exact ((((((((((((((hz.setCell (p := ⟨w.heap.size, 0, none⟩) (.inl (Nat.le_refl _)) _).setCell (p := ⟨w.heap.size, 1, none⟩) (.inl (Nat.le_refl _)) _).setCell (p := ⟨w.heap.size, 2, none⟩) (.inl (Nat.le_refl _)) _).setCell (p := ⟨w.heap.size, 3, none⟩) (.inl (Nat.le_refl _)) _).setCell (p := ⟨w.heap.size, 4, none⟩) (.inl (Nat.le_refl _)) _).setCell (p := ⟨w.heap.size, 5, none⟩) (.inl (Nat.le_refl _)) _).setCell (p := ⟨w.heap.size, 6, none⟩) (.inl (Nat.le_refl _)) _).setCell (p := ⟨w.heap.size, 7, none⟩) (.inl (Nat.le_refl _)) _).setCell (p := ⟨w.heap.size, 8, none⟩) (.inl (Nat.le_refl _)) _).setCell (p := ⟨w.heap.size, 9, none⟩) (.inl (Nat.le_refl _)) _).setCell (p := ⟨w.heap.size, 10, none⟩) (.inl (Nat.le_refl _)) _).setCell (p := ⟨w.heap.size, 11, none⟩) (.inl (Nat.le_refl _)) _).setCell (p := ⟨w.heap.size, 12, none⟩) (.inl (Nat.le_refl _)) _).setCell (p := ⟨w.heap.size, 13, none⟩) (.inl (Nat.le_refl _)) _)
theorem plainRecord_7 (txn prev page slot : Int) (bU : Bool) (bN : Option Addr) (gU bO : Nat) (aU : Bool) (bH : Option Addr) (fB bI : Nat) (uN nT : Int) (b9 : Option Addr) (bp cf : Nat) (ch : Option Addr) (bo cj : Nat) (cg : Option Addr) (i6 cm : Nat) (w : World) : Calls Tryz.prog 75 #[.iface 148 (.agg #[.int .i64 0, .int .i64 0, .int .i64 nT, .slice b9 bp cf, .slice ch bo cj])] w fun e w' => e = .returned (.agg #[.int .i64 7, .int .i64 0, .int .i64 0, .int .i64 0, .int .i64 0, .bool false, .slice none 0 0, .bool false, .slice none 0 0, .int .i64 0, .int .i64 nT, .slice b9 bp cf, .slice ch bo cj, .slice none 0 0]) ∧ Same w w' := by
 have bY := Blk.newA w [.int .i64 0, .int .i64 0, .int .i64 0, .int .i64 0, .int .i64 0, .bool false, .slice none 0 0, .bool false, .slice none 0 0, .int .i64 0, .int .i64 0, .slice none 0 0, .slice none 0 0, .slice none 0 0] 49 [.int .i64 0, .int .i64 0, .int .i64 nT, .slice b9 bp cf, .slice ch bo cj] 148
 have fx := Blk.newB w [.int .i64 0, .int .i64 0, .int .i64 0, .int .i64 0, .int .i64 0, .bool false, .slice none 0 0, .bool false, .slice none 0 0, .int .i64 0, .int .i64 0, .slice none 0 0, .slice none 0 0, .slice none 0 0] 49 [.int .i64 0, .int .i64 0, .int .i64 nT, .slice b9 bp cf, .slice ch bo cj] 148
 have bg : Same w ((w.alloc (.cells #[.int .i64 0, .int .i64 0, .int .i64 0, .int .i64 0, .int .i64 0, .bool false, .slice none 0 0, .bool false, .slice none 0 0, .int .i64 0, .int .i64 0, .slice none 0 0, .slice none 0 0, .slice none 0 0] 49)).alloc (.cells #[.int .i64 0, .int .i64 0, .int .i64 nT, .slice b9 bp cf, .slice ch bo cj] 148)) := ((Kept.refl _ _).alloc _).alloc _
 go_enter Tryz.func75, Tryz.ntmps75
 go_wp2_with fail
 obtain ⟨w1, fC⟩ : ∃ w1, ((w.alloc (.cells #[.int .i64 0, .int .i64 0, .int .i64 0, .int .i64 0, .int .i64 0, .bool false, .slice none 0 0, .bool false, .slice none 0 0, .int .i64 0, .int .i64 0, .slice none 0 0, .slice none 0 0, .slice none 0 0] 49)).alloc (.cells #[.int .i64 0, .int .i64 0, .int .i64 nT, .slice b9 bp cf, .slice ch bo cj] 148)) = w1 := ⟨_, rfl⟩
 rw [fC] at bY fx bg ⊢
 clear fC
 let Y1 : World → Prop := fun wx : World => wx.cell? ⟨w.heap.size + 1, 0, none⟩ = some (.int .i64 0) ∧ wx.cell? ⟨w.heap.size + 1, 1, none⟩ = some (.int .i64 0) ∧ wx.cell? ⟨w.heap.size + 1, 2, none⟩ = some (.int .i64 nT) ∧ wx.cell? ⟨w.heap.size + 1, 3, none⟩ = some (.slice b9 bp cf) ∧ wx.cell? ⟨w.heap.size + 1, 4, none⟩ = some (.slice ch bo cj)
 have cI : ∀ wx, Same w1 wx → Y1 wx := fun wx h => ⟨(fx.same h).cell 0, (fx.same h).cell 1, (fx.same h).cell 2, (fx.same h).cell 3, (fx.same h).cell 4⟩
 have hS : Y1 w1.drew := by exact cI _ (Kept.refl _ _).drew
 refine wp_region_V Y1 9 10 rfl (by kernel_rfl) ?_
 refine tk 0 101 hS ?_
 refine tk 2 103 hS ?_
 refine tk 3 104 hS ?_
 refine tk 4 105 hS ?_
 refine tk 5 106 hS ?_
 refine tk 6 107 hS ?_
 refine tk 7 108 hS ?_
 refine wpAnyV_one (i := 1) (by kernel_rfl) rfl (fun K hK => ?_)
 go_simp
 have hc := kind_7 undef txn prev page slot bU bN gU bO aU bH fB bI uN nT b9 bp cf ch bo cj cg i6 cm (w1.drew)
 with_reducible refine hc.mono ?_
 clear hc
 rintro e w2 ⟨rfl, bJ⟩
 have cY : Same w1 w2 := Kept.trans ((Kept.refl _ _).drew) bJ
 clear bJ
 have hS : Y1 w2 := cI _ cY
 refine hK.out _ _ (fun _ => hS) ?_
 clear hK K
 try simp only [Act.put, sA, s0, sS]
 refine tk 8 109 hS ?_
 have d0 := (bY.same cY).c0
 have f0 : w2.frozen? ⟨w.heap.size, 0, none⟩ = false := (bY.same cY).frozen 0
 have d1 := (bY.same cY).c1
 have f1 : w2.frozen? ⟨w.heap.size, 1, none⟩ = false := (bY.same cY).frozen 1
 have d2 := (bY.same cY).c2
 have f2 : w2.frozen? ⟨w.heap.size, 2, none⟩ = false := (bY.same cY).frozen 2
 have d3 := (bY.same cY).c3
 have f3 : w2.frozen? ⟨w.heap.size, 3, none⟩ = false := (bY.same cY).frozen 3
 have d4 := (bY.same cY).c4
 have f4 : w2.frozen? ⟨w.heap.size, 4, none⟩ = false := (bY.same cY).frozen 4
 have d5 := (bY.same cY).c5
 have f5 : w2.frozen? ⟨w.heap.size, 5, none⟩ = false := (bY.same cY).frozen 5
 have d6 := (bY.same cY).c6
 have f6 : w2.frozen? ⟨w.heap.size, 6, none⟩ = false := (bY.same cY).frozen 6
 have d7 := (bY.same cY).c7
 have f7 : w2.frozen? ⟨w.heap.size, 7, none⟩ = false := (bY.same cY).frozen 7
 have d8 := (bY.same cY).c8
 have f8 : w2.frozen? ⟨w.heap.size, 8, none⟩ = false := (bY.same cY).frozen 8
 have d9 := (bY.same cY).c9
 have f9 : w2.frozen? ⟨w.heap.size, 9, none⟩ = false := (bY.same cY).frozen 9
 have eh := (bY.same cY).c10
 have rH : w2.frozen? ⟨w.heap.size, 10, none⟩ = false := (bY.same cY).frozen 10
 have eo := (bY.same cY).c11
 have lp : w2.frozen? ⟨w.heap.size, 11, none⟩ = false := (bY.same cY).frozen 11
 have er := (bY.same cY).c12
 have vp : w2.frozen? ⟨w.heap.size, 12, none⟩ = false := (bY.same cY).frozen 12
 have ec := (bY.same cY).c13
 have wZ : w2.frozen? ⟨w.heap.size, 13, none⟩ = false := (bY.same cY).frozen 13
 refine wpAnyV_one (i := 9) (by kernel_rfl) rfl (fun K hK => ?_)
 go_simp
 refine hK.out _ _ (fun h => absurd rfl h) ?_
 clear hK K
 refine wpAnyV_done (by kernel_rfl) ?_
 try simp only [Act.put, sA, s0, sS]
 have hz : Same w w2 := bg.trans cY
 go_wp2
 refine bodyPost_ret (v := .agg #[.int .i64 7, .int .i64 0, .int .i64 0, .int .i64 0, .int .i64 0, .bool false, .slice none 0 0, .bool false, .slice none 0 0, .int .i64 0, .int .i64 nT, .slice b9 bp cf, .slice ch bo cj, .slice none 0 0]) (by simp [results, Tryz.results75, go_sem, d0, d1, d2, d3, d4, d5, d6, d7, d8, d9, eh, eo, er, ec]) rfl ⟨rfl, ?_⟩
 exact ((((((((((((((hz.setCell (p := ⟨w.heap.size, 0, none⟩) (.inl (Nat.le_refl _)) _).setCell (p := ⟨w.heap.size, 1, none⟩) (.inl (Nat.le_refl _)) _).setCell (p := ⟨w.heap.size, 2, none⟩) (.inl (Nat.le_refl _)) _).setCell (p := ⟨w.heap.size, 3, none⟩) (.inl (Nat.le_refl _)) _).setCell (p := ⟨w.heap.size, 4, none⟩) (.inl (Nat.le_refl _)) _).setCell (p := ⟨w.heap.size, 5, none⟩) (.inl (Nat.le_refl _)) _).setCell (p := ⟨w.heap.size, 6, none⟩) (.inl (Nat.le_refl _)) _).setCell (p := ⟨w.heap.size, 7, none⟩) (.inl (Nat.le_refl _)) _).setCell (p := ⟨w.heap.size, 8, none⟩) (.inl (Nat.le_refl _)) _).setCell (p := ⟨w.heap.size, 9, none⟩) (.inl (Nat.le_refl _)) _).setCell (p := ⟨w.heap.size, 10, none⟩) (.inl (Nat.le_refl _)) _).setCell (p := ⟨w.heap.size, 11, none⟩) (.inl (Nat.le_refl _)) _).setCell (p := ⟨w.heap.size, 12, none⟩) (.inl (Nat.le_refl _)) _).setCell (p := ⟨w.heap.size, 13, none⟩) (.inl (Nat.le_refl _)) _)
theorem plainRecord_8 (txn prev page slot : Int) (bU : Bool) (bN : Option Addr) (gU bO : Nat) (aU : Bool) (bH : Option Addr) (fB bI : Nat) (uN nT : Int) (b9 : Option Addr) (bp cf : Nat) (ch : Option Addr) (bo cj : Nat) (cg : Option Addr) (i6 cm : Nat) (w : World) : Calls Tryz.prog 75 #[.iface 150 (.agg #[.int .i64 0, .int .i64 0, .int .i64 page, .slice cg i6 cm])] w fun e w' => e = .returned (.agg #[.int .i64 8, .int .i64 0, .int .i64 0, .int .i64 page, .int .i64 0, .bool false, .slice none 0 0, .bool false, .slice none 0 0, .int .i64 0, .int .i64 0, .slice none 0 0, .slice none 0 0, .slice cg i6 cm]) ∧ Same w w' := by
 have bY := Blk.newA w [.int .i64 0, .int .i64 0, .int .i64 0, .int .i64 0, .int .i64 0, .bool false, .slice none 0 0, .bool false, .slice none 0 0, .int .i64 0, .int .i64 0, .slice none 0 0, .slice none 0 0, .slice none 0 0] 49 [.int .i64 0, .int .i64 0, .int .i64 page, .slice cg i6 cm] 150
 have fx := Blk.newB w [.int .i64 0, .int .i64 0, .int .i64 0, .int .i64 0, .int .i64 0, .bool false, .slice none 0 0, .bool false, .slice none 0 0, .int .i64 0, .int .i64 0, .slice none 0 0, .slice none 0 0, .slice none 0 0] 49 [.int .i64 0, .int .i64 0, .int .i64 page, .slice cg i6 cm] 150
 have bg : Same w ((w.alloc (.cells #[.int .i64 0, .int .i64 0, .int .i64 0, .int .i64 0, .int .i64 0, .bool false, .slice none 0 0, .bool false, .slice none 0 0, .int .i64 0, .int .i64 0, .slice none 0 0, .slice none 0 0, .slice none 0 0] 49)).alloc (.cells #[.int .i64 0, .int .i64 0, .int .i64 page, .slice cg i6 cm] 150)) := ((Kept.refl _ _).alloc _).alloc _
 go_enter Tryz.func75, Tryz.ntmps75
 go_wp2_with fail
 obtain ⟨w1, fC⟩ : ∃ w1, ((w.alloc (.cells #[.int .i64 0, .int .i64 0, .int .i64 0, .int .i64 0, .int .i64 0, .bool false, .slice none 0 0, .bool false, .slice none 0 0, .int .i64 0, .int .i64 0, .slice none 0 0, .slice none 0 0, .slice none 0 0] 49)).alloc (.cells #[.int .i64 0, .int .i64 0, .int .i64 page, .slice cg i6 cm] 150)) = w1 := ⟨_, rfl⟩
 rw [fC] at bY fx bg ⊢
 clear fC
 let Y1 : World → Prop := fun wx : World => wx.cell? ⟨w.heap.size + 1, 0, none⟩ = some (.int .i64 0) ∧ wx.cell? ⟨w.heap.size + 1, 1, none⟩ = some (.int .i64 0) ∧ wx.cell? ⟨w.heap.size + 1, 2, none⟩ = some (.int .i64 page) ∧ wx.cell? ⟨w.heap.size + 1, 3, none⟩ = some (.slice cg i6 cm)
 have cI : ∀ wx, Same w1 wx → Y1 wx := fun wx h => ⟨(fx.same h).cell 0, (fx.same h).cell 1, (fx.same h).cell 2, (fx.same h).cell 3⟩
 have hS : Y1 w1.drew := by exact cI _ (Kept.refl _ _).drew
 refine wp_region_V Y1 7 8 rfl (by kernel_rfl) ?_
 refine tk 0 113 hS ?_
 refine tk 2 115 hS ?_
 refine tk 3 116 hS ?_
 refine tk 4 117 hS ?_
 refine tk 5 118 hS ?_
 refine wpAnyV_one (i := 1) (by kernel_rfl) rfl (fun K hK => ?_)
 go_simp
 have hc := kind_8 undef txn prev page slot bU bN gU bO aU bH fB bI uN nT b9 bp cf ch bo cj cg i6 cm (w1.drew)
 with_reducible refine hc.mono ?_
 clear hc
 rintro e w2 ⟨rfl, bJ⟩
 have cY : Same w1 w2 := Kept.trans ((Kept.refl _ _).drew) bJ
 clear bJ
 have hS : Y1 w2 := cI _ cY
 refine hK.out _ _ (fun _ => hS) ?_
 clear hK K
 try simp only [Act.put, sA, s0, sS]
 refine tk 6 119 hS ?_
 have d0 := (bY.same cY).c0
 have f0 : w2.frozen? ⟨w.heap.size, 0, none⟩ = false := (bY.same cY).frozen 0
 have d1 := (bY.same cY).c1
 have f1 : w2.frozen? ⟨w.heap.size, 1, none⟩ = false := (bY.same cY).frozen 1
 have d2 := (bY.same cY).c2
 have f2 : w2.frozen? ⟨w.heap.size, 2, none⟩ = false := (bY.same cY).frozen 2
 have d3 := (bY.same cY).c3
 have f3 : w2.frozen? ⟨w.heap.size, 3, none⟩ = false := (bY.same cY).frozen 3
 have d4 := (bY.same cY).c4
 have f4 : w2.frozen? ⟨w.heap.size, 4, none⟩ = false := (bY.same cY).frozen 4
 have d5 := (bY.same cY).c5
 have f5 : w2.frozen? ⟨w.heap.size, 5, none⟩ = false := (bY.same cY).frozen 5
 have d6 := (bY.same cY).c6
 have f6 : w2.frozen? ⟨w.heap.size, 6, none⟩ = false := (bY.same cY).frozen 6
 have d7 := (bY.same cY).c7
 have f7 : w2.frozen? ⟨w.heap.size, 7, none⟩ = false := (bY.same cY).frozen 7
 have d8 := (bY.same cY).c8
 have f8 : w2.frozen? ⟨w.heap.size, 8, none⟩ = false := (bY.same cY).frozen 8
 have d9 := (bY.same cY).c9
 have f9 : w2.frozen? ⟨w.heap.size, 9, none⟩ = false := (bY.same cY).frozen 9
 have eh := (bY.same cY).c10
 have rH : w2.frozen? ⟨w.heap.size, 10, none⟩ = false := (bY.same cY).frozen 10
 have eo := (bY.same cY).c11
 have lp : w2.frozen? ⟨w.heap.size, 11, none⟩ = false := (bY.same cY).frozen 11
 have er := (bY.same cY).c12
 have vp : w2.frozen? ⟨w.heap.size, 12, none⟩ = false := (bY.same cY).frozen 12
 have ec := (bY.same cY).c13
 have wZ : w2.frozen? ⟨w.heap.size, 13, none⟩ = false := (bY.same cY).frozen 13
 refine wpAnyV_one (i := 7) (by kernel_rfl) rfl (fun K hK => ?_)
 go_simp
 refine hK.out _ _ (fun h => absurd rfl h) ?_
 clear hK K
 refine wpAnyV_done (by kernel_rfl) ?_
 try simp only [Act.put, sA, s0, sS]
 have hz : Same w w2 := bg.trans cY
 go_wp2
 refine bodyPost_ret (v := .agg #[.int .i64 8, .int .i64 0, .int .i64 0, .int .i64 page, .int .i64 0, .bool false, .slice none 0 0, .bool false, .slice none 0 0, .int .i64 0, .int .i64 0, .slice none 0 0, .slice none 0 0, .slice cg i6 cm]) (by simp [results, Tryz.results75, go_sem, d0, d1, d2, d3, d4, d5, d6, d7, d8, d9, eh, eo, er, ec]) rfl ⟨rfl, ?_⟩
 exact ((((((((((((((hz.setCell (p := ⟨w.heap.size, 0, none⟩) (.inl (Nat.le_refl _)) _).setCell (p := ⟨w.heap.size, 1, none⟩) (.inl (Nat.le_refl _)) _).setCell (p := ⟨w.heap.size, 2, none⟩) (.inl (Nat.le_refl _)) _).setCell (p := ⟨w.heap.size, 3, none⟩) (.inl (Nat.le_refl _)) _).setCell (p := ⟨w.heap.size, 4, none⟩) (.inl (Nat.le_refl _)) _).setCell (p := ⟨w.heap.size, 5, none⟩) (.inl (Nat.le_refl _)) _).setCell (p := ⟨w.heap.size, 6, none⟩) (.inl (Nat.le_refl _)) _).setCell (p := ⟨w.heap.size, 7, none⟩) (.inl (Nat.le_refl _)) _).setCell (p := ⟨w.heap.size, 8, none⟩) (.inl (Nat.le_refl _)) _).setCell (p := ⟨w.heap.size, 9, none⟩) (.inl (Nat.le_refl _)) _).setCell (p := ⟨w.heap.size, 10, none⟩) (.inl (Nat.le_refl _)) _).setCell (p := ⟨w.heap.size, 11, none⟩) (.inl (Nat.le_refl _)) _).setCell (p := ⟨w.heap.size, 12, none⟩) (.inl (Nat.le_refl _)) _).setCell (p := ⟨w.heap.size, 13, none⟩) (.inl (Nat.le_refl _)) _)
end Go.Proofs.YtepdakgfioffgaaGreat
