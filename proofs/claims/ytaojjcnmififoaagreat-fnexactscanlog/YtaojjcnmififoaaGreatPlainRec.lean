import Derived.Test.YtaojjcnmififoaaGreatG16
import Derived.Test.YtaojjcnmififoaaGreatG08
namespace Go.Proofs.YtaojjcnmififoaaGreat
set_option maxRecDepth 100000
set_option maxHeartbeats 16000000
set_option linter.unusedVariables false
set_option linter.unusedSimpArgs false
open Go.RowKit
@[go_sem] theorem jgQ (v : Value) (w : World) : (Instr.typeAssert (.iface 144 v) 106 144 true).run Tryz.prog w = .ok (.tuple #[v, .bool true]) w := by kernel_rfl
@[go_sem] theorem jgR (v : Value) (w : World) : (Instr.typeAssert (.iface 146 v) 106 144 true).run Tryz.prog w = .ok (.tuple #[.agg #[.int .i64 0, .int .i64 0, .int .i64 0, .int .i64 0, .bool false, .slice none 0 0, .bool false, .slice none 0 0], .bool false]) w := by kernel_rfl
@[go_sem] theorem jgS (v : Value) (w : World) : (Instr.typeAssert (.iface 146 v) 106 146 true).run Tryz.prog w = .ok (.tuple #[v, .bool true]) w := by kernel_rfl
@[go_sem] theorem jgT (v : Value) (w : World) : (Instr.typeAssert (.iface 148 v) 106 144 true).run Tryz.prog w = .ok (.tuple #[.agg #[.int .i64 0, .int .i64 0, .int .i64 0, .int .i64 0, .bool false, .slice none 0 0, .bool false, .slice none 0 0], .bool false]) w := by kernel_rfl
@[go_sem] theorem jgU (v : Value) (w : World) : (Instr.typeAssert (.iface 148 v) 106 146 true).run Tryz.prog w = .ok (.tuple #[.agg #[.int .i64 0, .int .i64 0, .int .i64 0, .int .i64 0, .bool false, .slice none 0 0, .int .i64 0], .bool false]) w := by kernel_rfl
@[go_sem] theorem jgV (v : Value) (w : World) : (Instr.typeAssert (.iface 148 v) 106 148 true).run Tryz.prog w = .ok (.tuple #[v, .bool true]) w := by kernel_rfl
@[go_sem] theorem jgW (v : Value) (w : World) : (Instr.typeAssert (.iface 149 v) 106 144 true).run Tryz.prog w = .ok (.tuple #[.agg #[.int .i64 0, .int .i64 0, .int .i64 0, .int .i64 0, .bool false, .slice none 0 0, .bool false, .slice none 0 0], .bool false]) w := by kernel_rfl
@[go_sem] theorem jgX (v : Value) (w : World) : (Instr.typeAssert (.iface 149 v) 106 146 true).run Tryz.prog w = .ok (.tuple #[.agg #[.int .i64 0, .int .i64 0, .int .i64 0, .int .i64 0, .bool false, .slice none 0 0, .int .i64 0], .bool false]) w := by kernel_rfl
@[go_sem] theorem jgY (v : Value) (w : World) : (Instr.typeAssert (.iface 149 v) 106 148 true).run Tryz.prog w = .ok (.tuple #[.agg #[.int .i64 0, .int .i64 0], .bool false]) w := by kernel_rfl
@[go_sem] theorem jgZ (v : Value) (w : World) : (Instr.typeAssert (.iface 149 v) 106 149 true).run Tryz.prog w = .ok (.tuple #[v, .bool true]) w := by kernel_rfl
@[go_sem] theorem jg0 (v : Value) (w : World) : (Instr.typeAssert (.iface 150 v) 106 144 true).run Tryz.prog w = .ok (.tuple #[.agg #[.int .i64 0, .int .i64 0, .int .i64 0, .int .i64 0, .bool false, .slice none 0 0, .bool false, .slice none 0 0], .bool false]) w := by kernel_rfl
@[go_sem] theorem jg1 (v : Value) (w : World) : (Instr.typeAssert (.iface 150 v) 106 146 true).run Tryz.prog w = .ok (.tuple #[.agg #[.int .i64 0, .int .i64 0, .int .i64 0, .int .i64 0, .bool false, .slice none 0 0, .int .i64 0], .bool false]) w := by kernel_rfl
@[go_sem] theorem jg2 (v : Value) (w : World) : (Instr.typeAssert (.iface 150 v) 106 148 true).run Tryz.prog w = .ok (.tuple #[.agg #[.int .i64 0, .int .i64 0], .bool false]) w := by kernel_rfl
@[go_sem] theorem jg3 (v : Value) (w : World) : (Instr.typeAssert (.iface 150 v) 106 149 true).run Tryz.prog w = .ok (.tuple #[.agg #[.int .i64 0, .int .i64 0], .bool false]) w := by kernel_rfl
@[go_sem] theorem jg4 (v : Value) (w : World) : (Instr.typeAssert (.iface 150 v) 106 150 true).run Tryz.prog w = .ok (.tuple #[v, .bool true]) w := by kernel_rfl
@[go_sem] theorem jg5 (v : Value) (w : World) : (Instr.typeAssert (.iface 151 v) 106 144 true).run Tryz.prog w = .ok (.tuple #[.agg #[.int .i64 0, .int .i64 0, .int .i64 0, .int .i64 0, .bool false, .slice none 0 0, .bool false, .slice none 0 0], .bool false]) w := by kernel_rfl
@[go_sem] theorem jg6 (v : Value) (w : World) : (Instr.typeAssert (.iface 151 v) 106 146 true).run Tryz.prog w = .ok (.tuple #[.agg #[.int .i64 0, .int .i64 0, .int .i64 0, .int .i64 0, .bool false, .slice none 0 0, .int .i64 0], .bool false]) w := by kernel_rfl
@[go_sem] theorem jg7 (v : Value) (w : World) : (Instr.typeAssert (.iface 151 v) 106 148 true).run Tryz.prog w = .ok (.tuple #[.agg #[.int .i64 0, .int .i64 0], .bool false]) w := by kernel_rfl
@[go_sem] theorem jg8 (v : Value) (w : World) : (Instr.typeAssert (.iface 151 v) 106 149 true).run Tryz.prog w = .ok (.tuple #[.agg #[.int .i64 0, .int .i64 0], .bool false]) w := by kernel_rfl
@[go_sem] theorem jg9 (v : Value) (w : World) : (Instr.typeAssert (.iface 151 v) 106 150 true).run Tryz.prog w = .ok (.tuple #[.agg #[.int .i64 0, .int .i64 0], .bool false]) w := by kernel_rfl
@[go_sem] theorem jha (v : Value) (w : World) : (Instr.typeAssert (.iface 151 v) 106 151 true).run Tryz.prog w = .ok (.tuple #[v, .bool true]) w := by kernel_rfl
@[go_sem] theorem jhb (v : Value) (w : World) : (Instr.typeAssert (.iface 155 v) 106 144 true).run Tryz.prog w = .ok (.tuple #[.agg #[.int .i64 0, .int .i64 0, .int .i64 0, .int .i64 0, .bool false, .slice none 0 0, .bool false, .slice none 0 0], .bool false]) w := by kernel_rfl
@[go_sem] theorem jhc (v : Value) (w : World) : (Instr.typeAssert (.iface 155 v) 106 146 true).run Tryz.prog w = .ok (.tuple #[.agg #[.int .i64 0, .int .i64 0, .int .i64 0, .int .i64 0, .bool false, .slice none 0 0, .int .i64 0], .bool false]) w := by kernel_rfl
@[go_sem] theorem jhd (v : Value) (w : World) : (Instr.typeAssert (.iface 155 v) 106 148 true).run Tryz.prog w = .ok (.tuple #[.agg #[.int .i64 0, .int .i64 0], .bool false]) w := by kernel_rfl
@[go_sem] theorem jhe (v : Value) (w : World) : (Instr.typeAssert (.iface 155 v) 106 149 true).run Tryz.prog w = .ok (.tuple #[.agg #[.int .i64 0, .int .i64 0], .bool false]) w := by kernel_rfl
@[go_sem] theorem jhf (v : Value) (w : World) : (Instr.typeAssert (.iface 155 v) 106 150 true).run Tryz.prog w = .ok (.tuple #[.agg #[.int .i64 0, .int .i64 0], .bool false]) w := by kernel_rfl
@[go_sem] theorem jhg (v : Value) (w : World) : (Instr.typeAssert (.iface 155 v) 106 151 true).run Tryz.prog w = .ok (.tuple #[.agg #[.int .i64 0, .int .i64 0], .bool false]) w := by kernel_rfl
@[go_sem] theorem jhh (v : Value) (w : World) : (Instr.typeAssert (.iface 155 v) 106 155 true).run Tryz.prog w = .ok (.tuple #[v, .bool true]) w := by kernel_rfl
@[go_sem] theorem jhi (v : Value) (w : World) : (Instr.typeAssert (.iface 158 v) 106 144 true).run Tryz.prog w = .ok (.tuple #[.agg #[.int .i64 0, .int .i64 0, .int .i64 0, .int .i64 0, .bool false, .slice none 0 0, .bool false, .slice none 0 0], .bool false]) w := by kernel_rfl
@[go_sem] theorem jhj (v : Value) (w : World) : (Instr.typeAssert (.iface 158 v) 106 146 true).run Tryz.prog w = .ok (.tuple #[.agg #[.int .i64 0, .int .i64 0, .int .i64 0, .int .i64 0, .bool false, .slice none 0 0, .int .i64 0], .bool false]) w := by kernel_rfl
@[go_sem] theorem jhk (v : Value) (w : World) : (Instr.typeAssert (.iface 158 v) 106 148 true).run Tryz.prog w = .ok (.tuple #[.agg #[.int .i64 0, .int .i64 0], .bool false]) w := by kernel_rfl
@[go_sem] theorem jhl (v : Value) (w : World) : (Instr.typeAssert (.iface 158 v) 106 149 true).run Tryz.prog w = .ok (.tuple #[.agg #[.int .i64 0, .int .i64 0], .bool false]) w := by kernel_rfl
@[go_sem] theorem jhm (v : Value) (w : World) : (Instr.typeAssert (.iface 158 v) 106 150 true).run Tryz.prog w = .ok (.tuple #[.agg #[.int .i64 0, .int .i64 0], .bool false]) w := by kernel_rfl
@[go_sem] theorem jhn (v : Value) (w : World) : (Instr.typeAssert (.iface 158 v) 106 151 true).run Tryz.prog w = .ok (.tuple #[.agg #[.int .i64 0, .int .i64 0], .bool false]) w := by kernel_rfl
@[go_sem] theorem jho (v : Value) (w : World) : (Instr.typeAssert (.iface 158 v) 106 155 true).run Tryz.prog w = .ok (.tuple #[.agg #[.int .i64 0, .int .i64 0, .int .i64 0, .slice none 0 0, .slice none 0 0], .bool false]) w := by kernel_rfl
@[go_sem] theorem jhp (v : Value) (w : World) : (Instr.typeAssert (.iface 158 v) 106 158 true).run Tryz.prog w = .ok (.tuple #[v, .bool true]) w := by kernel_rfl
theorem jfx (v : Value) (txn prev page slot : Int) (bU : Bool) (bp : Option Addr) (eX bq : Nat) (aU : Bool) (bj : Option Addr) (er bk : Nat) (uN nT : Int) (bT : Option Addr) (aR bV : Nat) (bX : Option Addr) (a9 bW : Nat) (bw : Option Addr) (gC bD : Nat) (w : World) : Calls Tryz.prog 92 #[.agg #[.int .i64 txn, .int .i64 prev, .int .i64 page, .int .i64 slot, .bool bU, .slice bp eX bq, .bool aU, .slice bj er bk]] w fun e w' => e = .returned (.int .i64 1) ∧ Same w w' := by
 go_enter Tryz.func92, Tryz.ntmps92
 go_wp2
 go_ret
 exact ⟨rfl, kZ0.alloc _⟩
theorem jfy (v : Value) (txn prev page slot : Int) (bU : Bool) (bp : Option Addr) (eX bq : Nat) (aU : Bool) (bj : Option Addr) (er bk : Nat) (uN nT : Int) (bT : Option Addr) (aR bV : Nat) (bX : Option Addr) (a9 bW : Nat) (bw : Option Addr) (gC bD : Nat) (w : World) : Calls Tryz.prog 95 #[.agg #[.int .i64 txn, .int .i64 prev, .int .i64 page, .int .i64 slot, .bool aU, .slice bj er bk, .int .i64 uN]] w fun e w' => e = .returned (.int .i64 2) ∧ Same w w' := by
 go_enter Tryz.func95, Tryz.ntmps95
 go_wp2
 go_ret
 exact ⟨rfl, kZ0.alloc _⟩
theorem jfz (v : Value) (txn prev page slot : Int) (bU : Bool) (bp : Option Addr) (eX bq : Nat) (aU : Bool) (bj : Option Addr) (er bk : Nat) (uN nT : Int) (bT : Option Addr) (aR bV : Nat) (bX : Option Addr) (a9 bW : Nat) (bw : Option Addr) (gC bD : Nat) (w : World) : Calls Tryz.prog 96 #[.agg #[.int .i64 txn, .int .i64 prev]] w fun e w' => e = .returned (.int .i64 3) ∧ Same w w' := by
 go_enter Tryz.func96, Tryz.ntmps96
 go_wp2
 go_ret
 exact ⟨rfl, kZ0.alloc _⟩
theorem jfA (v : Value) (txn prev page slot : Int) (bU : Bool) (bp : Option Addr) (eX bq : Nat) (aU : Bool) (bj : Option Addr) (er bk : Nat) (uN nT : Int) (bT : Option Addr) (aR bV : Nat) (bX : Option Addr) (a9 bW : Nat) (bw : Option Addr) (gC bD : Nat) (w : World) : Calls Tryz.prog 97 #[.agg #[.int .i64 txn, .int .i64 prev]] w fun e w' => e = .returned (.int .i64 4) ∧ Same w w' := by
 go_enter Tryz.func97, Tryz.ntmps97
 go_wp2
 go_ret
 exact ⟨rfl, kZ0.alloc _⟩
theorem jfB (v : Value) (txn prev page slot : Int) (bU : Bool) (bp : Option Addr) (eX bq : Nat) (aU : Bool) (bj : Option Addr) (er bk : Nat) (uN nT : Int) (bT : Option Addr) (aR bV : Nat) (bX : Option Addr) (a9 bW : Nat) (bw : Option Addr) (gC bD : Nat) (w : World) : Calls Tryz.prog 98 #[.agg #[.int .i64 txn, .int .i64 prev]] w fun e w' => e = .returned (.int .i64 5) ∧ Same w w' := by
 go_enter Tryz.func98, Tryz.ntmps98
 go_wp2
 go_ret
 exact ⟨rfl, kZ0.alloc _⟩
theorem jfC (v : Value) (txn prev page slot : Int) (bU : Bool) (bp : Option Addr) (eX bq : Nat) (aU : Bool) (bj : Option Addr) (er bk : Nat) (uN nT : Int) (bT : Option Addr) (aR bV : Nat) (bX : Option Addr) (a9 bW : Nat) (bw : Option Addr) (gC bD : Nat) (w : World) : Calls Tryz.prog 99 #[.agg #[.int .i64 0, .int .i64 0]] w fun e w' => e = .returned (.int .i64 6) ∧ Same w w' := by
 go_enter Tryz.func99, Tryz.ntmps99
 go_wp2
 go_ret
 exact ⟨rfl, kZ0.alloc _⟩
theorem jfD (v : Value) (txn prev page slot : Int) (bU : Bool) (bp : Option Addr) (eX bq : Nat) (aU : Bool) (bj : Option Addr) (er bk : Nat) (uN nT : Int) (bT : Option Addr) (aR bV : Nat) (bX : Option Addr) (a9 bW : Nat) (bw : Option Addr) (gC bD : Nat) (w : World) : Calls Tryz.prog 100 #[.agg #[.int .i64 0, .int .i64 0, .int .i64 nT, .slice bT aR bV, .slice bX a9 bW]] w fun e w' => e = .returned (.int .i64 7) ∧ Same w w' := by
 go_enter Tryz.func100, Tryz.ntmps100
 go_wp2
 go_ret
 exact ⟨rfl, kZ0.alloc _⟩
theorem jfE (v : Value) (txn prev page slot : Int) (bU : Bool) (bp : Option Addr) (eX bq : Nat) (aU : Bool) (bj : Option Addr) (er bk : Nat) (uN nT : Int) (bT : Option Addr) (aR bV : Nat) (bX : Option Addr) (a9 bW : Nat) (bw : Option Addr) (gC bD : Nat) (w : World) : Calls Tryz.prog 101 #[.agg #[.int .i64 0, .int .i64 0, .int .i64 page, .slice bw gC bD]] w fun e w' => e = .returned (.int .i64 8) ∧ Same w w' := by
 go_enter Tryz.func101, Tryz.ntmps101
 go_wp2
 go_ret
 exact ⟨rfl, kZ0.alloc _⟩
theorem Rq (txn prev : Int) (w : World) : Calls Tryz.prog 93 #[.agg #[.int .i64 txn, .int .i64 prev]] w fun e w' => e = .returned (.int .i64 txn) ∧ Same w w' := by
 go_enter Tryz.func93, Tryz.ntmps93
 go_wp2
 go_ret
 exact ⟨rfl, kZ0.alloc _⟩
theorem Sc (txn prev : Int) (w : World) : Calls Tryz.prog 94 #[.agg #[.int .i64 txn, .int .i64 prev]] w fun e w' => e = .returned (.int .i64 prev) ∧ Same w w' := by
 go_enter Tryz.func94, Tryz.ntmps94
 go_wp2
 go_ret
 exact ⟨rfl, kZ0.alloc _⟩
theorem Zf (txn prev page slot : Int) (bU : Bool) (bp : Option Addr) (eX bq : Nat) (aU : Bool) (bj : Option Addr) (er bk : Nat) (uN nT : Int) (bT : Option Addr) (aR bV : Nat) (bX : Option Addr) (a9 bW : Nat) (bw : Option Addr) (gC bD : Nat) (w : World) : Calls Tryz.prog 72 #[.iface 144 (.agg #[.int .i64 txn, .int .i64 prev, .int .i64 page, .int .i64 slot, .bool bU, .slice bp eX bq, .bool aU, .slice bj er bk])] w fun e w' => e = .returned (.agg #[.int .i64 1, .int .i64 txn, .int .i64 prev, .int .i64 page, .int .i64 slot, .bool bU, .slice bp eX bq, .bool aU, .slice bj er bk, .int .i64 0, .int .i64 0, .slice none 0 0, .slice none 0 0, .slice none 0 0]) ∧ Same w w' := by
 have a8 := Blk.newA w [.int .i64 0, .int .i64 0, .int .i64 0, .int .i64 0, .int .i64 0, .bool false, .slice none 0 0, .bool false, .slice none 0 0, .int .i64 0, .int .i64 0, .slice none 0 0, .slice none 0 0, .slice none 0 0] 50 [.int .i64 txn, .int .i64 prev, .int .i64 page, .int .i64 slot, .bool bU, .slice bp eX bq, .bool aU, .slice bj er bk] 144
 have cN := Blk.newB w [.int .i64 0, .int .i64 0, .int .i64 0, .int .i64 0, .int .i64 0, .bool false, .slice none 0 0, .bool false, .slice none 0 0, .int .i64 0, .int .i64 0, .slice none 0 0, .slice none 0 0, .slice none 0 0] 50 [.int .i64 txn, .int .i64 prev, .int .i64 page, .int .i64 slot, .bool bU, .slice bp eX bq, .bool aU, .slice bj er bk] 144
 have aH : Same w ((w.alloc (.cells #[.int .i64 0, .int .i64 0, .int .i64 0, .int .i64 0, .int .i64 0, .bool false, .slice none 0 0, .bool false, .slice none 0 0, .int .i64 0, .int .i64 0, .slice none 0 0, .slice none 0 0, .slice none 0 0] 50)).alloc (.cells #[.int .i64 txn, .int .i64 prev, .int .i64 page, .int .i64 slot, .bool bU, .slice bp eX bq, .bool aU, .slice bj er bk] 144)) := (kZ0.alloc _).alloc _
 go_enter Tryz.func72, Tryz.ntmps72
 go_wp2_with fail
 obtain ⟨w1, fX⟩ : ∃ w1, ((w.alloc (.cells #[.int .i64 0, .int .i64 0, .int .i64 0, .int .i64 0, .int .i64 0, .bool false, .slice none 0 0, .bool false, .slice none 0 0, .int .i64 0, .int .i64 0, .slice none 0 0, .slice none 0 0, .slice none 0 0] 50)).alloc (.cells #[.int .i64 txn, .int .i64 prev, .int .i64 page, .int .i64 slot, .bool bU, .slice bp eX bq, .bool aU, .slice bj er bk] 144)) = w1 := ⟨_, rfl⟩
 rw [fX] at a8 cN aH ⊢
 clear fX
 let Y1 : World → Prop := fun wx : World => wx.cell? ⟨w.heap.size + 1, 0, none⟩ = some (.int .i64 txn) ∧ wx.cell? ⟨w.heap.size + 1, 1, none⟩ = some (.int .i64 prev) ∧ wx.cell? ⟨w.heap.size + 1, 2, none⟩ = some (.int .i64 page) ∧ wx.cell? ⟨w.heap.size + 1, 3, none⟩ = some (.int .i64 slot) ∧ wx.cell? ⟨w.heap.size + 1, 4, none⟩ = some (.bool bU) ∧ wx.cell? ⟨w.heap.size + 1, 5, none⟩ = some (.slice bp eX bq) ∧ wx.cell? ⟨w.heap.size + 1, 6, none⟩ = some (.bool aU) ∧ wx.cell? ⟨w.heap.size + 1, 7, none⟩ = some (.slice bj er bk)
 have bv : ∀ wx, Same w1 wx → Y1 wx := fun wx h => ⟨(cN.same h).cell 0, (cN.same h).cell 1, (cN.same h).cell 2, (cN.same h).cell 3, (cN.same h).cell 4, (cN.same h).cell 5, (cN.same h).cell 6, (cN.same h).cell 7⟩
 have hS : Y1 w1.drew := by exact bv _ kZ0.drew
 refine Q9 Y1 19 20 rfl (by kernel_rfl) ?_
 refine tk 0 15 hS ?_
 refine tk 2 17 hS ?_
 refine tk 3 18 hS ?_
 refine tk 5 20 hS ?_
 refine tk 6 21 hS ?_
 refine tk 8 23 hS ?_
 refine tk 9 24 hS ?_
 refine tk 10 25 hS ?_
 refine tk 11 26 hS ?_
 refine tk 12 27 hS ?_
 refine tk 13 28 hS ?_
 refine tk 14 29 hS ?_
 refine tk 15 30 hS ?_
 refine tk 16 31 hS ?_
 refine tk 17 32 hS ?_
 refine o1Q 1 (fun K hK => ?_)
 go_simp
 have hc := jfx undef txn prev page slot bU bp eX bq aU bj er bk uN nT bT aR bV bX a9 bW bw gC bD (w1.drew)
 with_reducible refine hc.mono ?_
 clear hc
 rintro e w2 ⟨rfl, aG⟩
 have bo : Same w1 w2 := Kept.trans (kZ0.drew) aG
 clear aG
 have hS : Y1 w2 := bv _ bo
 refine hK.out _ _ (fun _ => hS) ?_
 clear hK K
 try simp only [Act.put, sA, s0, sS]
 refine o1Q 4 (fun K hK => ?_)
 go_simp
 have hc := Rq txn prev (w2)
 with_reducible refine hc.mono ?_
 clear hc
 rintro e w3 ⟨rfl, aG⟩
 have eS : Same w1 w3 := Kept.trans (bo) aG
 clear aG
 have hS : Y1 w3 := bv _ eS
 refine hK.out _ _ (fun _ => hS) ?_
 clear hK K
 try simp only [Act.put, sA, s0, sS]
 refine o1Q 7 (fun K hK => ?_)
 go_simp
 have hc := Sc txn prev (w3)
 with_reducible refine hc.mono ?_
 clear hc
 rintro e w4 ⟨rfl, aG⟩
 have aO : Same w1 w4 := Kept.trans (eS) aG
 clear aG
 have hS : Y1 w4 := bv _ aO
 refine hK.out _ _ (fun _ => hS) ?_
 clear hK K
 try simp only [Act.put, sA, s0, sS]
 refine tk 18 33 hS ?_
 have d0 := (a8.same aO).c0
 have f0 : w4.frozen? ⟨w.heap.size, 0, none⟩ = false := (a8.same aO).frozen 0
 have d1 := (a8.same aO).c1
 have f1 : w4.frozen? ⟨w.heap.size, 1, none⟩ = false := (a8.same aO).frozen 1
 have d2 := (a8.same aO).c2
 have f2 : w4.frozen? ⟨w.heap.size, 2, none⟩ = false := (a8.same aO).frozen 2
 have d3 := (a8.same aO).c3
 have f3 : w4.frozen? ⟨w.heap.size, 3, none⟩ = false := (a8.same aO).frozen 3
 have d4 := (a8.same aO).c4
 have f4 : w4.frozen? ⟨w.heap.size, 4, none⟩ = false := (a8.same aO).frozen 4
 have d5 := (a8.same aO).c5
 have f5 : w4.frozen? ⟨w.heap.size, 5, none⟩ = false := (a8.same aO).frozen 5
 have d6 := (a8.same aO).c6
 have f6 : w4.frozen? ⟨w.heap.size, 6, none⟩ = false := (a8.same aO).frozen 6
 have d7 := (a8.same aO).c7
 have f7 : w4.frozen? ⟨w.heap.size, 7, none⟩ = false := (a8.same aO).frozen 7
 have d8 := (a8.same aO).c8
 have f8 : w4.frozen? ⟨w.heap.size, 8, none⟩ = false := (a8.same aO).frozen 8
 have d9 := (a8.same aO).c9
 have f9 : w4.frozen? ⟨w.heap.size, 9, none⟩ = false := (a8.same aO).frozen 9
 have cD := (a8.same aO).c10
 have uf : w4.frozen? ⟨w.heap.size, 10, none⟩ = false := (a8.same aO).frozen 10
 have cw := (a8.same aO).c11
 have t7 : w4.frozen? ⟨w.heap.size, 11, none⟩ = false := (a8.same aO).frozen 11
 have cA := (a8.same aO).c12
 have uS : w4.frozen? ⟨w.heap.size, 12, none⟩ = false := (a8.same aO).frozen 12
 have cC := (a8.same aO).c13
 have vD : w4.frozen? ⟨w.heap.size, 13, none⟩ = false := (a8.same aO).frozen 13
 refine o1Q 19 (fun K hK => ?_)
 go_simp
 refine hK.out _ _ (fun h => absurd rfl h) ?_
 clear hK K
 refine Q8 (by kernel_rfl) ?_
 try simp only [Act.put, sA, s0, sS]
 have hz : Same w w4 := aH.trans aO
 go_wp2
 refine bodyPost_ret (v := .agg #[.int .i64 1, .int .i64 txn, .int .i64 prev, .int .i64 page, .int .i64 slot, .bool bU, .slice bp eX bq, .bool aU, .slice bj er bk, .int .i64 0, .int .i64 0, .slice none 0 0, .slice none 0 0, .slice none 0 0]) (by simp [results, Tryz.results72, go_sem, d0, d1, d2, d3, d4, d5, d6, d7, d8, d9, cD, cw, cA, cC]) rfl ⟨rfl, ?_⟩
 exact ((((((((((((((hz.setCell (p := ⟨w.heap.size, 0, none⟩) (.inl (Nat.le_refl _)) _).setCell (p := ⟨w.heap.size, 1, none⟩) (.inl (Nat.le_refl _)) _).setCell (p := ⟨w.heap.size, 2, none⟩) (.inl (Nat.le_refl _)) _).setCell (p := ⟨w.heap.size, 3, none⟩) (.inl (Nat.le_refl _)) _).setCell (p := ⟨w.heap.size, 4, none⟩) (.inl (Nat.le_refl _)) _).setCell (p := ⟨w.heap.size, 5, none⟩) (.inl (Nat.le_refl _)) _).setCell (p := ⟨w.heap.size, 6, none⟩) (.inl (Nat.le_refl _)) _).setCell (p := ⟨w.heap.size, 7, none⟩) (.inl (Nat.le_refl _)) _).setCell (p := ⟨w.heap.size, 8, none⟩) (.inl (Nat.le_refl _)) _).setCell (p := ⟨w.heap.size, 9, none⟩) (.inl (Nat.le_refl _)) _).setCell (p := ⟨w.heap.size, 10, none⟩) (.inl (Nat.le_refl _)) _).setCell (p := ⟨w.heap.size, 11, none⟩) (.inl (Nat.le_refl _)) _).setCell (p := ⟨w.heap.size, 12, none⟩) (.inl (Nat.le_refl _)) _).setCell (p := ⟨w.heap.size, 13, none⟩) (.inl (Nat.le_refl _)) _)
theorem Zg (txn prev page slot : Int) (bU : Bool) (bp : Option Addr) (eX bq : Nat) (aU : Bool) (bj : Option Addr) (er bk : Nat) (uN nT : Int) (bT : Option Addr) (aR bV : Nat) (bX : Option Addr) (a9 bW : Nat) (bw : Option Addr) (gC bD : Nat) (w : World) : Calls Tryz.prog 72 #[.iface 146 (.agg #[.int .i64 txn, .int .i64 prev, .int .i64 page, .int .i64 slot, .bool aU, .slice bj er bk, .int .i64 uN])] w fun e w' => e = .returned (.agg #[.int .i64 2, .int .i64 txn, .int .i64 prev, .int .i64 page, .int .i64 slot, .bool false, .slice none 0 0, .bool aU, .slice bj er bk, .int .i64 uN, .int .i64 0, .slice none 0 0, .slice none 0 0, .slice none 0 0]) ∧ Same w w' := by
 have a8 := Blk.newA w [.int .i64 0, .int .i64 0, .int .i64 0, .int .i64 0, .int .i64 0, .bool false, .slice none 0 0, .bool false, .slice none 0 0, .int .i64 0, .int .i64 0, .slice none 0 0, .slice none 0 0, .slice none 0 0] 50 [.int .i64 txn, .int .i64 prev, .int .i64 page, .int .i64 slot, .bool aU, .slice bj er bk, .int .i64 uN] 146
 have cN := Blk.newB w [.int .i64 0, .int .i64 0, .int .i64 0, .int .i64 0, .int .i64 0, .bool false, .slice none 0 0, .bool false, .slice none 0 0, .int .i64 0, .int .i64 0, .slice none 0 0, .slice none 0 0, .slice none 0 0] 50 [.int .i64 txn, .int .i64 prev, .int .i64 page, .int .i64 slot, .bool aU, .slice bj er bk, .int .i64 uN] 146
 have aH : Same w ((w.alloc (.cells #[.int .i64 0, .int .i64 0, .int .i64 0, .int .i64 0, .int .i64 0, .bool false, .slice none 0 0, .bool false, .slice none 0 0, .int .i64 0, .int .i64 0, .slice none 0 0, .slice none 0 0, .slice none 0 0] 50)).alloc (.cells #[.int .i64 txn, .int .i64 prev, .int .i64 page, .int .i64 slot, .bool aU, .slice bj er bk, .int .i64 uN] 146)) := (kZ0.alloc _).alloc _
 go_enter Tryz.func72, Tryz.ntmps72
 go_wp2_with fail
 obtain ⟨w1, fX⟩ : ∃ w1, ((w.alloc (.cells #[.int .i64 0, .int .i64 0, .int .i64 0, .int .i64 0, .int .i64 0, .bool false, .slice none 0 0, .bool false, .slice none 0 0, .int .i64 0, .int .i64 0, .slice none 0 0, .slice none 0 0, .slice none 0 0] 50)).alloc (.cells #[.int .i64 txn, .int .i64 prev, .int .i64 page, .int .i64 slot, .bool aU, .slice bj er bk, .int .i64 uN] 146)) = w1 := ⟨_, rfl⟩
 rw [fX] at a8 cN aH ⊢
 clear fX
 let Y1 : World → Prop := fun wx : World => wx.cell? ⟨w.heap.size + 1, 0, none⟩ = some (.int .i64 txn) ∧ wx.cell? ⟨w.heap.size + 1, 1, none⟩ = some (.int .i64 prev) ∧ wx.cell? ⟨w.heap.size + 1, 2, none⟩ = some (.int .i64 page) ∧ wx.cell? ⟨w.heap.size + 1, 3, none⟩ = some (.int .i64 slot) ∧ wx.cell? ⟨w.heap.size + 1, 4, none⟩ = some (.bool aU) ∧ wx.cell? ⟨w.heap.size + 1, 5, none⟩ = some (.slice bj er bk) ∧ wx.cell? ⟨w.heap.size + 1, 6, none⟩ = some (.int .i64 uN)
 have bv : ∀ wx, Same w1 wx → Y1 wx := fun wx h => ⟨(cN.same h).cell 0, (cN.same h).cell 1, (cN.same h).cell 2, (cN.same h).cell 3, (cN.same h).cell 4, (cN.same h).cell 5, (cN.same h).cell 6⟩
 have hS : Y1 w1.drew := by exact bv _ kZ0.drew
 refine Q9 Y1 19 20 rfl (by kernel_rfl) ?_
 refine tk 0 37 hS ?_
 refine tk 2 39 hS ?_
 refine tk 3 40 hS ?_
 refine tk 5 42 hS ?_
 refine tk 6 43 hS ?_
 refine tk 8 45 hS ?_
 refine tk 9 46 hS ?_
 refine tk 10 47 hS ?_
 refine tk 11 48 hS ?_
 refine tk 12 49 hS ?_
 refine tk 13 50 hS ?_
 refine tk 14 51 hS ?_
 refine tk 15 52 hS ?_
 refine tk 16 53 hS ?_
 refine tk 17 54 hS ?_
 refine o1Q 1 (fun K hK => ?_)
 go_simp
 have hc := jfy undef txn prev page slot bU bp eX bq aU bj er bk uN nT bT aR bV bX a9 bW bw gC bD (w1.drew)
 with_reducible refine hc.mono ?_
 clear hc
 rintro e w2 ⟨rfl, aG⟩
 have bo : Same w1 w2 := Kept.trans (kZ0.drew) aG
 clear aG
 have hS : Y1 w2 := bv _ bo
 refine hK.out _ _ (fun _ => hS) ?_
 clear hK K
 try simp only [Act.put, sA, s0, sS]
 refine o1Q 4 (fun K hK => ?_)
 go_simp
 have hc := Rq txn prev (w2)
 with_reducible refine hc.mono ?_
 clear hc
 rintro e w3 ⟨rfl, aG⟩
 have eS : Same w1 w3 := Kept.trans (bo) aG
 clear aG
 have hS : Y1 w3 := bv _ eS
 refine hK.out _ _ (fun _ => hS) ?_
 clear hK K
 try simp only [Act.put, sA, s0, sS]
 refine o1Q 7 (fun K hK => ?_)
 go_simp
 have hc := Sc txn prev (w3)
 with_reducible refine hc.mono ?_
 clear hc
 rintro e w4 ⟨rfl, aG⟩
 have aO : Same w1 w4 := Kept.trans (eS) aG
 clear aG
 have hS : Y1 w4 := bv _ aO
 refine hK.out _ _ (fun _ => hS) ?_
 clear hK K
 try simp only [Act.put, sA, s0, sS]
 refine tk 18 55 hS ?_
 have d0 := (a8.same aO).c0
 have f0 : w4.frozen? ⟨w.heap.size, 0, none⟩ = false := (a8.same aO).frozen 0
 have d1 := (a8.same aO).c1
 have f1 : w4.frozen? ⟨w.heap.size, 1, none⟩ = false := (a8.same aO).frozen 1
 have d2 := (a8.same aO).c2
 have f2 : w4.frozen? ⟨w.heap.size, 2, none⟩ = false := (a8.same aO).frozen 2
 have d3 := (a8.same aO).c3
 have f3 : w4.frozen? ⟨w.heap.size, 3, none⟩ = false := (a8.same aO).frozen 3
 have d4 := (a8.same aO).c4
 have f4 : w4.frozen? ⟨w.heap.size, 4, none⟩ = false := (a8.same aO).frozen 4
 have d5 := (a8.same aO).c5
 have f5 : w4.frozen? ⟨w.heap.size, 5, none⟩ = false := (a8.same aO).frozen 5
 have d6 := (a8.same aO).c6
 have f6 : w4.frozen? ⟨w.heap.size, 6, none⟩ = false := (a8.same aO).frozen 6
 have d7 := (a8.same aO).c7
 have f7 : w4.frozen? ⟨w.heap.size, 7, none⟩ = false := (a8.same aO).frozen 7
 have d8 := (a8.same aO).c8
 have f8 : w4.frozen? ⟨w.heap.size, 8, none⟩ = false := (a8.same aO).frozen 8
 have d9 := (a8.same aO).c9
 have f9 : w4.frozen? ⟨w.heap.size, 9, none⟩ = false := (a8.same aO).frozen 9
 have cD := (a8.same aO).c10
 have uf : w4.frozen? ⟨w.heap.size, 10, none⟩ = false := (a8.same aO).frozen 10
 have cw := (a8.same aO).c11
 have t7 : w4.frozen? ⟨w.heap.size, 11, none⟩ = false := (a8.same aO).frozen 11
 have cA := (a8.same aO).c12
 have uS : w4.frozen? ⟨w.heap.size, 12, none⟩ = false := (a8.same aO).frozen 12
 have cC := (a8.same aO).c13
 have vD : w4.frozen? ⟨w.heap.size, 13, none⟩ = false := (a8.same aO).frozen 13
 refine o1Q 19 (fun K hK => ?_)
 go_simp
 refine hK.out _ _ (fun h => absurd rfl h) ?_
 clear hK K
 refine Q8 (by kernel_rfl) ?_
 try simp only [Act.put, sA, s0, sS]
 have hz : Same w w4 := aH.trans aO
 go_wp2
 refine bodyPost_ret (v := .agg #[.int .i64 2, .int .i64 txn, .int .i64 prev, .int .i64 page, .int .i64 slot, .bool false, .slice none 0 0, .bool aU, .slice bj er bk, .int .i64 uN, .int .i64 0, .slice none 0 0, .slice none 0 0, .slice none 0 0]) (by simp [results, Tryz.results72, go_sem, d0, d1, d2, d3, d4, d5, d6, d7, d8, d9, cD, cw, cA, cC]) rfl ⟨rfl, ?_⟩
 exact ((((((((((((((hz.setCell (p := ⟨w.heap.size, 0, none⟩) (.inl (Nat.le_refl _)) _).setCell (p := ⟨w.heap.size, 1, none⟩) (.inl (Nat.le_refl _)) _).setCell (p := ⟨w.heap.size, 2, none⟩) (.inl (Nat.le_refl _)) _).setCell (p := ⟨w.heap.size, 3, none⟩) (.inl (Nat.le_refl _)) _).setCell (p := ⟨w.heap.size, 4, none⟩) (.inl (Nat.le_refl _)) _).setCell (p := ⟨w.heap.size, 5, none⟩) (.inl (Nat.le_refl _)) _).setCell (p := ⟨w.heap.size, 6, none⟩) (.inl (Nat.le_refl _)) _).setCell (p := ⟨w.heap.size, 7, none⟩) (.inl (Nat.le_refl _)) _).setCell (p := ⟨w.heap.size, 8, none⟩) (.inl (Nat.le_refl _)) _).setCell (p := ⟨w.heap.size, 9, none⟩) (.inl (Nat.le_refl _)) _).setCell (p := ⟨w.heap.size, 10, none⟩) (.inl (Nat.le_refl _)) _).setCell (p := ⟨w.heap.size, 11, none⟩) (.inl (Nat.le_refl _)) _).setCell (p := ⟨w.heap.size, 12, none⟩) (.inl (Nat.le_refl _)) _).setCell (p := ⟨w.heap.size, 13, none⟩) (.inl (Nat.le_refl _)) _)
theorem Zh (txn prev page slot : Int) (bU : Bool) (bp : Option Addr) (eX bq : Nat) (aU : Bool) (bj : Option Addr) (er bk : Nat) (uN nT : Int) (bT : Option Addr) (aR bV : Nat) (bX : Option Addr) (a9 bW : Nat) (bw : Option Addr) (gC bD : Nat) (w : World) : Calls Tryz.prog 72 #[.iface 148 (.agg #[.int .i64 txn, .int .i64 prev])] w fun e w' => e = .returned (.agg #[.int .i64 3, .int .i64 txn, .int .i64 prev, .int .i64 0, .int .i64 0, .bool false, .slice none 0 0, .bool false, .slice none 0 0, .int .i64 0, .int .i64 0, .slice none 0 0, .slice none 0 0, .slice none 0 0]) ∧ Same w w' := by
 have a8 := Blk.newA w [.int .i64 0, .int .i64 0, .int .i64 0, .int .i64 0, .int .i64 0, .bool false, .slice none 0 0, .bool false, .slice none 0 0, .int .i64 0, .int .i64 0, .slice none 0 0, .slice none 0 0, .slice none 0 0] 50 [.int .i64 txn, .int .i64 prev] 148
 have cN := Blk.newB w [.int .i64 0, .int .i64 0, .int .i64 0, .int .i64 0, .int .i64 0, .bool false, .slice none 0 0, .bool false, .slice none 0 0, .int .i64 0, .int .i64 0, .slice none 0 0, .slice none 0 0, .slice none 0 0] 50 [.int .i64 txn, .int .i64 prev] 148
 have aH : Same w ((w.alloc (.cells #[.int .i64 0, .int .i64 0, .int .i64 0, .int .i64 0, .int .i64 0, .bool false, .slice none 0 0, .bool false, .slice none 0 0, .int .i64 0, .int .i64 0, .slice none 0 0, .slice none 0 0, .slice none 0 0] 50)).alloc (.cells #[.int .i64 txn, .int .i64 prev] 148)) := (kZ0.alloc _).alloc _
 go_enter Tryz.func72, Tryz.ntmps72
 go_wp2_with fail
 obtain ⟨w1, fX⟩ : ∃ w1, ((w.alloc (.cells #[.int .i64 0, .int .i64 0, .int .i64 0, .int .i64 0, .int .i64 0, .bool false, .slice none 0 0, .bool false, .slice none 0 0, .int .i64 0, .int .i64 0, .slice none 0 0, .slice none 0 0, .slice none 0 0] 50)).alloc (.cells #[.int .i64 txn, .int .i64 prev] 148)) = w1 := ⟨_, rfl⟩
 rw [fX] at a8 cN aH ⊢
 clear fX
 let Y1 : World → Prop := fun wx : World => wx.cell? ⟨w.heap.size + 1, 0, none⟩ = some (.int .i64 txn) ∧ wx.cell? ⟨w.heap.size + 1, 1, none⟩ = some (.int .i64 prev)
 have bv : ∀ wx, Same w1 wx → Y1 wx := fun wx h => ⟨(cN.same h).cell 0, (cN.same h).cell 1⟩
 have hS : Y1 w1.drew := by exact bv _ kZ0.drew
 refine Q9 Y1 9 10 rfl (by kernel_rfl) ?_
 refine tk 0 59 hS ?_
 refine tk 2 61 hS ?_
 refine tk 3 62 hS ?_
 refine tk 5 64 hS ?_
 refine tk 6 65 hS ?_
 refine o1Q 1 (fun K hK => ?_)
 go_simp
 have hc := jfz undef txn prev page slot bU bp eX bq aU bj er bk uN nT bT aR bV bX a9 bW bw gC bD (w1.drew)
 with_reducible refine hc.mono ?_
 clear hc
 rintro e w2 ⟨rfl, aG⟩
 have bo : Same w1 w2 := Kept.trans (kZ0.drew) aG
 clear aG
 have hS : Y1 w2 := bv _ bo
 refine hK.out _ _ (fun _ => hS) ?_
 clear hK K
 try simp only [Act.put, sA, s0, sS]
 refine o1Q 4 (fun K hK => ?_)
 go_simp
 have hc := Rq txn prev (w2)
 with_reducible refine hc.mono ?_
 clear hc
 rintro e w3 ⟨rfl, aG⟩
 have eS : Same w1 w3 := Kept.trans (bo) aG
 clear aG
 have hS : Y1 w3 := bv _ eS
 refine hK.out _ _ (fun _ => hS) ?_
 clear hK K
 try simp only [Act.put, sA, s0, sS]
 refine o1Q 7 (fun K hK => ?_)
 go_simp
 have hc := Sc txn prev (w3)
 with_reducible refine hc.mono ?_
 clear hc
 rintro e w4 ⟨rfl, aG⟩
 have aO : Same w1 w4 := Kept.trans (eS) aG
 clear aG
 have hS : Y1 w4 := bv _ aO
 refine hK.out _ _ (fun _ => hS) ?_
 clear hK K
 try simp only [Act.put, sA, s0, sS]
 refine tk 8 67 hS ?_
 have d0 := (a8.same aO).c0
 have f0 : w4.frozen? ⟨w.heap.size, 0, none⟩ = false := (a8.same aO).frozen 0
 have d1 := (a8.same aO).c1
 have f1 : w4.frozen? ⟨w.heap.size, 1, none⟩ = false := (a8.same aO).frozen 1
 have d2 := (a8.same aO).c2
 have f2 : w4.frozen? ⟨w.heap.size, 2, none⟩ = false := (a8.same aO).frozen 2
 have d3 := (a8.same aO).c3
 have f3 : w4.frozen? ⟨w.heap.size, 3, none⟩ = false := (a8.same aO).frozen 3
 have d4 := (a8.same aO).c4
 have f4 : w4.frozen? ⟨w.heap.size, 4, none⟩ = false := (a8.same aO).frozen 4
 have d5 := (a8.same aO).c5
 have f5 : w4.frozen? ⟨w.heap.size, 5, none⟩ = false := (a8.same aO).frozen 5
 have d6 := (a8.same aO).c6
 have f6 : w4.frozen? ⟨w.heap.size, 6, none⟩ = false := (a8.same aO).frozen 6
 have d7 := (a8.same aO).c7
 have f7 : w4.frozen? ⟨w.heap.size, 7, none⟩ = false := (a8.same aO).frozen 7
 have d8 := (a8.same aO).c8
 have f8 : w4.frozen? ⟨w.heap.size, 8, none⟩ = false := (a8.same aO).frozen 8
 have d9 := (a8.same aO).c9
 have f9 : w4.frozen? ⟨w.heap.size, 9, none⟩ = false := (a8.same aO).frozen 9
 have cD := (a8.same aO).c10
 have uf : w4.frozen? ⟨w.heap.size, 10, none⟩ = false := (a8.same aO).frozen 10
 have cw := (a8.same aO).c11
 have t7 : w4.frozen? ⟨w.heap.size, 11, none⟩ = false := (a8.same aO).frozen 11
 have cA := (a8.same aO).c12
 have uS : w4.frozen? ⟨w.heap.size, 12, none⟩ = false := (a8.same aO).frozen 12
 have cC := (a8.same aO).c13
 have vD : w4.frozen? ⟨w.heap.size, 13, none⟩ = false := (a8.same aO).frozen 13
 refine o1Q 9 (fun K hK => ?_)
 go_simp
 refine hK.out _ _ (fun h => absurd rfl h) ?_
 clear hK K
 refine Q8 (by kernel_rfl) ?_
 try simp only [Act.put, sA, s0, sS]
 have hz : Same w w4 := aH.trans aO
 go_wp2
 refine bodyPost_ret (v := .agg #[.int .i64 3, .int .i64 txn, .int .i64 prev, .int .i64 0, .int .i64 0, .bool false, .slice none 0 0, .bool false, .slice none 0 0, .int .i64 0, .int .i64 0, .slice none 0 0, .slice none 0 0, .slice none 0 0]) (by simp [results, Tryz.results72, go_sem, d0, d1, d2, d3, d4, d5, d6, d7, d8, d9, cD, cw, cA, cC]) rfl ⟨rfl, ?_⟩
 exact ((((((((((((((hz.setCell (p := ⟨w.heap.size, 0, none⟩) (.inl (Nat.le_refl _)) _).setCell (p := ⟨w.heap.size, 1, none⟩) (.inl (Nat.le_refl _)) _).setCell (p := ⟨w.heap.size, 2, none⟩) (.inl (Nat.le_refl _)) _).setCell (p := ⟨w.heap.size, 3, none⟩) (.inl (Nat.le_refl _)) _).setCell (p := ⟨w.heap.size, 4, none⟩) (.inl (Nat.le_refl _)) _).setCell (p := ⟨w.heap.size, 5, none⟩) (.inl (Nat.le_refl _)) _).setCell (p := ⟨w.heap.size, 6, none⟩) (.inl (Nat.le_refl _)) _).setCell (p := ⟨w.heap.size, 7, none⟩) (.inl (Nat.le_refl _)) _).setCell (p := ⟨w.heap.size, 8, none⟩) (.inl (Nat.le_refl _)) _).setCell (p := ⟨w.heap.size, 9, none⟩) (.inl (Nat.le_refl _)) _).setCell (p := ⟨w.heap.size, 10, none⟩) (.inl (Nat.le_refl _)) _).setCell (p := ⟨w.heap.size, 11, none⟩) (.inl (Nat.le_refl _)) _).setCell (p := ⟨w.heap.size, 12, none⟩) (.inl (Nat.le_refl _)) _).setCell (p := ⟨w.heap.size, 13, none⟩) (.inl (Nat.le_refl _)) _)
theorem Zi (txn prev page slot : Int) (bU : Bool) (bp : Option Addr) (eX bq : Nat) (aU : Bool) (bj : Option Addr) (er bk : Nat) (uN nT : Int) (bT : Option Addr) (aR bV : Nat) (bX : Option Addr) (a9 bW : Nat) (bw : Option Addr) (gC bD : Nat) (w : World) : Calls Tryz.prog 72 #[.iface 149 (.agg #[.int .i64 txn, .int .i64 prev])] w fun e w' => e = .returned (.agg #[.int .i64 4, .int .i64 txn, .int .i64 prev, .int .i64 0, .int .i64 0, .bool false, .slice none 0 0, .bool false, .slice none 0 0, .int .i64 0, .int .i64 0, .slice none 0 0, .slice none 0 0, .slice none 0 0]) ∧ Same w w' := by
 have a8 := Blk.newA w [.int .i64 0, .int .i64 0, .int .i64 0, .int .i64 0, .int .i64 0, .bool false, .slice none 0 0, .bool false, .slice none 0 0, .int .i64 0, .int .i64 0, .slice none 0 0, .slice none 0 0, .slice none 0 0] 50 [.int .i64 txn, .int .i64 prev] 149
 have cN := Blk.newB w [.int .i64 0, .int .i64 0, .int .i64 0, .int .i64 0, .int .i64 0, .bool false, .slice none 0 0, .bool false, .slice none 0 0, .int .i64 0, .int .i64 0, .slice none 0 0, .slice none 0 0, .slice none 0 0] 50 [.int .i64 txn, .int .i64 prev] 149
 have aH : Same w ((w.alloc (.cells #[.int .i64 0, .int .i64 0, .int .i64 0, .int .i64 0, .int .i64 0, .bool false, .slice none 0 0, .bool false, .slice none 0 0, .int .i64 0, .int .i64 0, .slice none 0 0, .slice none 0 0, .slice none 0 0] 50)).alloc (.cells #[.int .i64 txn, .int .i64 prev] 149)) := (kZ0.alloc _).alloc _
 go_enter Tryz.func72, Tryz.ntmps72
 go_wp2_with fail
 obtain ⟨w1, fX⟩ : ∃ w1, ((w.alloc (.cells #[.int .i64 0, .int .i64 0, .int .i64 0, .int .i64 0, .int .i64 0, .bool false, .slice none 0 0, .bool false, .slice none 0 0, .int .i64 0, .int .i64 0, .slice none 0 0, .slice none 0 0, .slice none 0 0] 50)).alloc (.cells #[.int .i64 txn, .int .i64 prev] 149)) = w1 := ⟨_, rfl⟩
 rw [fX] at a8 cN aH ⊢
 clear fX
 let Y1 : World → Prop := fun wx : World => wx.cell? ⟨w.heap.size + 1, 0, none⟩ = some (.int .i64 txn) ∧ wx.cell? ⟨w.heap.size + 1, 1, none⟩ = some (.int .i64 prev)
 have bv : ∀ wx, Same w1 wx → Y1 wx := fun wx h => ⟨(cN.same h).cell 0, (cN.same h).cell 1⟩
 have hS : Y1 w1.drew := by exact bv _ kZ0.drew
 refine Q9 Y1 9 10 rfl (by kernel_rfl) ?_
 refine tk 0 71 hS ?_
 refine tk 2 73 hS ?_
 refine tk 3 74 hS ?_
 refine tk 5 76 hS ?_
 refine tk 6 77 hS ?_
 refine o1Q 1 (fun K hK => ?_)
 go_simp
 have hc := jfA undef txn prev page slot bU bp eX bq aU bj er bk uN nT bT aR bV bX a9 bW bw gC bD (w1.drew)
 with_reducible refine hc.mono ?_
 clear hc
 rintro e w2 ⟨rfl, aG⟩
 have bo : Same w1 w2 := Kept.trans (kZ0.drew) aG
 clear aG
 have hS : Y1 w2 := bv _ bo
 refine hK.out _ _ (fun _ => hS) ?_
 clear hK K
 try simp only [Act.put, sA, s0, sS]
 refine o1Q 4 (fun K hK => ?_)
 go_simp
 have hc := Rq txn prev (w2)
 with_reducible refine hc.mono ?_
 clear hc
 rintro e w3 ⟨rfl, aG⟩
 have eS : Same w1 w3 := Kept.trans (bo) aG
 clear aG
 have hS : Y1 w3 := bv _ eS
 refine hK.out _ _ (fun _ => hS) ?_
 clear hK K
 try simp only [Act.put, sA, s0, sS]
 refine o1Q 7 (fun K hK => ?_)
 go_simp
 have hc := Sc txn prev (w3)
 with_reducible refine hc.mono ?_
 clear hc
 rintro e w4 ⟨rfl, aG⟩
 have aO : Same w1 w4 := Kept.trans (eS) aG
 clear aG
 have hS : Y1 w4 := bv _ aO
 refine hK.out _ _ (fun _ => hS) ?_
 clear hK K
 try simp only [Act.put, sA, s0, sS]
 refine tk 8 79 hS ?_
 have d0 := (a8.same aO).c0
 have f0 : w4.frozen? ⟨w.heap.size, 0, none⟩ = false := (a8.same aO).frozen 0
 have d1 := (a8.same aO).c1
 have f1 : w4.frozen? ⟨w.heap.size, 1, none⟩ = false := (a8.same aO).frozen 1
 have d2 := (a8.same aO).c2
 have f2 : w4.frozen? ⟨w.heap.size, 2, none⟩ = false := (a8.same aO).frozen 2
 have d3 := (a8.same aO).c3
 have f3 : w4.frozen? ⟨w.heap.size, 3, none⟩ = false := (a8.same aO).frozen 3
 have d4 := (a8.same aO).c4
 have f4 : w4.frozen? ⟨w.heap.size, 4, none⟩ = false := (a8.same aO).frozen 4
 have d5 := (a8.same aO).c5
 have f5 : w4.frozen? ⟨w.heap.size, 5, none⟩ = false := (a8.same aO).frozen 5
 have d6 := (a8.same aO).c6
 have f6 : w4.frozen? ⟨w.heap.size, 6, none⟩ = false := (a8.same aO).frozen 6
 have d7 := (a8.same aO).c7
 have f7 : w4.frozen? ⟨w.heap.size, 7, none⟩ = false := (a8.same aO).frozen 7
 have d8 := (a8.same aO).c8
 have f8 : w4.frozen? ⟨w.heap.size, 8, none⟩ = false := (a8.same aO).frozen 8
 have d9 := (a8.same aO).c9
 have f9 : w4.frozen? ⟨w.heap.size, 9, none⟩ = false := (a8.same aO).frozen 9
 have cD := (a8.same aO).c10
 have uf : w4.frozen? ⟨w.heap.size, 10, none⟩ = false := (a8.same aO).frozen 10
 have cw := (a8.same aO).c11
 have t7 : w4.frozen? ⟨w.heap.size, 11, none⟩ = false := (a8.same aO).frozen 11
 have cA := (a8.same aO).c12
 have uS : w4.frozen? ⟨w.heap.size, 12, none⟩ = false := (a8.same aO).frozen 12
 have cC := (a8.same aO).c13
 have vD : w4.frozen? ⟨w.heap.size, 13, none⟩ = false := (a8.same aO).frozen 13
 refine o1Q 9 (fun K hK => ?_)
 go_simp
 refine hK.out _ _ (fun h => absurd rfl h) ?_
 clear hK K
 refine Q8 (by kernel_rfl) ?_
 try simp only [Act.put, sA, s0, sS]
 have hz : Same w w4 := aH.trans aO
 go_wp2
 refine bodyPost_ret (v := .agg #[.int .i64 4, .int .i64 txn, .int .i64 prev, .int .i64 0, .int .i64 0, .bool false, .slice none 0 0, .bool false, .slice none 0 0, .int .i64 0, .int .i64 0, .slice none 0 0, .slice none 0 0, .slice none 0 0]) (by simp [results, Tryz.results72, go_sem, d0, d1, d2, d3, d4, d5, d6, d7, d8, d9, cD, cw, cA, cC]) rfl ⟨rfl, ?_⟩
 exact ((((((((((((((hz.setCell (p := ⟨w.heap.size, 0, none⟩) (.inl (Nat.le_refl _)) _).setCell (p := ⟨w.heap.size, 1, none⟩) (.inl (Nat.le_refl _)) _).setCell (p := ⟨w.heap.size, 2, none⟩) (.inl (Nat.le_refl _)) _).setCell (p := ⟨w.heap.size, 3, none⟩) (.inl (Nat.le_refl _)) _).setCell (p := ⟨w.heap.size, 4, none⟩) (.inl (Nat.le_refl _)) _).setCell (p := ⟨w.heap.size, 5, none⟩) (.inl (Nat.le_refl _)) _).setCell (p := ⟨w.heap.size, 6, none⟩) (.inl (Nat.le_refl _)) _).setCell (p := ⟨w.heap.size, 7, none⟩) (.inl (Nat.le_refl _)) _).setCell (p := ⟨w.heap.size, 8, none⟩) (.inl (Nat.le_refl _)) _).setCell (p := ⟨w.heap.size, 9, none⟩) (.inl (Nat.le_refl _)) _).setCell (p := ⟨w.heap.size, 10, none⟩) (.inl (Nat.le_refl _)) _).setCell (p := ⟨w.heap.size, 11, none⟩) (.inl (Nat.le_refl _)) _).setCell (p := ⟨w.heap.size, 12, none⟩) (.inl (Nat.le_refl _)) _).setCell (p := ⟨w.heap.size, 13, none⟩) (.inl (Nat.le_refl _)) _)
theorem Zj (txn prev page slot : Int) (bU : Bool) (bp : Option Addr) (eX bq : Nat) (aU : Bool) (bj : Option Addr) (er bk : Nat) (uN nT : Int) (bT : Option Addr) (aR bV : Nat) (bX : Option Addr) (a9 bW : Nat) (bw : Option Addr) (gC bD : Nat) (w : World) : Calls Tryz.prog 72 #[.iface 150 (.agg #[.int .i64 txn, .int .i64 prev])] w fun e w' => e = .returned (.agg #[.int .i64 5, .int .i64 txn, .int .i64 prev, .int .i64 0, .int .i64 0, .bool false, .slice none 0 0, .bool false, .slice none 0 0, .int .i64 0, .int .i64 0, .slice none 0 0, .slice none 0 0, .slice none 0 0]) ∧ Same w w' := by
 have a8 := Blk.newA w [.int .i64 0, .int .i64 0, .int .i64 0, .int .i64 0, .int .i64 0, .bool false, .slice none 0 0, .bool false, .slice none 0 0, .int .i64 0, .int .i64 0, .slice none 0 0, .slice none 0 0, .slice none 0 0] 50 [.int .i64 txn, .int .i64 prev] 150
 have cN := Blk.newB w [.int .i64 0, .int .i64 0, .int .i64 0, .int .i64 0, .int .i64 0, .bool false, .slice none 0 0, .bool false, .slice none 0 0, .int .i64 0, .int .i64 0, .slice none 0 0, .slice none 0 0, .slice none 0 0] 50 [.int .i64 txn, .int .i64 prev] 150
 have aH : Same w ((w.alloc (.cells #[.int .i64 0, .int .i64 0, .int .i64 0, .int .i64 0, .int .i64 0, .bool false, .slice none 0 0, .bool false, .slice none 0 0, .int .i64 0, .int .i64 0, .slice none 0 0, .slice none 0 0, .slice none 0 0] 50)).alloc (.cells #[.int .i64 txn, .int .i64 prev] 150)) := (kZ0.alloc _).alloc _
 go_enter Tryz.func72, Tryz.ntmps72
 go_wp2_with fail
 obtain ⟨w1, fX⟩ : ∃ w1, ((w.alloc (.cells #[.int .i64 0, .int .i64 0, .int .i64 0, .int .i64 0, .int .i64 0, .bool false, .slice none 0 0, .bool false, .slice none 0 0, .int .i64 0, .int .i64 0, .slice none 0 0, .slice none 0 0, .slice none 0 0] 50)).alloc (.cells #[.int .i64 txn, .int .i64 prev] 150)) = w1 := ⟨_, rfl⟩
 rw [fX] at a8 cN aH ⊢
 clear fX
 let Y1 : World → Prop := fun wx : World => wx.cell? ⟨w.heap.size + 1, 0, none⟩ = some (.int .i64 txn) ∧ wx.cell? ⟨w.heap.size + 1, 1, none⟩ = some (.int .i64 prev)
 have bv : ∀ wx, Same w1 wx → Y1 wx := fun wx h => ⟨(cN.same h).cell 0, (cN.same h).cell 1⟩
 have hS : Y1 w1.drew := by exact bv _ kZ0.drew
 refine Q9 Y1 9 10 rfl (by kernel_rfl) ?_
 refine tk 0 83 hS ?_
 refine tk 2 85 hS ?_
 refine tk 3 86 hS ?_
 refine tk 5 88 hS ?_
 refine tk 6 89 hS ?_
 refine o1Q 1 (fun K hK => ?_)
 go_simp
 have hc := jfB undef txn prev page slot bU bp eX bq aU bj er bk uN nT bT aR bV bX a9 bW bw gC bD (w1.drew)
 with_reducible refine hc.mono ?_
 clear hc
 rintro e w2 ⟨rfl, aG⟩
 have bo : Same w1 w2 := Kept.trans (kZ0.drew) aG
 clear aG
 have hS : Y1 w2 := bv _ bo
 refine hK.out _ _ (fun _ => hS) ?_
 clear hK K
 try simp only [Act.put, sA, s0, sS]
 refine o1Q 4 (fun K hK => ?_)
 go_simp
 have hc := Rq txn prev (w2)
 with_reducible refine hc.mono ?_
 clear hc
 rintro e w3 ⟨rfl, aG⟩
 have eS : Same w1 w3 := Kept.trans (bo) aG
 clear aG
 have hS : Y1 w3 := bv _ eS
 refine hK.out _ _ (fun _ => hS) ?_
 clear hK K
 try simp only [Act.put, sA, s0, sS]
 refine o1Q 7 (fun K hK => ?_)
 go_simp
 have hc := Sc txn prev (w3)
 with_reducible refine hc.mono ?_
 clear hc
 rintro e w4 ⟨rfl, aG⟩
 have aO : Same w1 w4 := Kept.trans (eS) aG
 clear aG
 have hS : Y1 w4 := bv _ aO
 refine hK.out _ _ (fun _ => hS) ?_
 clear hK K
 try simp only [Act.put, sA, s0, sS]
 refine tk 8 91 hS ?_
 have d0 := (a8.same aO).c0
 have f0 : w4.frozen? ⟨w.heap.size, 0, none⟩ = false := (a8.same aO).frozen 0
 have d1 := (a8.same aO).c1
 have f1 : w4.frozen? ⟨w.heap.size, 1, none⟩ = false := (a8.same aO).frozen 1
 have d2 := (a8.same aO).c2
 have f2 : w4.frozen? ⟨w.heap.size, 2, none⟩ = false := (a8.same aO).frozen 2
 have d3 := (a8.same aO).c3
 have f3 : w4.frozen? ⟨w.heap.size, 3, none⟩ = false := (a8.same aO).frozen 3
 have d4 := (a8.same aO).c4
 have f4 : w4.frozen? ⟨w.heap.size, 4, none⟩ = false := (a8.same aO).frozen 4
 have d5 := (a8.same aO).c5
 have f5 : w4.frozen? ⟨w.heap.size, 5, none⟩ = false := (a8.same aO).frozen 5
 have d6 := (a8.same aO).c6
 have f6 : w4.frozen? ⟨w.heap.size, 6, none⟩ = false := (a8.same aO).frozen 6
 have d7 := (a8.same aO).c7
 have f7 : w4.frozen? ⟨w.heap.size, 7, none⟩ = false := (a8.same aO).frozen 7
 have d8 := (a8.same aO).c8
 have f8 : w4.frozen? ⟨w.heap.size, 8, none⟩ = false := (a8.same aO).frozen 8
 have d9 := (a8.same aO).c9
 have f9 : w4.frozen? ⟨w.heap.size, 9, none⟩ = false := (a8.same aO).frozen 9
 have cD := (a8.same aO).c10
 have uf : w4.frozen? ⟨w.heap.size, 10, none⟩ = false := (a8.same aO).frozen 10
 have cw := (a8.same aO).c11
 have t7 : w4.frozen? ⟨w.heap.size, 11, none⟩ = false := (a8.same aO).frozen 11
 have cA := (a8.same aO).c12
 have uS : w4.frozen? ⟨w.heap.size, 12, none⟩ = false := (a8.same aO).frozen 12
 have cC := (a8.same aO).c13
 have vD : w4.frozen? ⟨w.heap.size, 13, none⟩ = false := (a8.same aO).frozen 13
 refine o1Q 9 (fun K hK => ?_)
 go_simp
 refine hK.out _ _ (fun h => absurd rfl h) ?_
 clear hK K
 refine Q8 (by kernel_rfl) ?_
 try simp only [Act.put, sA, s0, sS]
 have hz : Same w w4 := aH.trans aO
 go_wp2
 refine bodyPost_ret (v := .agg #[.int .i64 5, .int .i64 txn, .int .i64 prev, .int .i64 0, .int .i64 0, .bool false, .slice none 0 0, .bool false, .slice none 0 0, .int .i64 0, .int .i64 0, .slice none 0 0, .slice none 0 0, .slice none 0 0]) (by simp [results, Tryz.results72, go_sem, d0, d1, d2, d3, d4, d5, d6, d7, d8, d9, cD, cw, cA, cC]) rfl ⟨rfl, ?_⟩
 exact ((((((((((((((hz.setCell (p := ⟨w.heap.size, 0, none⟩) (.inl (Nat.le_refl _)) _).setCell (p := ⟨w.heap.size, 1, none⟩) (.inl (Nat.le_refl _)) _).setCell (p := ⟨w.heap.size, 2, none⟩) (.inl (Nat.le_refl _)) _).setCell (p := ⟨w.heap.size, 3, none⟩) (.inl (Nat.le_refl _)) _).setCell (p := ⟨w.heap.size, 4, none⟩) (.inl (Nat.le_refl _)) _).setCell (p := ⟨w.heap.size, 5, none⟩) (.inl (Nat.le_refl _)) _).setCell (p := ⟨w.heap.size, 6, none⟩) (.inl (Nat.le_refl _)) _).setCell (p := ⟨w.heap.size, 7, none⟩) (.inl (Nat.le_refl _)) _).setCell (p := ⟨w.heap.size, 8, none⟩) (.inl (Nat.le_refl _)) _).setCell (p := ⟨w.heap.size, 9, none⟩) (.inl (Nat.le_refl _)) _).setCell (p := ⟨w.heap.size, 10, none⟩) (.inl (Nat.le_refl _)) _).setCell (p := ⟨w.heap.size, 11, none⟩) (.inl (Nat.le_refl _)) _).setCell (p := ⟨w.heap.size, 12, none⟩) (.inl (Nat.le_refl _)) _).setCell (p := ⟨w.heap.size, 13, none⟩) (.inl (Nat.le_refl _)) _)
theorem Zk (txn prev page slot : Int) (bU : Bool) (bp : Option Addr) (eX bq : Nat) (aU : Bool) (bj : Option Addr) (er bk : Nat) (uN nT : Int) (bT : Option Addr) (aR bV : Nat) (bX : Option Addr) (a9 bW : Nat) (bw : Option Addr) (gC bD : Nat) (w : World) : Calls Tryz.prog 72 #[.iface 151 (.agg #[.int .i64 0, .int .i64 0])] w fun e w' => e = .returned (.agg #[.int .i64 6, .int .i64 0, .int .i64 0, .int .i64 0, .int .i64 0, .bool false, .slice none 0 0, .bool false, .slice none 0 0, .int .i64 0, .int .i64 0, .slice none 0 0, .slice none 0 0, .slice none 0 0]) ∧ Same w w' := by
 have a8 := Blk.newA w [.int .i64 0, .int .i64 0, .int .i64 0, .int .i64 0, .int .i64 0, .bool false, .slice none 0 0, .bool false, .slice none 0 0, .int .i64 0, .int .i64 0, .slice none 0 0, .slice none 0 0, .slice none 0 0] 50 [.int .i64 0, .int .i64 0] 151
 have cN := Blk.newB w [.int .i64 0, .int .i64 0, .int .i64 0, .int .i64 0, .int .i64 0, .bool false, .slice none 0 0, .bool false, .slice none 0 0, .int .i64 0, .int .i64 0, .slice none 0 0, .slice none 0 0, .slice none 0 0] 50 [.int .i64 0, .int .i64 0] 151
 have aH : Same w ((w.alloc (.cells #[.int .i64 0, .int .i64 0, .int .i64 0, .int .i64 0, .int .i64 0, .bool false, .slice none 0 0, .bool false, .slice none 0 0, .int .i64 0, .int .i64 0, .slice none 0 0, .slice none 0 0, .slice none 0 0] 50)).alloc (.cells #[.int .i64 0, .int .i64 0] 151)) := (kZ0.alloc _).alloc _
 go_enter Tryz.func72, Tryz.ntmps72
 go_wp2_with fail
 refine (jfC undef txn prev page slot bU bp eX bq aU bj er bk uN nT bT aR bV bX a9 bW bw gC bD _).mono ?_
 rintro e w2 ⟨rfl, aN⟩
 have d0 := (a8.same aN).c0
 have f0 : w2.frozen? ⟨w.heap.size, 0, none⟩ = false := (a8.same aN).frozen 0
 have d1 := (a8.same aN).c1
 have f1 : w2.frozen? ⟨w.heap.size, 1, none⟩ = false := (a8.same aN).frozen 1
 have d2 := (a8.same aN).c2
 have f2 : w2.frozen? ⟨w.heap.size, 2, none⟩ = false := (a8.same aN).frozen 2
 have d3 := (a8.same aN).c3
 have f3 : w2.frozen? ⟨w.heap.size, 3, none⟩ = false := (a8.same aN).frozen 3
 have d4 := (a8.same aN).c4
 have f4 : w2.frozen? ⟨w.heap.size, 4, none⟩ = false := (a8.same aN).frozen 4
 have d5 := (a8.same aN).c5
 have f5 : w2.frozen? ⟨w.heap.size, 5, none⟩ = false := (a8.same aN).frozen 5
 have d6 := (a8.same aN).c6
 have f6 : w2.frozen? ⟨w.heap.size, 6, none⟩ = false := (a8.same aN).frozen 6
 have d7 := (a8.same aN).c7
 have f7 : w2.frozen? ⟨w.heap.size, 7, none⟩ = false := (a8.same aN).frozen 7
 have d8 := (a8.same aN).c8
 have f8 : w2.frozen? ⟨w.heap.size, 8, none⟩ = false := (a8.same aN).frozen 8
 have d9 := (a8.same aN).c9
 have f9 : w2.frozen? ⟨w.heap.size, 9, none⟩ = false := (a8.same aN).frozen 9
 have cD := (a8.same aN).c10
 have uf : w2.frozen? ⟨w.heap.size, 10, none⟩ = false := (a8.same aN).frozen 10
 have cw := (a8.same aN).c11
 have t7 : w2.frozen? ⟨w.heap.size, 11, none⟩ = false := (a8.same aN).frozen 11
 have cA := (a8.same aN).c12
 have uS : w2.frozen? ⟨w.heap.size, 12, none⟩ = false := (a8.same aN).frozen 12
 have cC := (a8.same aN).c13
 have vD : w2.frozen? ⟨w.heap.size, 13, none⟩ = false := (a8.same aN).frozen 13
 have hz : Same w w2 := aH.trans aN
 go_wp2
 refine bodyPost_ret (v := .agg #[.int .i64 6, .int .i64 0, .int .i64 0, .int .i64 0, .int .i64 0, .bool false, .slice none 0 0, .bool false, .slice none 0 0, .int .i64 0, .int .i64 0, .slice none 0 0, .slice none 0 0, .slice none 0 0]) (by simp [results, Tryz.results72, go_sem, d0, d1, d2, d3, d4, d5, d6, d7, d8, d9, cD, cw, cA, cC]) rfl ⟨rfl, ?_⟩
 exact ((((((((((((((hz.setCell (p := ⟨w.heap.size, 0, none⟩) (.inl (Nat.le_refl _)) _).setCell (p := ⟨w.heap.size, 1, none⟩) (.inl (Nat.le_refl _)) _).setCell (p := ⟨w.heap.size, 2, none⟩) (.inl (Nat.le_refl _)) _).setCell (p := ⟨w.heap.size, 3, none⟩) (.inl (Nat.le_refl _)) _).setCell (p := ⟨w.heap.size, 4, none⟩) (.inl (Nat.le_refl _)) _).setCell (p := ⟨w.heap.size, 5, none⟩) (.inl (Nat.le_refl _)) _).setCell (p := ⟨w.heap.size, 6, none⟩) (.inl (Nat.le_refl _)) _).setCell (p := ⟨w.heap.size, 7, none⟩) (.inl (Nat.le_refl _)) _).setCell (p := ⟨w.heap.size, 8, none⟩) (.inl (Nat.le_refl _)) _).setCell (p := ⟨w.heap.size, 9, none⟩) (.inl (Nat.le_refl _)) _).setCell (p := ⟨w.heap.size, 10, none⟩) (.inl (Nat.le_refl _)) _).setCell (p := ⟨w.heap.size, 11, none⟩) (.inl (Nat.le_refl _)) _).setCell (p := ⟨w.heap.size, 12, none⟩) (.inl (Nat.le_refl _)) _).setCell (p := ⟨w.heap.size, 13, none⟩) (.inl (Nat.le_refl _)) _)
theorem Zl (txn prev page slot : Int) (bU : Bool) (bp : Option Addr) (eX bq : Nat) (aU : Bool) (bj : Option Addr) (er bk : Nat) (uN nT : Int) (bT : Option Addr) (aR bV : Nat) (bX : Option Addr) (a9 bW : Nat) (bw : Option Addr) (gC bD : Nat) (w : World) : Calls Tryz.prog 72 #[.iface 155 (.agg #[.int .i64 0, .int .i64 0, .int .i64 nT, .slice bT aR bV, .slice bX a9 bW])] w fun e w' => e = .returned (.agg #[.int .i64 7, .int .i64 0, .int .i64 0, .int .i64 0, .int .i64 0, .bool false, .slice none 0 0, .bool false, .slice none 0 0, .int .i64 0, .int .i64 nT, .slice bT aR bV, .slice bX a9 bW, .slice none 0 0]) ∧ Same w w' := by
 have a8 := Blk.newA w [.int .i64 0, .int .i64 0, .int .i64 0, .int .i64 0, .int .i64 0, .bool false, .slice none 0 0, .bool false, .slice none 0 0, .int .i64 0, .int .i64 0, .slice none 0 0, .slice none 0 0, .slice none 0 0] 50 [.int .i64 0, .int .i64 0, .int .i64 nT, .slice bT aR bV, .slice bX a9 bW] 155
 have cN := Blk.newB w [.int .i64 0, .int .i64 0, .int .i64 0, .int .i64 0, .int .i64 0, .bool false, .slice none 0 0, .bool false, .slice none 0 0, .int .i64 0, .int .i64 0, .slice none 0 0, .slice none 0 0, .slice none 0 0] 50 [.int .i64 0, .int .i64 0, .int .i64 nT, .slice bT aR bV, .slice bX a9 bW] 155
 have aH : Same w ((w.alloc (.cells #[.int .i64 0, .int .i64 0, .int .i64 0, .int .i64 0, .int .i64 0, .bool false, .slice none 0 0, .bool false, .slice none 0 0, .int .i64 0, .int .i64 0, .slice none 0 0, .slice none 0 0, .slice none 0 0] 50)).alloc (.cells #[.int .i64 0, .int .i64 0, .int .i64 nT, .slice bT aR bV, .slice bX a9 bW] 155)) := (kZ0.alloc _).alloc _
 go_enter Tryz.func72, Tryz.ntmps72
 go_wp2_with fail
 obtain ⟨w1, fX⟩ : ∃ w1, ((w.alloc (.cells #[.int .i64 0, .int .i64 0, .int .i64 0, .int .i64 0, .int .i64 0, .bool false, .slice none 0 0, .bool false, .slice none 0 0, .int .i64 0, .int .i64 0, .slice none 0 0, .slice none 0 0, .slice none 0 0] 50)).alloc (.cells #[.int .i64 0, .int .i64 0, .int .i64 nT, .slice bT aR bV, .slice bX a9 bW] 155)) = w1 := ⟨_, rfl⟩
 rw [fX] at a8 cN aH ⊢
 clear fX
 let Y1 : World → Prop := fun wx : World => wx.cell? ⟨w.heap.size + 1, 0, none⟩ = some (.int .i64 0) ∧ wx.cell? ⟨w.heap.size + 1, 1, none⟩ = some (.int .i64 0) ∧ wx.cell? ⟨w.heap.size + 1, 2, none⟩ = some (.int .i64 nT) ∧ wx.cell? ⟨w.heap.size + 1, 3, none⟩ = some (.slice bT aR bV) ∧ wx.cell? ⟨w.heap.size + 1, 4, none⟩ = some (.slice bX a9 bW)
 have bv : ∀ wx, Same w1 wx → Y1 wx := fun wx h => ⟨(cN.same h).cell 0, (cN.same h).cell 1, (cN.same h).cell 2, (cN.same h).cell 3, (cN.same h).cell 4⟩
 have hS : Y1 w1.drew := by exact bv _ kZ0.drew
 refine Q9 Y1 9 10 rfl (by kernel_rfl) ?_
 refine tk 0 101 hS ?_
 refine tk 2 103 hS ?_
 refine tk 3 104 hS ?_
 refine tk 4 105 hS ?_
 refine tk 5 106 hS ?_
 refine tk 6 107 hS ?_
 refine tk 7 108 hS ?_
 refine o1Q 1 (fun K hK => ?_)
 go_simp
 have hc := jfD undef txn prev page slot bU bp eX bq aU bj er bk uN nT bT aR bV bX a9 bW bw gC bD (w1.drew)
 with_reducible refine hc.mono ?_
 clear hc
 rintro e w2 ⟨rfl, aG⟩
 have bo : Same w1 w2 := Kept.trans (kZ0.drew) aG
 clear aG
 have hS : Y1 w2 := bv _ bo
 refine hK.out _ _ (fun _ => hS) ?_
 clear hK K
 try simp only [Act.put, sA, s0, sS]
 refine tk 8 109 hS ?_
 have d0 := (a8.same bo).c0
 have f0 : w2.frozen? ⟨w.heap.size, 0, none⟩ = false := (a8.same bo).frozen 0
 have d1 := (a8.same bo).c1
 have f1 : w2.frozen? ⟨w.heap.size, 1, none⟩ = false := (a8.same bo).frozen 1
 have d2 := (a8.same bo).c2
 have f2 : w2.frozen? ⟨w.heap.size, 2, none⟩ = false := (a8.same bo).frozen 2
 have d3 := (a8.same bo).c3
 have f3 : w2.frozen? ⟨w.heap.size, 3, none⟩ = false := (a8.same bo).frozen 3
 have d4 := (a8.same bo).c4
 have f4 : w2.frozen? ⟨w.heap.size, 4, none⟩ = false := (a8.same bo).frozen 4
 have d5 := (a8.same bo).c5
 have f5 : w2.frozen? ⟨w.heap.size, 5, none⟩ = false := (a8.same bo).frozen 5
 have d6 := (a8.same bo).c6
 have f6 : w2.frozen? ⟨w.heap.size, 6, none⟩ = false := (a8.same bo).frozen 6
 have d7 := (a8.same bo).c7
 have f7 : w2.frozen? ⟨w.heap.size, 7, none⟩ = false := (a8.same bo).frozen 7
 have d8 := (a8.same bo).c8
 have f8 : w2.frozen? ⟨w.heap.size, 8, none⟩ = false := (a8.same bo).frozen 8
 have d9 := (a8.same bo).c9
 have f9 : w2.frozen? ⟨w.heap.size, 9, none⟩ = false := (a8.same bo).frozen 9
 have cD := (a8.same bo).c10
 have uf : w2.frozen? ⟨w.heap.size, 10, none⟩ = false := (a8.same bo).frozen 10
 have cw := (a8.same bo).c11
 have t7 : w2.frozen? ⟨w.heap.size, 11, none⟩ = false := (a8.same bo).frozen 11
 have cA := (a8.same bo).c12
 have uS : w2.frozen? ⟨w.heap.size, 12, none⟩ = false := (a8.same bo).frozen 12
 have cC := (a8.same bo).c13
 have vD : w2.frozen? ⟨w.heap.size, 13, none⟩ = false := (a8.same bo).frozen 13
 refine o1Q 9 (fun K hK => ?_)
 go_simp
 refine hK.out _ _ (fun h => absurd rfl h) ?_
 clear hK K
 refine Q8 (by kernel_rfl) ?_
 try simp only [Act.put, sA, s0, sS]
 have hz : Same w w2 := aH.trans bo
 go_wp2
 refine bodyPost_ret (v := .agg #[.int .i64 7, .int .i64 0, .int .i64 0, .int .i64 0, .int .i64 0, .bool false, .slice none 0 0, .bool false, .slice none 0 0, .int .i64 0, .int .i64 nT, .slice bT aR bV, .slice bX a9 bW, .slice none 0 0]) (by simp [results, Tryz.results72, go_sem, d0, d1, d2, d3, d4, d5, d6, d7, d8, d9, cD, cw, cA, cC]) rfl ⟨rfl, ?_⟩
 exact ((((((((((((((hz.setCell (p := ⟨w.heap.size, 0, none⟩) (.inl (Nat.le_refl _)) _).setCell (p := ⟨w.heap.size, 1, none⟩) (.inl (Nat.le_refl _)) _).setCell (p := ⟨w.heap.size, 2, none⟩) (.inl (Nat.le_refl _)) _).setCell (p := ⟨w.heap.size, 3, none⟩) (.inl (Nat.le_refl _)) _).setCell (p := ⟨w.heap.size, 4, none⟩) (.inl (Nat.le_refl _)) _).setCell (p := ⟨w.heap.size, 5, none⟩) (.inl (Nat.le_refl _)) _).setCell (p := ⟨w.heap.size, 6, none⟩) (.inl (Nat.le_refl _)) _).setCell (p := ⟨w.heap.size, 7, none⟩) (.inl (Nat.le_refl _)) _).setCell (p := ⟨w.heap.size, 8, none⟩) (.inl (Nat.le_refl _)) _).setCell (p := ⟨w.heap.size, 9, none⟩) (.inl (Nat.le_refl _)) _).setCell (p := ⟨w.heap.size, 10, none⟩) (.inl (Nat.le_refl _)) _).setCell (p := ⟨w.heap.size, 11, none⟩) (.inl (Nat.le_refl _)) _).setCell (p := ⟨w.heap.size, 12, none⟩) (.inl (Nat.le_refl _)) _).setCell (p := ⟨w.heap.size, 13, none⟩) (.inl (Nat.le_refl _)) _)
theorem Zm (txn prev page slot : Int) (bU : Bool) (bp : Option Addr) (eX bq : Nat) (aU : Bool) (bj : Option Addr) (er bk : Nat) (uN nT : Int) (bT : Option Addr) (aR bV : Nat) (bX : Option Addr) (a9 bW : Nat) (bw : Option Addr) (gC bD : Nat) (w : World) : Calls Tryz.prog 72 #[.iface 158 (.agg #[.int .i64 0, .int .i64 0, .int .i64 page, .slice bw gC bD])] w fun e w' => e = .returned (.agg #[.int .i64 8, .int .i64 0, .int .i64 0, .int .i64 page, .int .i64 0, .bool false, .slice none 0 0, .bool false, .slice none 0 0, .int .i64 0, .int .i64 0, .slice none 0 0, .slice none 0 0, .slice bw gC bD]) ∧ Same w w' := by
 have a8 := Blk.newA w [.int .i64 0, .int .i64 0, .int .i64 0, .int .i64 0, .int .i64 0, .bool false, .slice none 0 0, .bool false, .slice none 0 0, .int .i64 0, .int .i64 0, .slice none 0 0, .slice none 0 0, .slice none 0 0] 50 [.int .i64 0, .int .i64 0, .int .i64 page, .slice bw gC bD] 158
 have cN := Blk.newB w [.int .i64 0, .int .i64 0, .int .i64 0, .int .i64 0, .int .i64 0, .bool false, .slice none 0 0, .bool false, .slice none 0 0, .int .i64 0, .int .i64 0, .slice none 0 0, .slice none 0 0, .slice none 0 0] 50 [.int .i64 0, .int .i64 0, .int .i64 page, .slice bw gC bD] 158
 have aH : Same w ((w.alloc (.cells #[.int .i64 0, .int .i64 0, .int .i64 0, .int .i64 0, .int .i64 0, .bool false, .slice none 0 0, .bool false, .slice none 0 0, .int .i64 0, .int .i64 0, .slice none 0 0, .slice none 0 0, .slice none 0 0] 50)).alloc (.cells #[.int .i64 0, .int .i64 0, .int .i64 page, .slice bw gC bD] 158)) := (kZ0.alloc _).alloc _
 go_enter Tryz.func72, Tryz.ntmps72
 go_wp2_with fail
 obtain ⟨w1, fX⟩ : ∃ w1, ((w.alloc (.cells #[.int .i64 0, .int .i64 0, .int .i64 0, .int .i64 0, .int .i64 0, .bool false, .slice none 0 0, .bool false, .slice none 0 0, .int .i64 0, .int .i64 0, .slice none 0 0, .slice none 0 0, .slice none 0 0] 50)).alloc (.cells #[.int .i64 0, .int .i64 0, .int .i64 page, .slice bw gC bD] 158)) = w1 := ⟨_, rfl⟩
 rw [fX] at a8 cN aH ⊢
 clear fX
 let Y1 : World → Prop := fun wx : World => wx.cell? ⟨w.heap.size + 1, 0, none⟩ = some (.int .i64 0) ∧ wx.cell? ⟨w.heap.size + 1, 1, none⟩ = some (.int .i64 0) ∧ wx.cell? ⟨w.heap.size + 1, 2, none⟩ = some (.int .i64 page) ∧ wx.cell? ⟨w.heap.size + 1, 3, none⟩ = some (.slice bw gC bD)
 have bv : ∀ wx, Same w1 wx → Y1 wx := fun wx h => ⟨(cN.same h).cell 0, (cN.same h).cell 1, (cN.same h).cell 2, (cN.same h).cell 3⟩
 have hS : Y1 w1.drew := by exact bv _ kZ0.drew
 refine Q9 Y1 7 8 rfl (by kernel_rfl) ?_
 refine tk 0 113 hS ?_
 refine tk 2 115 hS ?_
 refine tk 3 116 hS ?_
 refine tk 4 117 hS ?_
 refine tk 5 118 hS ?_
 refine o1Q 1 (fun K hK => ?_)
 go_simp
 have hc := jfE undef txn prev page slot bU bp eX bq aU bj er bk uN nT bT aR bV bX a9 bW bw gC bD (w1.drew)
 with_reducible refine hc.mono ?_
 clear hc
 rintro e w2 ⟨rfl, aG⟩
 have bo : Same w1 w2 := Kept.trans (kZ0.drew) aG
 clear aG
 have hS : Y1 w2 := bv _ bo
 refine hK.out _ _ (fun _ => hS) ?_
 clear hK K
 try simp only [Act.put, sA, s0, sS]
 refine tk 6 119 hS ?_
 have d0 := (a8.same bo).c0
 have f0 : w2.frozen? ⟨w.heap.size, 0, none⟩ = false := (a8.same bo).frozen 0
 have d1 := (a8.same bo).c1
 have f1 : w2.frozen? ⟨w.heap.size, 1, none⟩ = false := (a8.same bo).frozen 1
 have d2 := (a8.same bo).c2
 have f2 : w2.frozen? ⟨w.heap.size, 2, none⟩ = false := (a8.same bo).frozen 2
 have d3 := (a8.same bo).c3
 have f3 : w2.frozen? ⟨w.heap.size, 3, none⟩ = false := (a8.same bo).frozen 3
 have d4 := (a8.same bo).c4
 have f4 : w2.frozen? ⟨w.heap.size, 4, none⟩ = false := (a8.same bo).frozen 4
 have d5 := (a8.same bo).c5
 have f5 : w2.frozen? ⟨w.heap.size, 5, none⟩ = false := (a8.same bo).frozen 5
 have d6 := (a8.same bo).c6
 have f6 : w2.frozen? ⟨w.heap.size, 6, none⟩ = false := (a8.same bo).frozen 6
 have d7 := (a8.same bo).c7
 have f7 : w2.frozen? ⟨w.heap.size, 7, none⟩ = false := (a8.same bo).frozen 7
 have d8 := (a8.same bo).c8
 have f8 : w2.frozen? ⟨w.heap.size, 8, none⟩ = false := (a8.same bo).frozen 8
 have d9 := (a8.same bo).c9
 have f9 : w2.frozen? ⟨w.heap.size, 9, none⟩ = false := (a8.same bo).frozen 9
 have cD := (a8.same bo).c10
 have uf : w2.frozen? ⟨w.heap.size, 10, none⟩ = false := (a8.same bo).frozen 10
 have cw := (a8.same bo).c11
 have t7 : w2.frozen? ⟨w.heap.size, 11, none⟩ = false := (a8.same bo).frozen 11
 have cA := (a8.same bo).c12
 have uS : w2.frozen? ⟨w.heap.size, 12, none⟩ = false := (a8.same bo).frozen 12
 have cC := (a8.same bo).c13
 have vD : w2.frozen? ⟨w.heap.size, 13, none⟩ = false := (a8.same bo).frozen 13
 refine o1Q 7 (fun K hK => ?_)
 go_simp
 refine hK.out _ _ (fun h => absurd rfl h) ?_
 clear hK K
 refine Q8 (by kernel_rfl) ?_
 try simp only [Act.put, sA, s0, sS]
 have hz : Same w w2 := aH.trans bo
 go_wp2
 refine bodyPost_ret (v := .agg #[.int .i64 8, .int .i64 0, .int .i64 0, .int .i64 page, .int .i64 0, .bool false, .slice none 0 0, .bool false, .slice none 0 0, .int .i64 0, .int .i64 0, .slice none 0 0, .slice none 0 0, .slice bw gC bD]) (by simp [results, Tryz.results72, go_sem, d0, d1, d2, d3, d4, d5, d6, d7, d8, d9, cD, cw, cA, cC]) rfl ⟨rfl, ?_⟩
 exact ((((((((((((((hz.setCell (p := ⟨w.heap.size, 0, none⟩) (.inl (Nat.le_refl _)) _).setCell (p := ⟨w.heap.size, 1, none⟩) (.inl (Nat.le_refl _)) _).setCell (p := ⟨w.heap.size, 2, none⟩) (.inl (Nat.le_refl _)) _).setCell (p := ⟨w.heap.size, 3, none⟩) (.inl (Nat.le_refl _)) _).setCell (p := ⟨w.heap.size, 4, none⟩) (.inl (Nat.le_refl _)) _).setCell (p := ⟨w.heap.size, 5, none⟩) (.inl (Nat.le_refl _)) _).setCell (p := ⟨w.heap.size, 6, none⟩) (.inl (Nat.le_refl _)) _).setCell (p := ⟨w.heap.size, 7, none⟩) (.inl (Nat.le_refl _)) _).setCell (p := ⟨w.heap.size, 8, none⟩) (.inl (Nat.le_refl _)) _).setCell (p := ⟨w.heap.size, 9, none⟩) (.inl (Nat.le_refl _)) _).setCell (p := ⟨w.heap.size, 10, none⟩) (.inl (Nat.le_refl _)) _).setCell (p := ⟨w.heap.size, 11, none⟩) (.inl (Nat.le_refl _)) _).setCell (p := ⟨w.heap.size, 12, none⟩) (.inl (Nat.le_refl _)) _).setCell (p := ⟨w.heap.size, 13, none⟩) (.inl (Nat.le_refl _)) _)
end Go.Proofs.YtaojjcnmififoaaGreat
