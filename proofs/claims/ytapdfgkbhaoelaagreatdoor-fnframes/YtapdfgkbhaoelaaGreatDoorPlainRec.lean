import Derived.Test.YtapdfgkbhaoelaaGreatDoorG09
namespace Go.Proofs.YtapdfgkbhaoelaaGreatDoor
set_option maxRecDepth 100000
set_option maxHeartbeats 16000000
set_option linter.unusedVariables false
set_option linter.unusedSimpArgs false
open Go.RowKit
@[go_sem] theorem jgm (v : Value) (w : World) : (Instr.typeAssert (.iface 104 v) 61 104 true).run Tryz.prog w = .ok (.tuple #[v, .bool true]) w := by kernel_rfl
@[go_sem] theorem jgn (v : Value) (w : World) : (Instr.typeAssert (.iface 106 v) 61 104 true).run Tryz.prog w = .ok (.tuple #[.agg #[Q1 0, Q1 0, Q1 0, Q1 0, .bool false, Q4, .bool false, Q4], .bool false]) w := by kernel_rfl
@[go_sem] theorem jgo (v : Value) (w : World) : (Instr.typeAssert (.iface 106 v) 61 106 true).run Tryz.prog w = .ok (.tuple #[v, .bool true]) w := by kernel_rfl
@[go_sem] theorem jgp (v : Value) (w : World) : (Instr.typeAssert (.iface 108 v) 61 104 true).run Tryz.prog w = .ok (.tuple #[.agg #[Q1 0, Q1 0, Q1 0, Q1 0, .bool false, Q4, .bool false, Q4], .bool false]) w := by kernel_rfl
@[go_sem] theorem jgq (v : Value) (w : World) : (Instr.typeAssert (.iface 108 v) 61 106 true).run Tryz.prog w = .ok (.tuple #[.agg #[Q1 0, Q1 0, Q1 0, Q1 0, .bool false, Q4, Q1 0], .bool false]) w := by kernel_rfl
@[go_sem] theorem jgr (v : Value) (w : World) : (Instr.typeAssert (.iface 108 v) 61 108 true).run Tryz.prog w = .ok (.tuple #[v, .bool true]) w := by kernel_rfl
@[go_sem] theorem jgs (v : Value) (w : World) : (Instr.typeAssert (.iface 109 v) 61 104 true).run Tryz.prog w = .ok (.tuple #[.agg #[Q1 0, Q1 0, Q1 0, Q1 0, .bool false, Q4, .bool false, Q4], .bool false]) w := by kernel_rfl
@[go_sem] theorem jgt (v : Value) (w : World) : (Instr.typeAssert (.iface 109 v) 61 106 true).run Tryz.prog w = .ok (.tuple #[.agg #[Q1 0, Q1 0, Q1 0, Q1 0, .bool false, Q4, Q1 0], .bool false]) w := by kernel_rfl
@[go_sem] theorem jgu (v : Value) (w : World) : (Instr.typeAssert (.iface 109 v) 61 108 true).run Tryz.prog w = .ok (.tuple #[.agg #[Q1 0, Q1 0], .bool false]) w := by kernel_rfl
@[go_sem] theorem jgv (v : Value) (w : World) : (Instr.typeAssert (.iface 109 v) 61 109 true).run Tryz.prog w = .ok (.tuple #[v, .bool true]) w := by kernel_rfl
@[go_sem] theorem jgw (v : Value) (w : World) : (Instr.typeAssert (.iface 110 v) 61 104 true).run Tryz.prog w = .ok (.tuple #[.agg #[Q1 0, Q1 0, Q1 0, Q1 0, .bool false, Q4, .bool false, Q4], .bool false]) w := by kernel_rfl
@[go_sem] theorem jgx (v : Value) (w : World) : (Instr.typeAssert (.iface 110 v) 61 106 true).run Tryz.prog w = .ok (.tuple #[.agg #[Q1 0, Q1 0, Q1 0, Q1 0, .bool false, Q4, Q1 0], .bool false]) w := by kernel_rfl
@[go_sem] theorem jgy (v : Value) (w : World) : (Instr.typeAssert (.iface 110 v) 61 108 true).run Tryz.prog w = .ok (.tuple #[.agg #[Q1 0, Q1 0], .bool false]) w := by kernel_rfl
@[go_sem] theorem jgz (v : Value) (w : World) : (Instr.typeAssert (.iface 110 v) 61 109 true).run Tryz.prog w = .ok (.tuple #[.agg #[Q1 0, Q1 0], .bool false]) w := by kernel_rfl
@[go_sem] theorem jgA (v : Value) (w : World) : (Instr.typeAssert (.iface 110 v) 61 110 true).run Tryz.prog w = .ok (.tuple #[v, .bool true]) w := by kernel_rfl
@[go_sem] theorem jgB (v : Value) (w : World) : (Instr.typeAssert (.iface 111 v) 61 104 true).run Tryz.prog w = .ok (.tuple #[.agg #[Q1 0, Q1 0, Q1 0, Q1 0, .bool false, Q4, .bool false, Q4], .bool false]) w := by kernel_rfl
@[go_sem] theorem jgC (v : Value) (w : World) : (Instr.typeAssert (.iface 111 v) 61 106 true).run Tryz.prog w = .ok (.tuple #[.agg #[Q1 0, Q1 0, Q1 0, Q1 0, .bool false, Q4, Q1 0], .bool false]) w := by kernel_rfl
@[go_sem] theorem jgD (v : Value) (w : World) : (Instr.typeAssert (.iface 111 v) 61 108 true).run Tryz.prog w = .ok (.tuple #[.agg #[Q1 0, Q1 0], .bool false]) w := by kernel_rfl
@[go_sem] theorem jgE (v : Value) (w : World) : (Instr.typeAssert (.iface 111 v) 61 109 true).run Tryz.prog w = .ok (.tuple #[.agg #[Q1 0, Q1 0], .bool false]) w := by kernel_rfl
@[go_sem] theorem jgF (v : Value) (w : World) : (Instr.typeAssert (.iface 111 v) 61 110 true).run Tryz.prog w = .ok (.tuple #[.agg #[Q1 0, Q1 0], .bool false]) w := by kernel_rfl
@[go_sem] theorem jgG (v : Value) (w : World) : (Instr.typeAssert (.iface 111 v) 61 111 true).run Tryz.prog w = .ok (.tuple #[v, .bool true]) w := by kernel_rfl
@[go_sem] theorem jgH (v : Value) (w : World) : (Instr.typeAssert (.iface 113 v) 61 104 true).run Tryz.prog w = .ok (.tuple #[.agg #[Q1 0, Q1 0, Q1 0, Q1 0, .bool false, Q4, .bool false, Q4], .bool false]) w := by kernel_rfl
@[go_sem] theorem jgI (v : Value) (w : World) : (Instr.typeAssert (.iface 113 v) 61 106 true).run Tryz.prog w = .ok (.tuple #[.agg #[Q1 0, Q1 0, Q1 0, Q1 0, .bool false, Q4, Q1 0], .bool false]) w := by kernel_rfl
@[go_sem] theorem jgJ (v : Value) (w : World) : (Instr.typeAssert (.iface 113 v) 61 108 true).run Tryz.prog w = .ok (.tuple #[.agg #[Q1 0, Q1 0], .bool false]) w := by kernel_rfl
@[go_sem] theorem jgK (v : Value) (w : World) : (Instr.typeAssert (.iface 113 v) 61 109 true).run Tryz.prog w = .ok (.tuple #[.agg #[Q1 0, Q1 0], .bool false]) w := by kernel_rfl
@[go_sem] theorem jgL (v : Value) (w : World) : (Instr.typeAssert (.iface 113 v) 61 110 true).run Tryz.prog w = .ok (.tuple #[.agg #[Q1 0, Q1 0], .bool false]) w := by kernel_rfl
@[go_sem] theorem jgM (v : Value) (w : World) : (Instr.typeAssert (.iface 113 v) 61 111 true).run Tryz.prog w = .ok (.tuple #[.agg #[Q1 0, Q1 0], .bool false]) w := by kernel_rfl
@[go_sem] theorem jgN (v : Value) (w : World) : (Instr.typeAssert (.iface 113 v) 61 113 true).run Tryz.prog w = .ok (.tuple #[v, .bool true]) w := by kernel_rfl
@[go_sem] theorem jgO (v : Value) (w : World) : (Instr.typeAssert (.iface 115 v) 61 104 true).run Tryz.prog w = .ok (.tuple #[.agg #[Q1 0, Q1 0, Q1 0, Q1 0, .bool false, Q4, .bool false, Q4], .bool false]) w := by kernel_rfl
@[go_sem] theorem jgP (v : Value) (w : World) : (Instr.typeAssert (.iface 115 v) 61 106 true).run Tryz.prog w = .ok (.tuple #[.agg #[Q1 0, Q1 0, Q1 0, Q1 0, .bool false, Q4, Q1 0], .bool false]) w := by kernel_rfl
@[go_sem] theorem jgQ (v : Value) (w : World) : (Instr.typeAssert (.iface 115 v) 61 108 true).run Tryz.prog w = .ok (.tuple #[.agg #[Q1 0, Q1 0], .bool false]) w := by kernel_rfl
@[go_sem] theorem jgR (v : Value) (w : World) : (Instr.typeAssert (.iface 115 v) 61 109 true).run Tryz.prog w = .ok (.tuple #[.agg #[Q1 0, Q1 0], .bool false]) w := by kernel_rfl
@[go_sem] theorem jgS (v : Value) (w : World) : (Instr.typeAssert (.iface 115 v) 61 110 true).run Tryz.prog w = .ok (.tuple #[.agg #[Q1 0, Q1 0], .bool false]) w := by kernel_rfl
@[go_sem] theorem jgT (v : Value) (w : World) : (Instr.typeAssert (.iface 115 v) 61 111 true).run Tryz.prog w = .ok (.tuple #[.agg #[Q1 0, Q1 0], .bool false]) w := by kernel_rfl
@[go_sem] theorem jgU (v : Value) (w : World) : (Instr.typeAssert (.iface 115 v) 61 113 true).run Tryz.prog w = .ok (.tuple #[.agg #[Q1 0, Q1 0, Q1 0, Q4, Q4], .bool false]) w := by kernel_rfl
@[go_sem] theorem jgV (v : Value) (w : World) : (Instr.typeAssert (.iface 115 v) 61 115 true).run Tryz.prog w = .ok (.tuple #[v, .bool true]) w := by kernel_rfl
theorem je1 (v : Value) (txn : Int) (prev : Int) (page : Int) (slot : Int) (bU : Bool) (ax : Option Addr) (cj ay : Nat) (aU : Bool) (ao : Option Addr) (bq al : Nat) (uN : Int) (nT : Int) (aJ : Option Addr) (ak aK : Nat) (aM : Option Addr) (aw aH : Nat) (aF : Option Addr) (cV aD : Nat) (w : World) : Calls Tryz.prog 70 #[.agg #[Q1 txn, Q1 prev, Q1 page, Q1 slot, .bool bU, .slice ax cj ay, .bool aU, .slice ao bq al]] w fun e w' => e = .returned (Q1 1) ∧ Same w w' := by
 go_enter Tryz.func70, Tryz.ntmps70
 go_wp2;go_ret;exact ⟨rfl, kZ0.alloc _⟩
theorem je2 (v : Value) (txn : Int) (prev : Int) (page : Int) (slot : Int) (bU : Bool) (ax : Option Addr) (cj ay : Nat) (aU : Bool) (ao : Option Addr) (bq al : Nat) (uN : Int) (nT : Int) (aJ : Option Addr) (ak aK : Nat) (aM : Option Addr) (aw aH : Nat) (aF : Option Addr) (cV aD : Nat) (w : World) : Calls Tryz.prog 73 #[.agg #[Q1 txn, Q1 prev, Q1 page, Q1 slot, .bool aU, .slice ao bq al, Q1 uN]] w fun e w' => e = .returned (Q1 2) ∧ Same w w' := by
 go_enter Tryz.func73, Tryz.ntmps73
 go_wp2;go_ret;exact ⟨rfl, kZ0.alloc _⟩
theorem je3 (v : Value) (txn : Int) (prev : Int) (page : Int) (slot : Int) (bU : Bool) (ax : Option Addr) (cj ay : Nat) (aU : Bool) (ao : Option Addr) (bq al : Nat) (uN : Int) (nT : Int) (aJ : Option Addr) (ak aK : Nat) (aM : Option Addr) (aw aH : Nat) (aF : Option Addr) (cV aD : Nat) (w : World) : Calls Tryz.prog 74 #[.agg #[Q1 txn, Q1 prev]] w fun e w' => e = .returned (Q1 3) ∧ Same w w' := by
 go_enter Tryz.func74, Tryz.ntmps74
 go_wp2;go_ret;exact ⟨rfl, kZ0.alloc _⟩
theorem je4 (v : Value) (txn : Int) (prev : Int) (page : Int) (slot : Int) (bU : Bool) (ax : Option Addr) (cj ay : Nat) (aU : Bool) (ao : Option Addr) (bq al : Nat) (uN : Int) (nT : Int) (aJ : Option Addr) (ak aK : Nat) (aM : Option Addr) (aw aH : Nat) (aF : Option Addr) (cV aD : Nat) (w : World) : Calls Tryz.prog 75 #[.agg #[Q1 txn, Q1 prev]] w fun e w' => e = .returned (Q1 4) ∧ Same w w' := by
 go_enter Tryz.func75, Tryz.ntmps75
 go_wp2;go_ret;exact ⟨rfl, kZ0.alloc _⟩
theorem je5 (v : Value) (txn : Int) (prev : Int) (page : Int) (slot : Int) (bU : Bool) (ax : Option Addr) (cj ay : Nat) (aU : Bool) (ao : Option Addr) (bq al : Nat) (uN : Int) (nT : Int) (aJ : Option Addr) (ak aK : Nat) (aM : Option Addr) (aw aH : Nat) (aF : Option Addr) (cV aD : Nat) (w : World) : Calls Tryz.prog 76 #[.agg #[Q1 txn, Q1 prev]] w fun e w' => e = .returned (Q1 5) ∧ Same w w' := by
 go_enter Tryz.func76, Tryz.ntmps76
 go_wp2;go_ret;exact ⟨rfl, kZ0.alloc _⟩
theorem je6 (v : Value) (txn : Int) (prev : Int) (page : Int) (slot : Int) (bU : Bool) (ax : Option Addr) (cj ay : Nat) (aU : Bool) (ao : Option Addr) (bq al : Nat) (uN : Int) (nT : Int) (aJ : Option Addr) (ak aK : Nat) (aM : Option Addr) (aw aH : Nat) (aF : Option Addr) (cV aD : Nat) (w : World) : Calls Tryz.prog 77 #[.agg #[Q1 0, Q1 0]] w fun e w' => e = .returned (Q1 6) ∧ Same w w' := by
 go_enter Tryz.func77, Tryz.ntmps77
 go_wp2;go_ret;exact ⟨rfl, kZ0.alloc _⟩
theorem je7 (v : Value) (txn : Int) (prev : Int) (page : Int) (slot : Int) (bU : Bool) (ax : Option Addr) (cj ay : Nat) (aU : Bool) (ao : Option Addr) (bq al : Nat) (uN : Int) (nT : Int) (aJ : Option Addr) (ak aK : Nat) (aM : Option Addr) (aw aH : Nat) (aF : Option Addr) (cV aD : Nat) (w : World) : Calls Tryz.prog 78 #[.agg #[Q1 0, Q1 0, Q1 nT, .slice aJ ak aK, .slice aM aw aH]] w fun e w' => e = .returned (Q1 7) ∧ Same w w' := by
 go_enter Tryz.func78, Tryz.ntmps78
 go_wp2;go_ret;exact ⟨rfl, kZ0.alloc _⟩
theorem je8 (v : Value) (txn : Int) (prev : Int) (page : Int) (slot : Int) (bU : Bool) (ax : Option Addr) (cj ay : Nat) (aU : Bool) (ao : Option Addr) (bq al : Nat) (uN : Int) (nT : Int) (aJ : Option Addr) (ak aK : Nat) (aM : Option Addr) (aw aH : Nat) (aF : Option Addr) (cV aD : Nat) (w : World) : Calls Tryz.prog 79 #[.agg #[Q1 0, Q1 0, Q1 page, .slice aF cV aD]] w fun e w' => e = .returned (Q1 8) ∧ Same w w' := by
 go_enter Tryz.func79, Tryz.ntmps79
 go_wp2;go_ret;exact ⟨rfl, kZ0.alloc _⟩
theorem VO {w a : World} {Z : Nat} (h : Same w a) (hz : w.heap.size ≤ Z) (v0 v1 v2 v3 v4 v5 v6 v7 v8 v9 v10 v11 il i4 : Value) : Same w ((((((((((((((a.setCell ⟨Z, 0, none⟩ v0).setCell ⟨Z, 1, none⟩ v1).setCell ⟨Z, 2, none⟩ v2).setCell ⟨Z, 3, none⟩ v3).setCell ⟨Z, 4, none⟩ v4).setCell ⟨Z, 5, none⟩ v5).setCell ⟨Z, 6, none⟩ v6).setCell ⟨Z, 7, none⟩ v7).setCell ⟨Z, 8, none⟩ v8).setCell ⟨Z, 9, none⟩ v9).setCell ⟨Z, 10, none⟩ v10).setCell ⟨Z, 11, none⟩ v11).setCell ⟨Z, 12, none⟩ il).setCell ⟨Z, 13, none⟩ i4) := (Kept.setCell (Kept.setCell (Kept.setCell (Kept.setCell (Kept.setCell (Kept.setCell (Kept.setCell (Kept.setCell (Kept.setCell (Kept.setCell (Kept.setCell (Kept.setCell (Kept.setCell (Kept.setCell h (p := ⟨Z, 0, none⟩) (.inl hz) _) (p := ⟨Z, 1, none⟩) (.inl hz) _) (p := ⟨Z, 2, none⟩) (.inl hz) _) (p := ⟨Z, 3, none⟩) (.inl hz) _) (p := ⟨Z, 4, none⟩) (.inl hz) _) (p := ⟨Z, 5, none⟩) (.inl hz) _) (p := ⟨Z, 6, none⟩) (.inl hz) _) (p := ⟨Z, 7, none⟩) (.inl hz) _) (p := ⟨Z, 8, none⟩) (.inl hz) _) (p := ⟨Z, 9, none⟩) (.inl hz) _) (p := ⟨Z, 10, none⟩) (.inl hz) _) (p := ⟨Z, 11, none⟩) (.inl hz) _) (p := ⟨Z, 12, none⟩) (.inl hz) _) (p := ⟨Z, 13, none⟩) (.inl hz) _)
theorem Po (txn prev : Int) (w : World) : Calls Tryz.prog 71 #[.agg #[Q1 txn, Q1 prev]] w fun e w' => e = .returned (Q1 txn) ∧ Same w w' := by
 go_enter Tryz.func71, Tryz.ntmps71
 go_wp2;go_ret;exact ⟨rfl, kZ0.alloc _⟩
theorem Qi (txn prev : Int) (w : World) : Calls Tryz.prog 72 #[.agg #[Q1 txn, Q1 prev]] w fun e w' => e = .returned (Q1 prev) ∧ Same w w' := by
 go_enter Tryz.func72, Tryz.ntmps72
 go_wp2;go_ret;exact ⟨rfl, kZ0.alloc _⟩
theorem XH (txn : Int) (prev : Int) (page : Int) (slot : Int) (bU : Bool) (ax : Option Addr) (cj ay : Nat) (aU : Bool) (ao : Option Addr) (bq al : Nat) (uN : Int) (nT : Int) (aJ : Option Addr) (ak aK : Nat) (aM : Option Addr) (aw aH : Nat) (aF : Option Addr) (cV aD : Nat) (w : World) : Calls Tryz.prog 31 #[.iface 104 (.agg #[Q1 txn, Q1 prev, Q1 page, Q1 slot, .bool bU, .slice ax cj ay, .bool aU, .slice ao bq al])] w fun e w' => e = .returned (.agg #[Q1 1, Q1 txn, Q1 prev, Q1 page, Q1 slot, .bool bU, .slice ax cj ay, .bool aU, .slice ao bq al, Q1 0, Q1 0, Q4, Q4, Q4]) ∧ Same w w' := by
 obtain ⟨ah, cq, aY⟩ := new2 w [Q1 0, Q1 0, Q1 0, Q1 0, Q1 0, .bool false, Q4, .bool false, Q4, Q1 0, Q1 0, Q4, Q4, Q4] 28 [Q1 txn, Q1 prev, Q1 page, Q1 slot, .bool bU, .slice ax cj ay, .bool aU, .slice ao bq al] 104;dsimp only [List.toArray] at ah cq aY
 go_enter Tryz.func31, Tryz.ntmps31
 go_wp2_with fail
 generalize (w.alloc _).alloc _ = w1 at ah cq aY ⊢;replace ah := ah.out;replace cq := cq.out;replace aY := aY.out
 let Y1 : World → Prop := fun wx => D0 wx (w.heap.size + 1) 0 (Q1 txn) ∧ D0 wx (w.heap.size + 1) 1 (Q1 prev) ∧ D0 wx (w.heap.size + 1) 2 (Q1 page) ∧ D0 wx (w.heap.size + 1) 3 (Q1 slot) ∧ D0 wx (w.heap.size + 1) 4 (.bool bU) ∧ D0 wx (w.heap.size + 1) 5 (.slice ax cj ay) ∧ D0 wx (w.heap.size + 1) 6 (.bool aU) ∧ D0 wx (w.heap.size + 1) 7 (.slice ao bq al)
 have aR : ∀ wx, Same w1 wx → Y1 wx := fun wx h => ⟨(aY.same h).cell 0, (aY.same h).cell 1, (aY.same h).cell 2, (aY.same h).cell 3, (aY.same h).cell 4, (aY.same h).cell 5, (aY.same h).cell 6, (aY.same h).cell 7⟩
 have hS : Y1 w1.drew := by exact aR _ kZ0.drew
 refine O0 Y1 19 20 ?_;refine tk 0 15 hS ?_;refine tk 2 17 hS ?_;refine tk 3 18 hS ?_;refine tk 5 20 hS ?_;refine tk 6 21 hS ?_;refine tk 8 23 hS ?_;refine tk 9 24 hS ?_;refine tk 10 25 hS ?_;refine tk 11 26 hS ?_;refine tk 12 27 hS ?_;refine tk 13 28 hS ?_;refine tk 14 29 hS ?_;refine tk 15 30 hS ?_;refine tk 16 31 hS ?_;refine tk 17 32 hS ?_;refine tkC 1 (je1 undef txn prev page slot bU ax cj ay aU ao bq al uN nT aJ ak aK aM aw aH aF cV aD) aR (kZ0.drew) (fun w2 bM hS => ?_);refine tkC 4 (Po txn prev) aR (bM) (fun w3 dq hS => ?_);refine tkC 7 (Qi txn prev) aR (dq) (fun w4 cO hS => ?_);refine tk 18 33 hS ?_;obtain ⟨d0, d1, d2, d3, d4, d5, d6, d7, d8, d9, ef, ek, dW, eu⟩ := (cq.same cO).all14;have fz := (cq.same cO).frozen;refine o1Q 19 (fun K hK => ?_);go_simp;refine hK.out _ _ (fun h => absurd rfl h) ?_;clear hK K;refine OZ ?_
 try simp only [Sp]
 have hz : Same w w4 := ah.trans cO;go_wp2;refine bodyPost_ret (v := .agg #[Q1 1, Q1 txn, Q1 prev, Q1 page, Q1 slot, .bool bU, .slice ax cj ay, .bool aU, .slice ao bq al, Q1 0, Q1 0, Q4, Q4, Q4]) (by simp [results, Tryz.results31, go_sem, d0, d1, d2, d3, d4, d5, d6, d7, d8, d9, ef, ek, dW, eu]) rfl ⟨rfl, ?_⟩;exact VO hz (Nat.le_refl _) _ _ _ _ _ _ _ _ _ _ _ _ _ _
theorem XI (txn : Int) (prev : Int) (page : Int) (slot : Int) (bU : Bool) (ax : Option Addr) (cj ay : Nat) (aU : Bool) (ao : Option Addr) (bq al : Nat) (uN : Int) (nT : Int) (aJ : Option Addr) (ak aK : Nat) (aM : Option Addr) (aw aH : Nat) (aF : Option Addr) (cV aD : Nat) (w : World) : Calls Tryz.prog 31 #[.iface 106 (.agg #[Q1 txn, Q1 prev, Q1 page, Q1 slot, .bool aU, .slice ao bq al, Q1 uN])] w fun e w' => e = .returned (.agg #[Q1 2, Q1 txn, Q1 prev, Q1 page, Q1 slot, .bool false, Q4, .bool aU, .slice ao bq al, Q1 uN, Q1 0, Q4, Q4, Q4]) ∧ Same w w' := by
 obtain ⟨ah, cq, aY⟩ := new2 w [Q1 0, Q1 0, Q1 0, Q1 0, Q1 0, .bool false, Q4, .bool false, Q4, Q1 0, Q1 0, Q4, Q4, Q4] 28 [Q1 txn, Q1 prev, Q1 page, Q1 slot, .bool aU, .slice ao bq al, Q1 uN] 106;dsimp only [List.toArray] at ah cq aY
 go_enter Tryz.func31, Tryz.ntmps31
 go_wp2_with fail
 generalize (w.alloc _).alloc _ = w1 at ah cq aY ⊢;replace ah := ah.out;replace cq := cq.out;replace aY := aY.out
 let Y1 : World → Prop := fun wx => D0 wx (w.heap.size + 1) 0 (Q1 txn) ∧ D0 wx (w.heap.size + 1) 1 (Q1 prev) ∧ D0 wx (w.heap.size + 1) 2 (Q1 page) ∧ D0 wx (w.heap.size + 1) 3 (Q1 slot) ∧ D0 wx (w.heap.size + 1) 4 (.bool aU) ∧ D0 wx (w.heap.size + 1) 5 (.slice ao bq al) ∧ D0 wx (w.heap.size + 1) 6 (Q1 uN)
 have aR : ∀ wx, Same w1 wx → Y1 wx := fun wx h => ⟨(aY.same h).cell 0, (aY.same h).cell 1, (aY.same h).cell 2, (aY.same h).cell 3, (aY.same h).cell 4, (aY.same h).cell 5, (aY.same h).cell 6⟩
 have hS : Y1 w1.drew := by exact aR _ kZ0.drew
 refine O0 Y1 19 20 ?_;refine tk 0 37 hS ?_;refine tk 2 39 hS ?_;refine tk 3 40 hS ?_;refine tk 5 42 hS ?_;refine tk 6 43 hS ?_;refine tk 8 45 hS ?_;refine tk 9 46 hS ?_;refine tk 10 47 hS ?_;refine tk 11 48 hS ?_;refine tk 12 49 hS ?_;refine tk 13 50 hS ?_;refine tk 14 51 hS ?_;refine tk 15 52 hS ?_;refine tk 16 53 hS ?_;refine tk 17 54 hS ?_;refine tkC 1 (je2 undef txn prev page slot bU ax cj ay aU ao bq al uN nT aJ ak aK aM aw aH aF cV aD) aR (kZ0.drew) (fun w2 bM hS => ?_);refine tkC 4 (Po txn prev) aR (bM) (fun w3 dq hS => ?_);refine tkC 7 (Qi txn prev) aR (dq) (fun w4 cO hS => ?_);refine tk 18 55 hS ?_;obtain ⟨d0, d1, d2, d3, d4, d5, d6, d7, d8, d9, ef, ek, dW, eu⟩ := (cq.same cO).all14;have fz := (cq.same cO).frozen;refine o1Q 19 (fun K hK => ?_);go_simp;refine hK.out _ _ (fun h => absurd rfl h) ?_;clear hK K;refine OZ ?_
 try simp only [Sp]
 have hz : Same w w4 := ah.trans cO;go_wp2;refine bodyPost_ret (v := .agg #[Q1 2, Q1 txn, Q1 prev, Q1 page, Q1 slot, .bool false, Q4, .bool aU, .slice ao bq al, Q1 uN, Q1 0, Q4, Q4, Q4]) (by simp [results, Tryz.results31, go_sem, d0, d1, d2, d3, d4, d5, d6, d7, d8, d9, ef, ek, dW, eu]) rfl ⟨rfl, ?_⟩;exact VO hz (Nat.le_refl _) _ _ _ _ _ _ _ _ _ _ _ _ _ _
theorem XJ (txn : Int) (prev : Int) (page : Int) (slot : Int) (bU : Bool) (ax : Option Addr) (cj ay : Nat) (aU : Bool) (ao : Option Addr) (bq al : Nat) (uN : Int) (nT : Int) (aJ : Option Addr) (ak aK : Nat) (aM : Option Addr) (aw aH : Nat) (aF : Option Addr) (cV aD : Nat) (w : World) : Calls Tryz.prog 31 #[.iface 108 (.agg #[Q1 txn, Q1 prev])] w fun e w' => e = .returned (.agg #[Q1 3, Q1 txn, Q1 prev, Q1 0, Q1 0, .bool false, Q4, .bool false, Q4, Q1 0, Q1 0, Q4, Q4, Q4]) ∧ Same w w' := by
 obtain ⟨ah, cq, aY⟩ := new2 w [Q1 0, Q1 0, Q1 0, Q1 0, Q1 0, .bool false, Q4, .bool false, Q4, Q1 0, Q1 0, Q4, Q4, Q4] 28 [Q1 txn, Q1 prev] 108;dsimp only [List.toArray] at ah cq aY
 go_enter Tryz.func31, Tryz.ntmps31
 go_wp2_with fail
 generalize (w.alloc _).alloc _ = w1 at ah cq aY ⊢;replace ah := ah.out;replace cq := cq.out;replace aY := aY.out
 let Y1 : World → Prop := fun wx => D0 wx (w.heap.size + 1) 0 (Q1 txn) ∧ D0 wx (w.heap.size + 1) 1 (Q1 prev)
 have aR : ∀ wx, Same w1 wx → Y1 wx := fun wx h => ⟨(aY.same h).cell 0, (aY.same h).cell 1⟩
 have hS : Y1 w1.drew := by exact aR _ kZ0.drew
 refine O0 Y1 9 10 ?_;refine tk 0 59 hS ?_;refine tk 2 61 hS ?_;refine tk 3 62 hS ?_;refine tk 5 64 hS ?_;refine tk 6 65 hS ?_;refine tkC 1 (je3 undef txn prev page slot bU ax cj ay aU ao bq al uN nT aJ ak aK aM aw aH aF cV aD) aR (kZ0.drew) (fun w2 bM hS => ?_);refine tkC 4 (Po txn prev) aR (bM) (fun w3 dq hS => ?_);refine tkC 7 (Qi txn prev) aR (dq) (fun w4 cO hS => ?_);refine tk 8 67 hS ?_;obtain ⟨d0, d1, d2, d3, d4, d5, d6, d7, d8, d9, ef, ek, dW, eu⟩ := (cq.same cO).all14;have fz := (cq.same cO).frozen;refine o1Q 9 (fun K hK => ?_);go_simp;refine hK.out _ _ (fun h => absurd rfl h) ?_;clear hK K;refine OZ ?_
 try simp only [Sp]
 have hz : Same w w4 := ah.trans cO;go_wp2;refine bodyPost_ret (v := .agg #[Q1 3, Q1 txn, Q1 prev, Q1 0, Q1 0, .bool false, Q4, .bool false, Q4, Q1 0, Q1 0, Q4, Q4, Q4]) (by simp [results, Tryz.results31, go_sem, d0, d1, d2, d3, d4, d5, d6, d7, d8, d9, ef, ek, dW, eu]) rfl ⟨rfl, ?_⟩;exact VO hz (Nat.le_refl _) _ _ _ _ _ _ _ _ _ _ _ _ _ _
theorem XK (txn : Int) (prev : Int) (page : Int) (slot : Int) (bU : Bool) (ax : Option Addr) (cj ay : Nat) (aU : Bool) (ao : Option Addr) (bq al : Nat) (uN : Int) (nT : Int) (aJ : Option Addr) (ak aK : Nat) (aM : Option Addr) (aw aH : Nat) (aF : Option Addr) (cV aD : Nat) (w : World) : Calls Tryz.prog 31 #[.iface 109 (.agg #[Q1 txn, Q1 prev])] w fun e w' => e = .returned (.agg #[Q1 4, Q1 txn, Q1 prev, Q1 0, Q1 0, .bool false, Q4, .bool false, Q4, Q1 0, Q1 0, Q4, Q4, Q4]) ∧ Same w w' := by
 obtain ⟨ah, cq, aY⟩ := new2 w [Q1 0, Q1 0, Q1 0, Q1 0, Q1 0, .bool false, Q4, .bool false, Q4, Q1 0, Q1 0, Q4, Q4, Q4] 28 [Q1 txn, Q1 prev] 109;dsimp only [List.toArray] at ah cq aY
 go_enter Tryz.func31, Tryz.ntmps31
 go_wp2_with fail
 generalize (w.alloc _).alloc _ = w1 at ah cq aY ⊢;replace ah := ah.out;replace cq := cq.out;replace aY := aY.out
 let Y1 : World → Prop := fun wx => D0 wx (w.heap.size + 1) 0 (Q1 txn) ∧ D0 wx (w.heap.size + 1) 1 (Q1 prev)
 have aR : ∀ wx, Same w1 wx → Y1 wx := fun wx h => ⟨(aY.same h).cell 0, (aY.same h).cell 1⟩
 have hS : Y1 w1.drew := by exact aR _ kZ0.drew
 refine O0 Y1 9 10 ?_;refine tk 0 71 hS ?_;refine tk 2 73 hS ?_;refine tk 3 74 hS ?_;refine tk 5 76 hS ?_;refine tk 6 77 hS ?_;refine tkC 1 (je4 undef txn prev page slot bU ax cj ay aU ao bq al uN nT aJ ak aK aM aw aH aF cV aD) aR (kZ0.drew) (fun w2 bM hS => ?_);refine tkC 4 (Po txn prev) aR (bM) (fun w3 dq hS => ?_);refine tkC 7 (Qi txn prev) aR (dq) (fun w4 cO hS => ?_);refine tk 8 79 hS ?_;obtain ⟨d0, d1, d2, d3, d4, d5, d6, d7, d8, d9, ef, ek, dW, eu⟩ := (cq.same cO).all14;have fz := (cq.same cO).frozen;refine o1Q 9 (fun K hK => ?_);go_simp;refine hK.out _ _ (fun h => absurd rfl h) ?_;clear hK K;refine OZ ?_
 try simp only [Sp]
 have hz : Same w w4 := ah.trans cO;go_wp2;refine bodyPost_ret (v := .agg #[Q1 4, Q1 txn, Q1 prev, Q1 0, Q1 0, .bool false, Q4, .bool false, Q4, Q1 0, Q1 0, Q4, Q4, Q4]) (by simp [results, Tryz.results31, go_sem, d0, d1, d2, d3, d4, d5, d6, d7, d8, d9, ef, ek, dW, eu]) rfl ⟨rfl, ?_⟩;exact VO hz (Nat.le_refl _) _ _ _ _ _ _ _ _ _ _ _ _ _ _
theorem XL (txn : Int) (prev : Int) (page : Int) (slot : Int) (bU : Bool) (ax : Option Addr) (cj ay : Nat) (aU : Bool) (ao : Option Addr) (bq al : Nat) (uN : Int) (nT : Int) (aJ : Option Addr) (ak aK : Nat) (aM : Option Addr) (aw aH : Nat) (aF : Option Addr) (cV aD : Nat) (w : World) : Calls Tryz.prog 31 #[.iface 110 (.agg #[Q1 txn, Q1 prev])] w fun e w' => e = .returned (.agg #[Q1 5, Q1 txn, Q1 prev, Q1 0, Q1 0, .bool false, Q4, .bool false, Q4, Q1 0, Q1 0, Q4, Q4, Q4]) ∧ Same w w' := by
 obtain ⟨ah, cq, aY⟩ := new2 w [Q1 0, Q1 0, Q1 0, Q1 0, Q1 0, .bool false, Q4, .bool false, Q4, Q1 0, Q1 0, Q4, Q4, Q4] 28 [Q1 txn, Q1 prev] 110;dsimp only [List.toArray] at ah cq aY
 go_enter Tryz.func31, Tryz.ntmps31
 go_wp2_with fail
 generalize (w.alloc _).alloc _ = w1 at ah cq aY ⊢;replace ah := ah.out;replace cq := cq.out;replace aY := aY.out
 let Y1 : World → Prop := fun wx => D0 wx (w.heap.size + 1) 0 (Q1 txn) ∧ D0 wx (w.heap.size + 1) 1 (Q1 prev)
 have aR : ∀ wx, Same w1 wx → Y1 wx := fun wx h => ⟨(aY.same h).cell 0, (aY.same h).cell 1⟩
 have hS : Y1 w1.drew := by exact aR _ kZ0.drew
 refine O0 Y1 9 10 ?_;refine tk 0 83 hS ?_;refine tk 2 85 hS ?_;refine tk 3 86 hS ?_;refine tk 5 88 hS ?_;refine tk 6 89 hS ?_;refine tkC 1 (je5 undef txn prev page slot bU ax cj ay aU ao bq al uN nT aJ ak aK aM aw aH aF cV aD) aR (kZ0.drew) (fun w2 bM hS => ?_);refine tkC 4 (Po txn prev) aR (bM) (fun w3 dq hS => ?_);refine tkC 7 (Qi txn prev) aR (dq) (fun w4 cO hS => ?_);refine tk 8 91 hS ?_;obtain ⟨d0, d1, d2, d3, d4, d5, d6, d7, d8, d9, ef, ek, dW, eu⟩ := (cq.same cO).all14;have fz := (cq.same cO).frozen;refine o1Q 9 (fun K hK => ?_);go_simp;refine hK.out _ _ (fun h => absurd rfl h) ?_;clear hK K;refine OZ ?_
 try simp only [Sp]
 have hz : Same w w4 := ah.trans cO;go_wp2;refine bodyPost_ret (v := .agg #[Q1 5, Q1 txn, Q1 prev, Q1 0, Q1 0, .bool false, Q4, .bool false, Q4, Q1 0, Q1 0, Q4, Q4, Q4]) (by simp [results, Tryz.results31, go_sem, d0, d1, d2, d3, d4, d5, d6, d7, d8, d9, ef, ek, dW, eu]) rfl ⟨rfl, ?_⟩;exact VO hz (Nat.le_refl _) _ _ _ _ _ _ _ _ _ _ _ _ _ _
theorem XM (txn : Int) (prev : Int) (page : Int) (slot : Int) (bU : Bool) (ax : Option Addr) (cj ay : Nat) (aU : Bool) (ao : Option Addr) (bq al : Nat) (uN : Int) (nT : Int) (aJ : Option Addr) (ak aK : Nat) (aM : Option Addr) (aw aH : Nat) (aF : Option Addr) (cV aD : Nat) (w : World) : Calls Tryz.prog 31 #[.iface 111 (.agg #[Q1 0, Q1 0])] w fun e w' => e = .returned (.agg #[Q1 6, Q1 0, Q1 0, Q1 0, Q1 0, .bool false, Q4, .bool false, Q4, Q1 0, Q1 0, Q4, Q4, Q4]) ∧ Same w w' := by
 have cq := Blk.newA w [Q1 0, Q1 0, Q1 0, Q1 0, Q1 0, .bool false, Q4, .bool false, Q4, Q1 0, Q1 0, Q4, Q4, Q4] 28 [Q1 0, Q1 0] 111;have aY := Blk.newB w [Q1 0, Q1 0, Q1 0, Q1 0, Q1 0, .bool false, Q4, .bool false, Q4, Q1 0, Q1 0, Q4, Q4, Q4] 28 [Q1 0, Q1 0] 111;have ah : Same w ((w.alloc (.cells #[Q1 0, Q1 0, Q1 0, Q1 0, Q1 0, .bool false, Q4, .bool false, Q4, Q1 0, Q1 0, Q4, Q4, Q4] 28)).alloc (.cells #[Q1 0, Q1 0] 111)) := (kZ0.alloc _).alloc _
 go_enter Tryz.func31, Tryz.ntmps31
 go_wp2_with fail
 refine (je6 undef txn prev page slot bU ax cj ay aU ao bq al uN nT aJ ak aK aM aw aH aF cV aD _).mono ?_;rintro e w2 ⟨rfl, aj⟩;obtain ⟨d0, d1, d2, d3, d4, d5, d6, d7, d8, d9, ef, ek, dW, eu⟩ := (cq.same aj).all14;have fz := (cq.same aj).frozen;have hz : Same w w2 := ah.trans aj;go_wp2;refine bodyPost_ret (v := .agg #[Q1 6, Q1 0, Q1 0, Q1 0, Q1 0, .bool false, Q4, .bool false, Q4, Q1 0, Q1 0, Q4, Q4, Q4]) (by simp [results, Tryz.results31, go_sem, d0, d1, d2, d3, d4, d5, d6, d7, d8, d9, ef, ek, dW, eu]) rfl ⟨rfl, ?_⟩;exact VO hz (Nat.le_refl _) _ _ _ _ _ _ _ _ _ _ _ _ _ _
theorem XO (txn : Int) (prev : Int) (page : Int) (slot : Int) (bU : Bool) (ax : Option Addr) (cj ay : Nat) (aU : Bool) (ao : Option Addr) (bq al : Nat) (uN : Int) (nT : Int) (aJ : Option Addr) (ak aK : Nat) (aM : Option Addr) (aw aH : Nat) (aF : Option Addr) (cV aD : Nat) (w : World) : Calls Tryz.prog 31 #[.iface 113 (.agg #[Q1 0, Q1 0, Q1 nT, .slice aJ ak aK, .slice aM aw aH])] w fun e w' => e = .returned (.agg #[Q1 7, Q1 0, Q1 0, Q1 0, Q1 0, .bool false, Q4, .bool false, Q4, Q1 0, Q1 nT, .slice aJ ak aK, .slice aM aw aH, Q4]) ∧ Same w w' := by
 obtain ⟨ah, cq, aY⟩ := new2 w [Q1 0, Q1 0, Q1 0, Q1 0, Q1 0, .bool false, Q4, .bool false, Q4, Q1 0, Q1 0, Q4, Q4, Q4] 28 [Q1 0, Q1 0, Q1 nT, .slice aJ ak aK, .slice aM aw aH] 113;dsimp only [List.toArray] at ah cq aY
 go_enter Tryz.func31, Tryz.ntmps31
 go_wp2_with fail
 generalize (w.alloc _).alloc _ = w1 at ah cq aY ⊢;replace ah := ah.out;replace cq := cq.out;replace aY := aY.out
 let Y1 : World → Prop := fun wx => D0 wx (w.heap.size + 1) 0 (Q1 0) ∧ D0 wx (w.heap.size + 1) 1 (Q1 0) ∧ D0 wx (w.heap.size + 1) 2 (Q1 nT) ∧ D0 wx (w.heap.size + 1) 3 (.slice aJ ak aK) ∧ D0 wx (w.heap.size + 1) 4 (.slice aM aw aH)
 have aR : ∀ wx, Same w1 wx → Y1 wx := fun wx h => ⟨(aY.same h).cell 0, (aY.same h).cell 1, (aY.same h).cell 2, (aY.same h).cell 3, (aY.same h).cell 4⟩
 have hS : Y1 w1.drew := by exact aR _ kZ0.drew
 refine O0 Y1 9 10 ?_;refine tk 0 101 hS ?_;refine tk 2 103 hS ?_;refine tk 3 104 hS ?_;refine tk 4 105 hS ?_;refine tk 5 106 hS ?_;refine tk 6 107 hS ?_;refine tk 7 108 hS ?_;refine tkC 1 (je7 undef txn prev page slot bU ax cj ay aU ao bq al uN nT aJ ak aK aM aw aH aF cV aD) aR (kZ0.drew) (fun w2 bM hS => ?_);refine tk 8 109 hS ?_;obtain ⟨d0, d1, d2, d3, d4, d5, d6, d7, d8, d9, ef, ek, dW, eu⟩ := (cq.same bM).all14;have fz := (cq.same bM).frozen;refine o1Q 9 (fun K hK => ?_);go_simp;refine hK.out _ _ (fun h => absurd rfl h) ?_;clear hK K;refine OZ ?_
 try simp only [Sp]
 have hz : Same w w2 := ah.trans bM;go_wp2;refine bodyPost_ret (v := .agg #[Q1 7, Q1 0, Q1 0, Q1 0, Q1 0, .bool false, Q4, .bool false, Q4, Q1 0, Q1 nT, .slice aJ ak aK, .slice aM aw aH, Q4]) (by simp [results, Tryz.results31, go_sem, d0, d1, d2, d3, d4, d5, d6, d7, d8, d9, ef, ek, dW, eu]) rfl ⟨rfl, ?_⟩;exact VO hz (Nat.le_refl _) _ _ _ _ _ _ _ _ _ _ _ _ _ _
theorem XP (txn : Int) (prev : Int) (page : Int) (slot : Int) (bU : Bool) (ax : Option Addr) (cj ay : Nat) (aU : Bool) (ao : Option Addr) (bq al : Nat) (uN : Int) (nT : Int) (aJ : Option Addr) (ak aK : Nat) (aM : Option Addr) (aw aH : Nat) (aF : Option Addr) (cV aD : Nat) (w : World) : Calls Tryz.prog 31 #[.iface 115 (.agg #[Q1 0, Q1 0, Q1 page, .slice aF cV aD])] w fun e w' => e = .returned (.agg #[Q1 8, Q1 0, Q1 0, Q1 page, Q1 0, .bool false, Q4, .bool false, Q4, Q1 0, Q1 0, Q4, Q4, .slice aF cV aD]) ∧ Same w w' := by
 obtain ⟨ah, cq, aY⟩ := new2 w [Q1 0, Q1 0, Q1 0, Q1 0, Q1 0, .bool false, Q4, .bool false, Q4, Q1 0, Q1 0, Q4, Q4, Q4] 28 [Q1 0, Q1 0, Q1 page, .slice aF cV aD] 115;dsimp only [List.toArray] at ah cq aY
 go_enter Tryz.func31, Tryz.ntmps31
 go_wp2_with fail
 generalize (w.alloc _).alloc _ = w1 at ah cq aY ⊢;replace ah := ah.out;replace cq := cq.out;replace aY := aY.out
 let Y1 : World → Prop := fun wx => D0 wx (w.heap.size + 1) 0 (Q1 0) ∧ D0 wx (w.heap.size + 1) 1 (Q1 0) ∧ D0 wx (w.heap.size + 1) 2 (Q1 page) ∧ D0 wx (w.heap.size + 1) 3 (.slice aF cV aD)
 have aR : ∀ wx, Same w1 wx → Y1 wx := fun wx h => ⟨(aY.same h).cell 0, (aY.same h).cell 1, (aY.same h).cell 2, (aY.same h).cell 3⟩
 have hS : Y1 w1.drew := by exact aR _ kZ0.drew
 refine O0 Y1 7 8 ?_;refine tk 0 113 hS ?_;refine tk 2 115 hS ?_;refine tk 3 116 hS ?_;refine tk 4 117 hS ?_;refine tk 5 118 hS ?_;refine tkC 1 (je8 undef txn prev page slot bU ax cj ay aU ao bq al uN nT aJ ak aK aM aw aH aF cV aD) aR (kZ0.drew) (fun w2 bM hS => ?_);refine tk 6 119 hS ?_;obtain ⟨d0, d1, d2, d3, d4, d5, d6, d7, d8, d9, ef, ek, dW, eu⟩ := (cq.same bM).all14;have fz := (cq.same bM).frozen;refine o1Q 7 (fun K hK => ?_);go_simp;refine hK.out _ _ (fun h => absurd rfl h) ?_;clear hK K;refine OZ ?_
 try simp only [Sp]
 have hz : Same w w2 := ah.trans bM;go_wp2;refine bodyPost_ret (v := .agg #[Q1 8, Q1 0, Q1 0, Q1 page, Q1 0, .bool false, Q4, .bool false, Q4, Q1 0, Q1 0, Q4, Q4, .slice aF cV aD]) (by simp [results, Tryz.results31, go_sem, d0, d1, d2, d3, d4, d5, d6, d7, d8, d9, ef, ek, dW, eu]) rfl ⟨rfl, ?_⟩;exact VO hz (Nat.le_refl _) _ _ _ _ _ _ _ _ _ _ _ _ _ _
end Go.Proofs.YtapdfgkbhaoelaaGreatDoor
