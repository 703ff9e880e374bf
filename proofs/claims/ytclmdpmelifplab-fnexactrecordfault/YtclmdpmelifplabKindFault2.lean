/-
  The faults of the kinds: Undo, Image, Tables, Begin.
-/
import Derived.Test.YtclmdpmelifplabKindFault
import Derived.Test.YtclmdpmelifplabInOrder
import Derived.Test.YtclmdpmelifplabFaultI
namespace Go.Proofs.Ytclmdpmelifplab
open Go.RowKit
set_option linter.unusedVariables false
set_option linter.unusedSimpArgs false
set_option maxRecDepth 100000 in
set_option maxHeartbeats 16000000 in
theorem undoFault_any (txn prev page slot : Int) (after_used : Bool) (after_data_a : Option Addr) (after_data_n after_data_c : Nat) (undoNext : Int) (w : World) (hn2 : after_data_n ≤ maxLen) :
    Calls Try.prog 137 #[.agg #[.int .i64 txn, .int .i64 prev, .int .i64 page, .int .i64 slot, .bool after_used, .slice after_data_a after_data_n after_data_c, .int .i64 undoNext]] w fun e w' => e = .returned (.int .i64 (orF (headF txn prev) (placeF page slot) (undF after_used after_data_n undoNext))) ∧ Same w w' := by
  have h1 := fun wx => fits_any after_used after_data_a after_data_n after_data_c wx hn2
  have h2 := fun wx => isLSN_any undoNext wx
  have b0 := Blk.new w #[.int .i64 txn, .int .i64 prev, .int .i64 page, .int .i64 slot, .bool after_used, .slice after_data_a after_data_n after_data_c, .int .i64 undoNext] 102
  have hk0 : Same w (w.alloc (.cells #[.int .i64 txn, .int .i64 prev, .int .i64 page, .int .i64 slot, .bool after_used, .slice after_data_a after_data_n after_data_c, .int .i64 undoNext] 102)) := (Kept.refl _ _).alloc _
  unfold undF
  cases e1 : fitsB after_used after_data_n with
  | false =>
    rw [e1] at h1
    simp only [if_true]
    go_enter Try.func137, Try.ntmps137
    go_wp2_with fail
    refine (h1 _).mono ?_
    rintro e w1 ⟨rfl, hk1⟩
    have cw10 : w1.cell? ⟨w.heap.size, 0, none⟩ = some (.int .i64 txn) := (b0.same hk1).cell 0
    have cw11 : w1.cell? ⟨w.heap.size, 1, none⟩ = some (.int .i64 prev) := (b0.same hk1).cell 1
    have cw12 : w1.cell? ⟨w.heap.size, 2, none⟩ = some (.int .i64 page) := (b0.same hk1).cell 2
    have cw13 : w1.cell? ⟨w.heap.size, 3, none⟩ = some (.int .i64 slot) := (b0.same hk1).cell 3
    have cw14 : w1.cell? ⟨w.heap.size, 4, none⟩ = some (.bool after_used) := (b0.same hk1).cell 4
    have cw15 : w1.cell? ⟨w.heap.size, 5, none⟩ = some (.slice after_data_a after_data_n after_data_c) := (b0.same hk1).cell 5
    have cw16 : w1.cell? ⟨w.heap.size, 6, none⟩ = some (.int .i64 undoNext) := (b0.same hk1).cell 6
    go_wp2_with fail
    have hbb := b0.same hk1
    have hSx : ∀ wx, Same w1 wx → (fun wx : World => wx.cell? ⟨w.heap.size, 0, none⟩ = some (.int .i64 txn) ∧ wx.cell? ⟨w.heap.size, 1, none⟩ = some (.int .i64 prev) ∧ wx.cell? ⟨w.heap.size, 2, none⟩ = some (.int .i64 page) ∧ wx.cell? ⟨w.heap.size, 3, none⟩ = some (.int .i64 slot) ∧ wx.cell? ⟨w.heap.size, 4, none⟩ = some (.bool after_used) ∧ wx.cell? ⟨w.heap.size, 5, none⟩ = some (.slice after_data_a after_data_n after_data_c) ∧ wx.cell? ⟨w.heap.size, 6, none⟩ = some (.int .i64 undoNext)) wx := fun wx h => ⟨(hbb.same h).cell 0, (hbb.same h).cell 1, (hbb.same h).cell 2, (hbb.same h).cell 3, (hbb.same h).cell 4, (hbb.same h).cell 5, (hbb.same h).cell 6⟩
    have hS : (fun wx : World => wx.cell? ⟨w.heap.size, 0, none⟩ = some (.int .i64 txn) ∧ wx.cell? ⟨w.heap.size, 1, none⟩ = some (.int .i64 prev) ∧ wx.cell? ⟨w.heap.size, 2, none⟩ = some (.int .i64 page) ∧ wx.cell? ⟨w.heap.size, 3, none⟩ = some (.int .i64 slot) ∧ wx.cell? ⟨w.heap.size, 4, none⟩ = some (.bool after_used) ∧ wx.cell? ⟨w.heap.size, 5, none⟩ = some (.slice after_data_a after_data_n after_data_c) ∧ wx.cell? ⟨w.heap.size, 6, none⟩ = some (.int .i64 undoNext)) w1.drew := by exact hSx _ (Kept.refl _ _).drew
    refine wp_region_V (fun wx : World => wx.cell? ⟨w.heap.size, 0, none⟩ = some (.int .i64 txn) ∧ wx.cell? ⟨w.heap.size, 1, none⟩ = some (.int .i64 prev) ∧ wx.cell? ⟨w.heap.size, 2, none⟩ = some (.int .i64 page) ∧ wx.cell? ⟨w.heap.size, 3, none⟩ = some (.int .i64 slot) ∧ wx.cell? ⟨w.heap.size, 4, none⟩ = some (.bool after_used) ∧ wx.cell? ⟨w.heap.size, 5, none⟩ = some (.slice after_data_a after_data_n after_data_c) ∧ wx.cell? ⟨w.heap.size, 6, none⟩ = some (.int .i64 undoNext)) 9 10 rfl (by kernel_rfl) ?_
    refine wpAnyV_take (i := 0) (v := ?vq1) (some 14) rfl rfl (by kernel_rfl) (by kernel_rfl) (by kernel_rfl) (by kernel_rfl) (fun _ _ _ h => h) (Or.inl ⟨by rfl, ?hyq1⟩) hS ?_
    case hyq1 => (intro w hSw; (try dsimp only at hSw); go_simp; (try with_reducible rfl))
    try simp only [Act.put, List.setIfInBounds_toArray, List.set_cons_zero, List.set_cons_succ]
    refine wpAnyV_take (i := 1) (v := ?vq2) (some 15) rfl rfl (by kernel_rfl) (by kernel_rfl) (by kernel_rfl) (by kernel_rfl) (fun _ _ _ h => h) (Or.inl ⟨by rfl, ?hyq2⟩) hS ?_
    case hyq2 => (intro w hSw; (try dsimp only at hSw); go_simp; (try with_reducible rfl))
    try simp only [Act.put, List.setIfInBounds_toArray, List.set_cons_zero, List.set_cons_succ]
    refine wpAnyV_take (i := 3) (v := ?vq3) (some 17) rfl rfl (by kernel_rfl) (by kernel_rfl) (by kernel_rfl) (by kernel_rfl) (fun _ _ _ h => h) (Or.inl ⟨by rfl, ?hyq3⟩) hS ?_
    case hyq3 => (intro w hSw; (try dsimp only at hSw); go_simp; (try with_reducible rfl))
    try simp only [Act.put, List.setIfInBounds_toArray, List.set_cons_zero, List.set_cons_succ]
    refine wpAnyV_take (i := 4) (v := ?vq4) (some 18) rfl rfl (by kernel_rfl) (by kernel_rfl) (by kernel_rfl) (by kernel_rfl) (fun _ _ _ h => h) (Or.inl ⟨by rfl, ?hyq4⟩) hS ?_
    case hyq4 => (intro w hSw; (try dsimp only at hSw); go_simp; (try with_reducible rfl))
    try simp only [Act.put, List.setIfInBounds_toArray, List.set_cons_zero, List.set_cons_succ]
    refine wpAnyV_take (i := 6) (v := ?vq5) (some 20) rfl rfl (by kernel_rfl) (by kernel_rfl) (by kernel_rfl) (by kernel_rfl) (fun _ _ _ h => h) (Or.inl ⟨by rfl, ?hyq5⟩) hS ?_
    case hyq5 => (intro w hSw; (try dsimp only at hSw); go_simp; (try with_reducible rfl))
    try simp only [Act.put, List.setIfInBounds_toArray, List.set_cons_zero, List.set_cons_succ]
    refine wpAnyV_one (i := 2) (by kernel_rfl) rfl (fun K hK => ?_)
    go_simp
    have hc := headFault_any txn prev (w1.drew)
    with_reducible refine hc.mono ?_
    clear hc
    rintro e wa ⟨rfl, hkk⟩
    have hkwa : Same w1 wa := Kept.trans ((Kept.refl _ _).drew) hkk
    clear hkk
    have hS : (fun wx : World => wx.cell? ⟨w.heap.size, 0, none⟩ = some (.int .i64 txn) ∧ wx.cell? ⟨w.heap.size, 1, none⟩ = some (.int .i64 prev) ∧ wx.cell? ⟨w.heap.size, 2, none⟩ = some (.int .i64 page) ∧ wx.cell? ⟨w.heap.size, 3, none⟩ = some (.int .i64 slot) ∧ wx.cell? ⟨w.heap.size, 4, none⟩ = some (.bool after_used) ∧ wx.cell? ⟨w.heap.size, 5, none⟩ = some (.slice after_data_a after_data_n after_data_c) ∧ wx.cell? ⟨w.heap.size, 6, none⟩ = some (.int .i64 undoNext)) wa := hSx _ hkwa
    refine hK.out _ _ (fun _ => hS) ?_
    clear hK K
    try simp only [Act.put, List.setIfInBounds_toArray, List.set_cons_zero, List.set_cons_succ]
    refine wpAnyV_one (i := 5) (by kernel_rfl) rfl (fun K hK => ?_)
    go_simp
    have hc := placeFault_any page slot wa
    with_reducible refine hc.mono ?_
    clear hc
    rintro e wb ⟨rfl, hkk⟩
    have hkwb : Same w1 wb := Kept.trans (hkwa) hkk
    clear hkk
    have hS : (fun wx : World => wx.cell? ⟨w.heap.size, 0, none⟩ = some (.int .i64 txn) ∧ wx.cell? ⟨w.heap.size, 1, none⟩ = some (.int .i64 prev) ∧ wx.cell? ⟨w.heap.size, 2, none⟩ = some (.int .i64 page) ∧ wx.cell? ⟨w.heap.size, 3, none⟩ = some (.int .i64 slot) ∧ wx.cell? ⟨w.heap.size, 4, none⟩ = some (.bool after_used) ∧ wx.cell? ⟨w.heap.size, 5, none⟩ = some (.slice after_data_a after_data_n after_data_c) ∧ wx.cell? ⟨w.heap.size, 6, none⟩ = some (.int .i64 undoNext)) wb := hSx _ hkwb
    refine hK.out _ _ (fun _ => hS) ?_
    clear hK K
    try simp only [Act.put, List.setIfInBounds_toArray, List.set_cons_zero, List.set_cons_succ]
    refine wpAnyV_one (i := 7) (by kernel_rfl) rfl (fun K hK => ?_)
    go_simp
    have bz := Blk.new wb #[.int .i64 (headF txn prev), .int .i64 (placeF page slot), .int .i64 6] 2
    have hkz : Same w1 (wb.alloc (.cells #[.int .i64 (headF txn prev), .int .i64 (placeF page slot), .int .i64 6] 2)) := hkwb.alloc _
    have hS : (fun wx : World => wx.cell? ⟨w.heap.size, 0, none⟩ = some (.int .i64 txn) ∧ wx.cell? ⟨w.heap.size, 1, none⟩ = some (.int .i64 prev) ∧ wx.cell? ⟨w.heap.size, 2, none⟩ = some (.int .i64 page) ∧ wx.cell? ⟨w.heap.size, 3, none⟩ = some (.int .i64 slot) ∧ wx.cell? ⟨w.heap.size, 4, none⟩ = some (.bool after_used) ∧ wx.cell? ⟨w.heap.size, 5, none⟩ = some (.slice after_data_a after_data_n after_data_c) ∧ wx.cell? ⟨w.heap.size, 6, none⟩ = some (.int .i64 undoNext)) _ := hSx _ hkz
    refine hK.out _ _ (fun _ => hS) ?_
    clear hK K
    try simp only [Act.put, List.setIfInBounds_toArray, List.set_cons_zero, List.set_cons_succ]
    refine wpAnyV_one (i := 8) (by kernel_rfl) rfl (fun K hK => ?_)
    go_simp
    have hc := cmpOr_any 0 (headF txn prev) (placeF page slot) 6 wb.heap.size (wb.alloc (.cells #[.int .i64 (headF txn prev), .int .i64 (placeF page slot), .int .i64 6] 2)) (bz.cell 0) (bz.cell 1) (bz.cell 2)
    with_reducible refine hc.mono ?_
    clear hc
    rintro e wc ⟨rfl, hkk⟩
    have hkwc : Same w1 wc := Kept.trans (hkz) hkk
    clear hkk
    have hS : (fun wx : World => wx.cell? ⟨w.heap.size, 0, none⟩ = some (.int .i64 txn) ∧ wx.cell? ⟨w.heap.size, 1, none⟩ = some (.int .i64 prev) ∧ wx.cell? ⟨w.heap.size, 2, none⟩ = some (.int .i64 page) ∧ wx.cell? ⟨w.heap.size, 3, none⟩ = some (.int .i64 slot) ∧ wx.cell? ⟨w.heap.size, 4, none⟩ = some (.bool after_used) ∧ wx.cell? ⟨w.heap.size, 5, none⟩ = some (.slice after_data_a after_data_n after_data_c) ∧ wx.cell? ⟨w.heap.size, 6, none⟩ = some (.int .i64 undoNext)) wc := hSx _ hkwc
    refine hK.out _ _ (fun _ => hS) ?_
    clear hK K
    try simp only [Act.put, List.setIfInBounds_toArray, List.set_cons_zero, List.set_cons_succ]
    refine wpAnyV_one (i := 9) (by kernel_rfl) rfl (fun K hK => ?_)
    go_simp
    refine hK.out _ _ (fun h => absurd rfl h) ?_
    clear hK K
    refine wpAnyV_done (by kernel_rfl) ?_
    try simp only [Act.put, List.setIfInBounds_toArray, List.set_cons_zero, List.set_cons_succ]
    go_wp2
    go_ret
    exact ⟨rfl, (hk0.trans hk1).trans hkwc⟩
  | true =>
    rw [e1] at h1
    cases e2 : isLSN undoNext with
    | false =>
      rw [e2] at h2
      simp only [Bool.true_eq_false, if_false, if_true]
      go_enter Try.func137, Try.ntmps137
      go_wp2_with fail
      refine (h1 _).mono ?_
      rintro e w0 ⟨rfl, hk1⟩
      have cw00 : w0.cell? ⟨w.heap.size, 0, none⟩ = some (.int .i64 txn) := (b0.same hk1).cell 0
      have cw01 : w0.cell? ⟨w.heap.size, 1, none⟩ = some (.int .i64 prev) := (b0.same hk1).cell 1
      have cw02 : w0.cell? ⟨w.heap.size, 2, none⟩ = some (.int .i64 page) := (b0.same hk1).cell 2
      have cw03 : w0.cell? ⟨w.heap.size, 3, none⟩ = some (.int .i64 slot) := (b0.same hk1).cell 3
      have cw04 : w0.cell? ⟨w.heap.size, 4, none⟩ = some (.bool after_used) := (b0.same hk1).cell 4
      have cw05 : w0.cell? ⟨w.heap.size, 5, none⟩ = some (.slice after_data_a after_data_n after_data_c) := (b0.same hk1).cell 5
      have cw06 : w0.cell? ⟨w.heap.size, 6, none⟩ = some (.int .i64 undoNext) := (b0.same hk1).cell 6
      go_wp2_with fail
      refine (h2 _).mono ?_
      rintro e w1 ⟨rfl, hk2⟩
      have hk1 := hk1.trans hk2
      clear cw00 cw01 cw02 cw03 cw04 cw05 cw06
      have cw10 : w1.cell? ⟨w.heap.size, 0, none⟩ = some (.int .i64 txn) := (b0.same hk1).cell 0
      have cw11 : w1.cell? ⟨w.heap.size, 1, none⟩ = some (.int .i64 prev) := (b0.same hk1).cell 1
      have cw12 : w1.cell? ⟨w.heap.size, 2, none⟩ = some (.int .i64 page) := (b0.same hk1).cell 2
      have cw13 : w1.cell? ⟨w.heap.size, 3, none⟩ = some (.int .i64 slot) := (b0.same hk1).cell 3
      have cw14 : w1.cell? ⟨w.heap.size, 4, none⟩ = some (.bool after_used) := (b0.same hk1).cell 4
      have cw15 : w1.cell? ⟨w.heap.size, 5, none⟩ = some (.slice after_data_a after_data_n after_data_c) := (b0.same hk1).cell 5
      have cw16 : w1.cell? ⟨w.heap.size, 6, none⟩ = some (.int .i64 undoNext) := (b0.same hk1).cell 6
      go_wp2_with fail
      have hbb := b0.same hk1
      have hSx : ∀ wx, Same w1 wx → (fun wx : World => wx.cell? ⟨w.heap.size, 0, none⟩ = some (.int .i64 txn) ∧ wx.cell? ⟨w.heap.size, 1, none⟩ = some (.int .i64 prev) ∧ wx.cell? ⟨w.heap.size, 2, none⟩ = some (.int .i64 page) ∧ wx.cell? ⟨w.heap.size, 3, none⟩ = some (.int .i64 slot) ∧ wx.cell? ⟨w.heap.size, 4, none⟩ = some (.bool after_used) ∧ wx.cell? ⟨w.heap.size, 5, none⟩ = some (.slice after_data_a after_data_n after_data_c) ∧ wx.cell? ⟨w.heap.size, 6, none⟩ = some (.int .i64 undoNext)) wx := fun wx h => ⟨(hbb.same h).cell 0, (hbb.same h).cell 1, (hbb.same h).cell 2, (hbb.same h).cell 3, (hbb.same h).cell 4, (hbb.same h).cell 5, (hbb.same h).cell 6⟩
      have hS : (fun wx : World => wx.cell? ⟨w.heap.size, 0, none⟩ = some (.int .i64 txn) ∧ wx.cell? ⟨w.heap.size, 1, none⟩ = some (.int .i64 prev) ∧ wx.cell? ⟨w.heap.size, 2, none⟩ = some (.int .i64 page) ∧ wx.cell? ⟨w.heap.size, 3, none⟩ = some (.int .i64 slot) ∧ wx.cell? ⟨w.heap.size, 4, none⟩ = some (.bool after_used) ∧ wx.cell? ⟨w.heap.size, 5, none⟩ = some (.slice after_data_a after_data_n after_data_c) ∧ wx.cell? ⟨w.heap.size, 6, none⟩ = some (.int .i64 undoNext)) w1.drew := by exact hSx _ (Kept.refl _ _).drew
      refine wp_region_V (fun wx : World => wx.cell? ⟨w.heap.size, 0, none⟩ = some (.int .i64 txn) ∧ wx.cell? ⟨w.heap.size, 1, none⟩ = some (.int .i64 prev) ∧ wx.cell? ⟨w.heap.size, 2, none⟩ = some (.int .i64 page) ∧ wx.cell? ⟨w.heap.size, 3, none⟩ = some (.int .i64 slot) ∧ wx.cell? ⟨w.heap.size, 4, none⟩ = some (.bool after_used) ∧ wx.cell? ⟨w.heap.size, 5, none⟩ = some (.slice after_data_a after_data_n after_data_c) ∧ wx.cell? ⟨w.heap.size, 6, none⟩ = some (.int .i64 undoNext)) 9 10 rfl (by kernel_rfl) ?_
      refine wpAnyV_take (i := 0) (v := ?vq6) (some 14) rfl rfl (by kernel_rfl) (by kernel_rfl) (by kernel_rfl) (by kernel_rfl) (fun _ _ _ h => h) (Or.inl ⟨by rfl, ?hyq6⟩) hS ?_
      case hyq6 => (intro w hSw; (try dsimp only at hSw); go_simp; (try with_reducible rfl))
      try simp only [Act.put, List.setIfInBounds_toArray, List.set_cons_zero, List.set_cons_succ]
      refine wpAnyV_take (i := 1) (v := ?vq7) (some 15) rfl rfl (by kernel_rfl) (by kernel_rfl) (by kernel_rfl) (by kernel_rfl) (fun _ _ _ h => h) (Or.inl ⟨by rfl, ?hyq7⟩) hS ?_
      case hyq7 => (intro w hSw; (try dsimp only at hSw); go_simp; (try with_reducible rfl))
      try simp only [Act.put, List.setIfInBounds_toArray, List.set_cons_zero, List.set_cons_succ]
      refine wpAnyV_take (i := 3) (v := ?vq8) (some 17) rfl rfl (by kernel_rfl) (by kernel_rfl) (by kernel_rfl) (by kernel_rfl) (fun _ _ _ h => h) (Or.inl ⟨by rfl, ?hyq8⟩) hS ?_
      case hyq8 => (intro w hSw; (try dsimp only at hSw); go_simp; (try with_reducible rfl))
      try simp only [Act.put, List.setIfInBounds_toArray, List.set_cons_zero, List.set_cons_succ]
      refine wpAnyV_take (i := 4) (v := ?vq9) (some 18) rfl rfl (by kernel_rfl) (by kernel_rfl) (by kernel_rfl) (by kernel_rfl) (fun _ _ _ h => h) (Or.inl ⟨by rfl, ?hyq9⟩) hS ?_
      case hyq9 => (intro w hSw; (try dsimp only at hSw); go_simp; (try with_reducible rfl))
      try simp only [Act.put, List.setIfInBounds_toArray, List.set_cons_zero, List.set_cons_succ]
      refine wpAnyV_take (i := 6) (v := ?vq10) (some 20) rfl rfl (by kernel_rfl) (by kernel_rfl) (by kernel_rfl) (by kernel_rfl) (fun _ _ _ h => h) (Or.inl ⟨by rfl, ?hyq10⟩) hS ?_
      case hyq10 => (intro w hSw; (try dsimp only at hSw); go_simp; (try with_reducible rfl))
      try simp only [Act.put, List.setIfInBounds_toArray, List.set_cons_zero, List.set_cons_succ]
      refine wpAnyV_one (i := 2) (by kernel_rfl) rfl (fun K hK => ?_)
      go_simp
      have hc := headFault_any txn prev (w1.drew)
      with_reducible refine hc.mono ?_
      clear hc
      rintro e wa ⟨rfl, hkk⟩
      have hkwa : Same w1 wa := Kept.trans ((Kept.refl _ _).drew) hkk
      clear hkk
      have hS : (fun wx : World => wx.cell? ⟨w.heap.size, 0, none⟩ = some (.int .i64 txn) ∧ wx.cell? ⟨w.heap.size, 1, none⟩ = some (.int .i64 prev) ∧ wx.cell? ⟨w.heap.size, 2, none⟩ = some (.int .i64 page) ∧ wx.cell? ⟨w.heap.size, 3, none⟩ = some (.int .i64 slot) ∧ wx.cell? ⟨w.heap.size, 4, none⟩ = some (.bool after_used) ∧ wx.cell? ⟨w.heap.size, 5, none⟩ = some (.slice after_data_a after_data_n after_data_c) ∧ wx.cell? ⟨w.heap.size, 6, none⟩ = some (.int .i64 undoNext)) wa := hSx _ hkwa
      refine hK.out _ _ (fun _ => hS) ?_
      clear hK K
      try simp only [Act.put, List.setIfInBounds_toArray, List.set_cons_zero, List.set_cons_succ]
      refine wpAnyV_one (i := 5) (by kernel_rfl) rfl (fun K hK => ?_)
      go_simp
      have hc := placeFault_any page slot wa
      with_reducible refine hc.mono ?_
      clear hc
      rintro e wb ⟨rfl, hkk⟩
      have hkwb : Same w1 wb := Kept.trans (hkwa) hkk
      clear hkk
      have hS : (fun wx : World => wx.cell? ⟨w.heap.size, 0, none⟩ = some (.int .i64 txn) ∧ wx.cell? ⟨w.heap.size, 1, none⟩ = some (.int .i64 prev) ∧ wx.cell? ⟨w.heap.size, 2, none⟩ = some (.int .i64 page) ∧ wx.cell? ⟨w.heap.size, 3, none⟩ = some (.int .i64 slot) ∧ wx.cell? ⟨w.heap.size, 4, none⟩ = some (.bool after_used) ∧ wx.cell? ⟨w.heap.size, 5, none⟩ = some (.slice after_data_a after_data_n after_data_c) ∧ wx.cell? ⟨w.heap.size, 6, none⟩ = some (.int .i64 undoNext)) wb := hSx _ hkwb
      refine hK.out _ _ (fun _ => hS) ?_
      clear hK K
      try simp only [Act.put, List.setIfInBounds_toArray, List.set_cons_zero, List.set_cons_succ]
      refine wpAnyV_one (i := 7) (by kernel_rfl) rfl (fun K hK => ?_)
      go_simp
      have bz := Blk.new wb #[.int .i64 (headF txn prev), .int .i64 (placeF page slot), .int .i64 7] 2
      have hkz : Same w1 (wb.alloc (.cells #[.int .i64 (headF txn prev), .int .i64 (placeF page slot), .int .i64 7] 2)) := hkwb.alloc _
      have hS : (fun wx : World => wx.cell? ⟨w.heap.size, 0, none⟩ = some (.int .i64 txn) ∧ wx.cell? ⟨w.heap.size, 1, none⟩ = some (.int .i64 prev) ∧ wx.cell? ⟨w.heap.size, 2, none⟩ = some (.int .i64 page) ∧ wx.cell? ⟨w.heap.size, 3, none⟩ = some (.int .i64 slot) ∧ wx.cell? ⟨w.heap.size, 4, none⟩ = some (.bool after_used) ∧ wx.cell? ⟨w.heap.size, 5, none⟩ = some (.slice after_data_a after_data_n after_data_c) ∧ wx.cell? ⟨w.heap.size, 6, none⟩ = some (.int .i64 undoNext)) _ := hSx _ hkz
      refine hK.out _ _ (fun _ => hS) ?_
      clear hK K
      try simp only [Act.put, List.setIfInBounds_toArray, List.set_cons_zero, List.set_cons_succ]
      refine wpAnyV_one (i := 8) (by kernel_rfl) rfl (fun K hK => ?_)
      go_simp
      have hc := cmpOr_any 0 (headF txn prev) (placeF page slot) 7 wb.heap.size (wb.alloc (.cells #[.int .i64 (headF txn prev), .int .i64 (placeF page slot), .int .i64 7] 2)) (bz.cell 0) (bz.cell 1) (bz.cell 2)
      with_reducible refine hc.mono ?_
      clear hc
      rintro e wc ⟨rfl, hkk⟩
      have hkwc : Same w1 wc := Kept.trans (hkz) hkk
      clear hkk
      have hS : (fun wx : World => wx.cell? ⟨w.heap.size, 0, none⟩ = some (.int .i64 txn) ∧ wx.cell? ⟨w.heap.size, 1, none⟩ = some (.int .i64 prev) ∧ wx.cell? ⟨w.heap.size, 2, none⟩ = some (.int .i64 page) ∧ wx.cell? ⟨w.heap.size, 3, none⟩ = some (.int .i64 slot) ∧ wx.cell? ⟨w.heap.size, 4, none⟩ = some (.bool after_used) ∧ wx.cell? ⟨w.heap.size, 5, none⟩ = some (.slice after_data_a after_data_n after_data_c) ∧ wx.cell? ⟨w.heap.size, 6, none⟩ = some (.int .i64 undoNext)) wc := hSx _ hkwc
      refine hK.out _ _ (fun _ => hS) ?_
      clear hK K
      try simp only [Act.put, List.setIfInBounds_toArray, List.set_cons_zero, List.set_cons_succ]
      refine wpAnyV_one (i := 9) (by kernel_rfl) rfl (fun K hK => ?_)
      go_simp
      refine hK.out _ _ (fun h => absurd rfl h) ?_
      clear hK K
      refine wpAnyV_done (by kernel_rfl) ?_
      try simp only [Act.put, List.setIfInBounds_toArray, List.set_cons_zero, List.set_cons_succ]
      go_wp2
      go_ret
      exact ⟨rfl, (hk0.trans hk1).trans hkwc⟩
    | true =>
      rw [e2] at h2
      simp only [Bool.true_eq_false, if_false]
      go_enter Try.func137, Try.ntmps137
      go_wp2_with fail
      refine (h1 _).mono ?_
      rintro e w0 ⟨rfl, hk1⟩
      have cw00 : w0.cell? ⟨w.heap.size, 0, none⟩ = some (.int .i64 txn) := (b0.same hk1).cell 0
      have cw01 : w0.cell? ⟨w.heap.size, 1, none⟩ = some (.int .i64 prev) := (b0.same hk1).cell 1
      have cw02 : w0.cell? ⟨w.heap.size, 2, none⟩ = some (.int .i64 page) := (b0.same hk1).cell 2
      have cw03 : w0.cell? ⟨w.heap.size, 3, none⟩ = some (.int .i64 slot) := (b0.same hk1).cell 3
      have cw04 : w0.cell? ⟨w.heap.size, 4, none⟩ = some (.bool after_used) := (b0.same hk1).cell 4
      have cw05 : w0.cell? ⟨w.heap.size, 5, none⟩ = some (.slice after_data_a after_data_n after_data_c) := (b0.same hk1).cell 5
      have cw06 : w0.cell? ⟨w.heap.size, 6, none⟩ = some (.int .i64 undoNext) := (b0.same hk1).cell 6
      go_wp2_with fail
      refine (h2 _).mono ?_
      rintro e w1 ⟨rfl, hk2⟩
      have hk1 := hk1.trans hk2
      clear cw00 cw01 cw02 cw03 cw04 cw05 cw06
      have cw10 : w1.cell? ⟨w.heap.size, 0, none⟩ = some (.int .i64 txn) := (b0.same hk1).cell 0
      have cw11 : w1.cell? ⟨w.heap.size, 1, none⟩ = some (.int .i64 prev) := (b0.same hk1).cell 1
      have cw12 : w1.cell? ⟨w.heap.size, 2, none⟩ = some (.int .i64 page) := (b0.same hk1).cell 2
      have cw13 : w1.cell? ⟨w.heap.size, 3, none⟩ = some (.int .i64 slot) := (b0.same hk1).cell 3
      have cw14 : w1.cell? ⟨w.heap.size, 4, none⟩ = some (.bool after_used) := (b0.same hk1).cell 4
      have cw15 : w1.cell? ⟨w.heap.size, 5, none⟩ = some (.slice after_data_a after_data_n after_data_c) := (b0.same hk1).cell 5
      have cw16 : w1.cell? ⟨w.heap.size, 6, none⟩ = some (.int .i64 undoNext) := (b0.same hk1).cell 6
      go_wp2_with fail
      have hbb := b0.same hk1
      have hSx : ∀ wx, Same w1 wx → (fun wx : World => wx.cell? ⟨w.heap.size, 0, none⟩ = some (.int .i64 txn) ∧ wx.cell? ⟨w.heap.size, 1, none⟩ = some (.int .i64 prev) ∧ wx.cell? ⟨w.heap.size, 2, none⟩ = some (.int .i64 page) ∧ wx.cell? ⟨w.heap.size, 3, none⟩ = some (.int .i64 slot) ∧ wx.cell? ⟨w.heap.size, 4, none⟩ = some (.bool after_used) ∧ wx.cell? ⟨w.heap.size, 5, none⟩ = some (.slice after_data_a after_data_n after_data_c) ∧ wx.cell? ⟨w.heap.size, 6, none⟩ = some (.int .i64 undoNext)) wx := fun wx h => ⟨(hbb.same h).cell 0, (hbb.same h).cell 1, (hbb.same h).cell 2, (hbb.same h).cell 3, (hbb.same h).cell 4, (hbb.same h).cell 5, (hbb.same h).cell 6⟩
      have hS : (fun wx : World => wx.cell? ⟨w.heap.size, 0, none⟩ = some (.int .i64 txn) ∧ wx.cell? ⟨w.heap.size, 1, none⟩ = some (.int .i64 prev) ∧ wx.cell? ⟨w.heap.size, 2, none⟩ = some (.int .i64 page) ∧ wx.cell? ⟨w.heap.size, 3, none⟩ = some (.int .i64 slot) ∧ wx.cell? ⟨w.heap.size, 4, none⟩ = some (.bool after_used) ∧ wx.cell? ⟨w.heap.size, 5, none⟩ = some (.slice after_data_a after_data_n after_data_c) ∧ wx.cell? ⟨w.heap.size, 6, none⟩ = some (.int .i64 undoNext)) w1.drew := by exact hSx _ (Kept.refl _ _).drew
      refine wp_region_V (fun wx : World => wx.cell? ⟨w.heap.size, 0, none⟩ = some (.int .i64 txn) ∧ wx.cell? ⟨w.heap.size, 1, none⟩ = some (.int .i64 prev) ∧ wx.cell? ⟨w.heap.size, 2, none⟩ = some (.int .i64 page) ∧ wx.cell? ⟨w.heap.size, 3, none⟩ = some (.int .i64 slot) ∧ wx.cell? ⟨w.heap.size, 4, none⟩ = some (.bool after_used) ∧ wx.cell? ⟨w.heap.size, 5, none⟩ = some (.slice after_data_a after_data_n after_data_c) ∧ wx.cell? ⟨w.heap.size, 6, none⟩ = some (.int .i64 undoNext)) 9 10 rfl (by kernel_rfl) ?_
      refine wpAnyV_take (i := 0) (v := ?vq11) (some 14) rfl rfl (by kernel_rfl) (by kernel_rfl) (by kernel_rfl) (by kernel_rfl) (fun _ _ _ h => h) (Or.inl ⟨by rfl, ?hyq11⟩) hS ?_
      case hyq11 => (intro w hSw; (try dsimp only at hSw); go_simp; (try with_reducible rfl))
      try simp only [Act.put, List.setIfInBounds_toArray, List.set_cons_zero, List.set_cons_succ]
      refine wpAnyV_take (i := 1) (v := ?vq12) (some 15) rfl rfl (by kernel_rfl) (by kernel_rfl) (by kernel_rfl) (by kernel_rfl) (fun _ _ _ h => h) (Or.inl ⟨by rfl, ?hyq12⟩) hS ?_
      case hyq12 => (intro w hSw; (try dsimp only at hSw); go_simp; (try with_reducible rfl))
      try simp only [Act.put, List.setIfInBounds_toArray, List.set_cons_zero, List.set_cons_succ]
      refine wpAnyV_take (i := 3) (v := ?vq13) (some 17) rfl rfl (by kernel_rfl) (by kernel_rfl) (by kernel_rfl) (by kernel_rfl) (fun _ _ _ h => h) (Or.inl ⟨by rfl, ?hyq13⟩) hS ?_
      case hyq13 => (intro w hSw; (try dsimp only at hSw); go_simp; (try with_reducible rfl))
      try simp only [Act.put, List.setIfInBounds_toArray, List.set_cons_zero, List.set_cons_succ]
      refine wpAnyV_take (i := 4) (v := ?vq14) (some 18) rfl rfl (by kernel_rfl) (by kernel_rfl) (by kernel_rfl) (by kernel_rfl) (fun _ _ _ h => h) (Or.inl ⟨by rfl, ?hyq14⟩) hS ?_
      case hyq14 => (intro w hSw; (try dsimp only at hSw); go_simp; (try with_reducible rfl))
      try simp only [Act.put, List.setIfInBounds_toArray, List.set_cons_zero, List.set_cons_succ]
      refine wpAnyV_take (i := 6) (v := ?vq15) (some 20) rfl rfl (by kernel_rfl) (by kernel_rfl) (by kernel_rfl) (by kernel_rfl) (fun _ _ _ h => h) (Or.inl ⟨by rfl, ?hyq15⟩) hS ?_
      case hyq15 => (intro w hSw; (try dsimp only at hSw); go_simp; (try with_reducible rfl))
      try simp only [Act.put, List.setIfInBounds_toArray, List.set_cons_zero, List.set_cons_succ]
      refine wpAnyV_one (i := 2) (by kernel_rfl) rfl (fun K hK => ?_)
      go_simp
      have hc := headFault_any txn prev (w1.drew)
      with_reducible refine hc.mono ?_
      clear hc
      rintro e wa ⟨rfl, hkk⟩
      have hkwa : Same w1 wa := Kept.trans ((Kept.refl _ _).drew) hkk
      clear hkk
      have hS : (fun wx : World => wx.cell? ⟨w.heap.size, 0, none⟩ = some (.int .i64 txn) ∧ wx.cell? ⟨w.heap.size, 1, none⟩ = some (.int .i64 prev) ∧ wx.cell? ⟨w.heap.size, 2, none⟩ = some (.int .i64 page) ∧ wx.cell? ⟨w.heap.size, 3, none⟩ = some (.int .i64 slot) ∧ wx.cell? ⟨w.heap.size, 4, none⟩ = some (.bool after_used) ∧ wx.cell? ⟨w.heap.size, 5, none⟩ = some (.slice after_data_a after_data_n after_data_c) ∧ wx.cell? ⟨w.heap.size, 6, none⟩ = some (.int .i64 undoNext)) wa := hSx _ hkwa
      refine hK.out _ _ (fun _ => hS) ?_
      clear hK K
      try simp only [Act.put, List.setIfInBounds_toArray, List.set_cons_zero, List.set_cons_succ]
      refine wpAnyV_one (i := 5) (by kernel_rfl) rfl (fun K hK => ?_)
      go_simp
      have hc := placeFault_any page slot wa
      with_reducible refine hc.mono ?_
      clear hc
      rintro e wb ⟨rfl, hkk⟩
      have hkwb : Same w1 wb := Kept.trans (hkwa) hkk
      clear hkk
      have hS : (fun wx : World => wx.cell? ⟨w.heap.size, 0, none⟩ = some (.int .i64 txn) ∧ wx.cell? ⟨w.heap.size, 1, none⟩ = some (.int .i64 prev) ∧ wx.cell? ⟨w.heap.size, 2, none⟩ = some (.int .i64 page) ∧ wx.cell? ⟨w.heap.size, 3, none⟩ = some (.int .i64 slot) ∧ wx.cell? ⟨w.heap.size, 4, none⟩ = some (.bool after_used) ∧ wx.cell? ⟨w.heap.size, 5, none⟩ = some (.slice after_data_a after_data_n after_data_c) ∧ wx.cell? ⟨w.heap.size, 6, none⟩ = some (.int .i64 undoNext)) wb := hSx _ hkwb
      refine hK.out _ _ (fun _ => hS) ?_
      clear hK K
      try simp only [Act.put, List.setIfInBounds_toArray, List.set_cons_zero, List.set_cons_succ]
      refine wpAnyV_one (i := 7) (by kernel_rfl) rfl (fun K hK => ?_)
      go_simp
      have bz := Blk.new wb #[.int .i64 (headF txn prev), .int .i64 (placeF page slot), .int .i64 0] 2
      have hkz : Same w1 (wb.alloc (.cells #[.int .i64 (headF txn prev), .int .i64 (placeF page slot), .int .i64 0] 2)) := hkwb.alloc _
      have hS : (fun wx : World => wx.cell? ⟨w.heap.size, 0, none⟩ = some (.int .i64 txn) ∧ wx.cell? ⟨w.heap.size, 1, none⟩ = some (.int .i64 prev) ∧ wx.cell? ⟨w.heap.size, 2, none⟩ = some (.int .i64 page) ∧ wx.cell? ⟨w.heap.size, 3, none⟩ = some (.int .i64 slot) ∧ wx.cell? ⟨w.heap.size, 4, none⟩ = some (.bool after_used) ∧ wx.cell? ⟨w.heap.size, 5, none⟩ = some (.slice after_data_a after_data_n after_data_c) ∧ wx.cell? ⟨w.heap.size, 6, none⟩ = some (.int .i64 undoNext)) _ := hSx _ hkz
      refine hK.out _ _ (fun _ => hS) ?_
      clear hK K
      try simp only [Act.put, List.setIfInBounds_toArray, List.set_cons_zero, List.set_cons_succ]
      refine wpAnyV_one (i := 8) (by kernel_rfl) rfl (fun K hK => ?_)
      go_simp
      have hc := cmpOr_any 0 (headF txn prev) (placeF page slot) 0 wb.heap.size (wb.alloc (.cells #[.int .i64 (headF txn prev), .int .i64 (placeF page slot), .int .i64 0] 2)) (bz.cell 0) (bz.cell 1) (bz.cell 2)
      with_reducible refine hc.mono ?_
      clear hc
      rintro e wc ⟨rfl, hkk⟩
      have hkwc : Same w1 wc := Kept.trans (hkz) hkk
      clear hkk
      have hS : (fun wx : World => wx.cell? ⟨w.heap.size, 0, none⟩ = some (.int .i64 txn) ∧ wx.cell? ⟨w.heap.size, 1, none⟩ = some (.int .i64 prev) ∧ wx.cell? ⟨w.heap.size, 2, none⟩ = some (.int .i64 page) ∧ wx.cell? ⟨w.heap.size, 3, none⟩ = some (.int .i64 slot) ∧ wx.cell? ⟨w.heap.size, 4, none⟩ = some (.bool after_used) ∧ wx.cell? ⟨w.heap.size, 5, none⟩ = some (.slice after_data_a after_data_n after_data_c) ∧ wx.cell? ⟨w.heap.size, 6, none⟩ = some (.int .i64 undoNext)) wc := hSx _ hkwc
      refine hK.out _ _ (fun _ => hS) ?_
      clear hK K
      try simp only [Act.put, List.setIfInBounds_toArray, List.set_cons_zero, List.set_cons_succ]
      refine wpAnyV_one (i := 9) (by kernel_rfl) rfl (fun K hK => ?_)
      go_simp
      refine hK.out _ _ (fun h => absurd rfl h) ?_
      clear hK K
      refine wpAnyV_done (by kernel_rfl) ?_
      try simp only [Act.put, List.setIfInBounds_toArray, List.set_cons_zero, List.set_cons_succ]
      go_wp2
      go_ret
      exact ⟨rfl, (hk0.trans hk1).trans hkwc⟩
def imgF (page : Int) (im : List Int) : Int := if isPageB page = false then 5 else if pageFault im page ≠ 0 then 9 else 0
set_option maxRecDepth 100000 in
set_option maxHeartbeats 16000000 in
theorem imageFault_any (page : Int) (image_a : Option Addr) (image_c : Nat) (im : List Int) (w : World) (hB : IsB im) (hn : im.length ≤ 1099511627776) (hv : Rd .u8 w (.slice image_a im.length image_c) im) :
    Calls Try.prog 144 #[.agg #[.int .i64 0, .int .i64 0, .int .i64 page, .slice image_a im.length image_c]] w fun e w' => e = .returned (.int .i64 (imgF page im)) ∧ Same w w' := by
  have h1 := fun wx => isPage_any page wx
  have b0 := Blk.new w #[.int .i64 0, .int .i64 0, .int .i64 page, .slice image_a im.length image_c] 111
  have hk0 : Same w (w.alloc (.cells #[.int .i64 0, .int .i64 0, .int .i64 page, .slice image_a im.length image_c] 111)) := (Kept.refl _ _).alloc _
  have h2 := fun wx (h : Same w wx) => implFault_any (.slice image_a im.length image_c) im page wx hB hn (hv.same h)
  unfold imgF
  clear hv hB hn
  cases e1 : isPageB page with
  | false =>
    rw [e1] at h1
    simp only [if_true]
    go_enter Try.func144, Try.ntmps144
    go_wp2_with (go_at_call 41; refine (h1 _).mono ?_; rintro e w1 ⟨rfl, hk1⟩)
    go_ret
    exact ⟨rfl, hk0.trans hk1⟩
  | true =>
    rw [e1] at h1
    simp only [Bool.true_eq_false, if_false]
    generalize pageFault im page = F at *
    by_cases hF : F = 0
    · subst hF
      simp only [ne_eq, not_true_eq_false, if_false]
      go_enter Try.func144, Try.ntmps144
      go_wp2_with (first
        | (go_at_call 41; refine (h1 _).mono ?_; rintro e w1 ⟨rfl, hk1⟩; have c2 : w1.cell? ⟨w.heap.size, 2, none⟩ = some (.int .i64 page) := (b0.same hk1).cell 2; have c3 : w1.cell? ⟨w.heap.size, 3, none⟩ = some (.slice image_a im.length image_c) := (b0.same hk1).cell 3; have h2' := h2 w1 (hk0.trans hk1))
        | (go_at_call 145; refine h2'.mono ?_; rintro e w2 ⟨rfl, hk2⟩))
      go_ret
      exact ⟨rfl, (hk0.trans hk1).trans hk2⟩
    · rw [if_pos hF]
      go_enter Try.func144, Try.ntmps144
      go_wp2_with (first
        | (go_at_call 41; refine (h1 _).mono ?_; rintro e w1 ⟨rfl, hk1⟩; have c2 : w1.cell? ⟨w.heap.size, 2, none⟩ = some (.int .i64 page) := (b0.same hk1).cell 2; have c3 : w1.cell? ⟨w.heap.size, 3, none⟩ = some (.slice image_a im.length image_c) := (b0.same hk1).cell 3; have h2' := h2 w1 (hk0.trans hk1))
        | (go_at_call 145; refine h2'.mono ?_; rintro e w2 ⟨rfl, hk2⟩))
      go_ret
      exact ⟨rfl, (hk0.trans hk1).trans hk2⟩
def tabF (nextTxn : Int) (tx : List Int) (tn : Nat) (dy : List Int) (dn : Nat) : Int := if (decide (1 ≤ nextTxn) && decide (nextTxn ≤ 2147483648) && allTxns tx tn && allDirty dy dn) = true then 0 else 8
set_option maxRecDepth 100000 in
set_option maxHeartbeats 16000000 in
theorem tablesFault_any (nextTxn : Int) (tx dy : FR) (w : World) (hv : RdF 4 w tx) (hv2 : RdF 2 w dy) :
    Calls Try.prog 140 #[.agg #[.int .i64 0, .int .i64 0, .int .i64 nextTxn, tx.v, dy.v]] w fun e w' => e = .returned (.int .i64 (tabF nextTxn tx.bs tx.n dy.bs dy.n)) ∧ Same w w' := by
  have h1 := fun wx (h : Same w wx) => Txns_any tx wx (hv.same h)
  have h2 := fun wx (h : Same w wx) => Dirty_any dy wx (hv2.same h)
  obtain ⟨txe, txa, txn, txc, txb⟩ := tx
  obtain ⟨dye, dya, dyn, dyc, dyb⟩ := dy
  dsimp only [FR.v] at *
  have b0 := Blk.new w #[.int .i64 0, .int .i64 0, .int .i64 nextTxn, .slice txa txn txc, .slice dya dyn dyc] 109
  have hk0 : Same w (w.alloc (.cells #[.int .i64 0, .int .i64 0, .int .i64 nextTxn, .slice txa txn txc, .slice dya dyn dyc] 109)) := (Kept.refl _ _).alloc _
  unfold tabF
  generalize allTxns txb txn = A at *
  generalize allDirty dyb dyn = B at *
  clear hv hv2
  by_cases hc0 : nextTxn < 1
  · rw [decide_eq_false (show ¬ (1 ≤ nextTxn) from by omega)]
    simp only [Bool.false_and, Bool.false_eq_true, if_false]
    go_enter Try.func140, Try.ntmps140
    go_wp2
    go_ret
    exact ⟨rfl, hk0⟩
  by_cases hc1 : 2147483648 < nextTxn
  · rw [decide_eq_false (show ¬ (nextTxn ≤ 2147483648) from by omega)]
    simp only [Bool.false_and, Bool.and_false, Bool.false_eq_true, if_false]
    go_enter Try.func140, Try.ntmps140
    go_wp2
    go_ret
    exact ⟨rfl, hk0⟩
  rw [decide_eq_true (show 1 ≤ nextTxn from by omega), decide_eq_true (show nextTxn ≤ 2147483648 from by omega)]
  cases A with
  | false =>
    simp only [Bool.false_and, Bool.and_false, Bool.false_eq_true, if_false]
    go_enter Try.func140, Try.ntmps140
    go_wp2_with (go_at_call 141; refine (h1 _ hk0).mono ?_; rintro e w1 ⟨rfl, hk1⟩; have cw12 : w1.cell? ⟨w.heap.size, 2, none⟩ = some (.int .i64 nextTxn) := (b0.same hk1).cell 2; have cw13 : w1.cell? ⟨w.heap.size, 3, none⟩ = some (.slice txa txn txc) := (b0.same hk1).cell 3; have cw14 : w1.cell? ⟨w.heap.size, 4, none⟩ = some (.slice dya dyn dyc) := (b0.same hk1).cell 4)
    go_ret
    exact ⟨rfl, hk0.trans hk1⟩
  | true =>
    cases B with
    | false =>
      simp only [Bool.and_self, Bool.and_false, Bool.false_eq_true, if_false]
      go_enter Try.func140, Try.ntmps140
      go_wp2_with (first
        | (go_at_call 141; refine (h1 _ hk0).mono ?_; rintro e w1 ⟨rfl, hk1⟩; have cw12 : w1.cell? ⟨w.heap.size, 2, none⟩ = some (.int .i64 nextTxn) := (b0.same hk1).cell 2; have cw13 : w1.cell? ⟨w.heap.size, 3, none⟩ = some (.slice txa txn txc) := (b0.same hk1).cell 3; have cw14 : w1.cell? ⟨w.heap.size, 4, none⟩ = some (.slice dya dyn dyc) := (b0.same hk1).cell 4; have h2' := h2 w1 (hk0.trans hk1))
        | (go_at_call 142; refine h2'.mono ?_; rintro e w2 ⟨rfl, hk2⟩))
      go_ret
      exact ⟨rfl, (hk0.trans hk1).trans hk2⟩
    | true =>
      simp only [Bool.and_self, if_true]
      go_enter Try.func140, Try.ntmps140
      go_wp2_with (first
        | (go_at_call 141; refine (h1 _ hk0).mono ?_; rintro e w1 ⟨rfl, hk1⟩; have cw12 : w1.cell? ⟨w.heap.size, 2, none⟩ = some (.int .i64 nextTxn) := (b0.same hk1).cell 2; have cw13 : w1.cell? ⟨w.heap.size, 3, none⟩ = some (.slice txa txn txc) := (b0.same hk1).cell 3; have cw14 : w1.cell? ⟨w.heap.size, 4, none⟩ = some (.slice dya dyn dyc) := (b0.same hk1).cell 4; have h2' := h2 w1 (hk0.trans hk1))
        | (go_at_call 142; refine h2'.mono ?_; rintro e w2 ⟨rfl, hk2⟩))
      go_ret
      exact ⟨rfl, (hk0.trans hk1).trans hk2⟩
set_option maxRecDepth 100000 in
theorem beginFault_any (w : World) : Calls Try.prog 138 #[.agg #[.int .i64 0, .int .i64 0]] w fun e w' => e = .returned (.int .i64 0) ∧ Same w w' := by
  go_enter Try.func138, Try.ntmps138
  go_wp2
  go_ret
  exact ⟨rfl, by first | exact Kept.refl _ _ | exact (Kept.refl _ _).alloc _⟩
end Go.Proofs.Ytclmdpmelifplab
