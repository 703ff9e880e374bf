/-
  The faults of the kinds.
-/
import Derived.Test.YtclmdpmelifplabRecMath
import Derived.Great.BuildSlice
namespace Go.Proofs.Ytclmdpmelifplab
open Go.RowKit
set_option linter.unusedVariables false
set_option linter.unusedSimpArgs false
set_option maxRecDepth 100000 in
set_option maxHeartbeats 16000000 in
theorem updateFault_any (txn prev page slot : Int) (before_used after_used : Bool) (before_data_a after_data_a : Option Addr) (before_data_n before_data_c after_data_n after_data_c : Nat) (w : World) (hn1 : before_data_n ≤ maxLen) (hn2 : after_data_n ≤ maxLen) :
    Calls Try.prog 131 #[.agg #[.int .i64 txn, .int .i64 prev, .int .i64 page, .int .i64 slot, .bool before_used, .slice before_data_a before_data_n before_data_c, .bool after_used, .slice after_data_a after_data_n after_data_c]] w fun e w' => e = .returned (.int .i64 (orF (headF txn prev) (placeF page slot) (updF before_used after_used before_data_n after_data_n))) ∧ Same w w' := by
  have h1 := fun wx => fits_any before_used before_data_a before_data_n before_data_c wx hn1
  have h2 := fun wx => fits_any after_used after_data_a after_data_n after_data_c wx hn2
  have b0 := Blk.new w #[.int .i64 txn, .int .i64 prev, .int .i64 page, .int .i64 slot, .bool before_used, .slice before_data_a before_data_n before_data_c, .bool after_used, .slice after_data_a after_data_n after_data_c] 100
  have hk0 : Same w (w.alloc (.cells #[.int .i64 txn, .int .i64 prev, .int .i64 page, .int .i64 slot, .bool before_used, .slice before_data_a before_data_n before_data_c, .bool after_used, .slice after_data_a after_data_n after_data_c] 100)) := (Kept.refl _ _).alloc _
  unfold updF
  have hor : ∀ (v : Int) (w1 : World) (hk : Same (w.alloc (.cells #[.int .i64 txn, .int .i64 prev, .int .i64 page, .int .i64 slot, .bool before_used, .slice before_data_a before_data_n before_data_c, .bool after_used, .slice after_data_a after_data_n after_data_c] 100)) w1), True := fun _ _ _ => trivial
  cases e1 : fitsB before_used before_data_n with
  | false =>
    rw [e1] at h1
    simp only [Bool.false_and, Bool.false_eq_true, if_false]
    clear h2
    go_enter Try.func131, Try.ntmps131
    go_wp2_with (go_at_call 134; refine (h1 _).mono ?_; rintro e w1 ⟨rfl, hk1⟩; have cw10 : w1.cell? ⟨w.heap.size, 0, none⟩ = some (.int .i64 txn) := (b0.same hk1).cell 0; have cw11 : w1.cell? ⟨w.heap.size, 1, none⟩ = some (.int .i64 prev) := (b0.same hk1).cell 1; have cw12 : w1.cell? ⟨w.heap.size, 2, none⟩ = some (.int .i64 page) := (b0.same hk1).cell 2; have cw13 : w1.cell? ⟨w.heap.size, 3, none⟩ = some (.int .i64 slot) := (b0.same hk1).cell 3; have cw14 : w1.cell? ⟨w.heap.size, 4, none⟩ = some (.bool before_used) := (b0.same hk1).cell 4; have cw15 : w1.cell? ⟨w.heap.size, 5, none⟩ = some (.slice before_data_a before_data_n before_data_c) := (b0.same hk1).cell 5; have cw16 : w1.cell? ⟨w.heap.size, 6, none⟩ = some (.bool after_used) := (b0.same hk1).cell 6; have cw17 : w1.cell? ⟨w.heap.size, 7, none⟩ = some (.slice after_data_a after_data_n after_data_c) := (b0.same hk1).cell 7)
    have hbb := b0.same hk1
    have hSx : ∀ wx, Same w1 wx → (fun wx : World => wx.cell? ⟨w.heap.size, 0, none⟩ = some (.int .i64 txn) ∧ wx.cell? ⟨w.heap.size, 1, none⟩ = some (.int .i64 prev) ∧ wx.cell? ⟨w.heap.size, 2, none⟩ = some (.int .i64 page) ∧ wx.cell? ⟨w.heap.size, 3, none⟩ = some (.int .i64 slot) ∧ wx.cell? ⟨w.heap.size, 4, none⟩ = some (.bool before_used) ∧ wx.cell? ⟨w.heap.size, 5, none⟩ = some (.slice before_data_a before_data_n before_data_c) ∧ wx.cell? ⟨w.heap.size, 6, none⟩ = some (.bool after_used) ∧ wx.cell? ⟨w.heap.size, 7, none⟩ = some (.slice after_data_a after_data_n after_data_c)) wx := fun wx h => ⟨(hbb.same h).cell 0, (hbb.same h).cell 1, (hbb.same h).cell 2, (hbb.same h).cell 3, (hbb.same h).cell 4, (hbb.same h).cell 5, (hbb.same h).cell 6, (hbb.same h).cell 7⟩
    have hS : (fun wx : World => wx.cell? ⟨w.heap.size, 0, none⟩ = some (.int .i64 txn) ∧ wx.cell? ⟨w.heap.size, 1, none⟩ = some (.int .i64 prev) ∧ wx.cell? ⟨w.heap.size, 2, none⟩ = some (.int .i64 page) ∧ wx.cell? ⟨w.heap.size, 3, none⟩ = some (.int .i64 slot) ∧ wx.cell? ⟨w.heap.size, 4, none⟩ = some (.bool before_used) ∧ wx.cell? ⟨w.heap.size, 5, none⟩ = some (.slice before_data_a before_data_n before_data_c) ∧ wx.cell? ⟨w.heap.size, 6, none⟩ = some (.bool after_used) ∧ wx.cell? ⟨w.heap.size, 7, none⟩ = some (.slice after_data_a after_data_n after_data_c)) w1.drew := by exact hSx _ (Kept.refl _ _).drew
    refine wp_region_V (fun wx : World => wx.cell? ⟨w.heap.size, 0, none⟩ = some (.int .i64 txn) ∧ wx.cell? ⟨w.heap.size, 1, none⟩ = some (.int .i64 prev) ∧ wx.cell? ⟨w.heap.size, 2, none⟩ = some (.int .i64 page) ∧ wx.cell? ⟨w.heap.size, 3, none⟩ = some (.int .i64 slot) ∧ wx.cell? ⟨w.heap.size, 4, none⟩ = some (.bool before_used) ∧ wx.cell? ⟨w.heap.size, 5, none⟩ = some (.slice before_data_a before_data_n before_data_c) ∧ wx.cell? ⟨w.heap.size, 6, none⟩ = some (.bool after_used) ∧ wx.cell? ⟨w.heap.size, 7, none⟩ = some (.slice after_data_a after_data_n after_data_c)) 9 10 rfl (by kernel_rfl) ?_
    refine wpAnyV_take (i := 0) (v := ?vq1) (some 26) rfl rfl (by kernel_rfl) (by kernel_rfl) (by kernel_rfl) (by kernel_rfl) (fun _ _ _ h => h) (Or.inl ⟨by rfl, ?hyq1⟩) hS ?_
    case hyq1 => (intro w hSw; (try dsimp only at hSw); go_simp; (try with_reducible rfl))
    try simp only [Act.put, List.setIfInBounds_toArray, List.set_cons_zero, List.set_cons_succ]
    refine wpAnyV_take (i := 1) (v := ?vq2) (some 27) rfl rfl (by kernel_rfl) (by kernel_rfl) (by kernel_rfl) (by kernel_rfl) (fun _ _ _ h => h) (Or.inl ⟨by rfl, ?hyq2⟩) hS ?_
    case hyq2 => (intro w hSw; (try dsimp only at hSw); go_simp; (try with_reducible rfl))
    try simp only [Act.put, List.setIfInBounds_toArray, List.set_cons_zero, List.set_cons_succ]
    refine wpAnyV_take (i := 3) (v := ?vq3) (some 29) rfl rfl (by kernel_rfl) (by kernel_rfl) (by kernel_rfl) (by kernel_rfl) (fun _ _ _ h => h) (Or.inl ⟨by rfl, ?hyq3⟩) hS ?_
    case hyq3 => (intro w hSw; (try dsimp only at hSw); go_simp; (try with_reducible rfl))
    try simp only [Act.put, List.setIfInBounds_toArray, List.set_cons_zero, List.set_cons_succ]
    refine wpAnyV_take (i := 4) (v := ?vq4) (some 30) rfl rfl (by kernel_rfl) (by kernel_rfl) (by kernel_rfl) (by kernel_rfl) (fun _ _ _ h => h) (Or.inl ⟨by rfl, ?hyq4⟩) hS ?_
    case hyq4 => (intro w hSw; (try dsimp only at hSw); go_simp; (try with_reducible rfl))
    try simp only [Act.put, List.setIfInBounds_toArray, List.set_cons_zero, List.set_cons_succ]
    refine wpAnyV_take (i := 6) (v := ?vq5) (some 32) rfl rfl (by kernel_rfl) (by kernel_rfl) (by kernel_rfl) (by kernel_rfl) (fun _ _ _ h => h) (Or.inl ⟨by rfl, ?hyq5⟩) hS ?_
    case hyq5 => (intro w hSw; (try dsimp only at hSw); go_simp; (try with_reducible rfl))
    try simp only [Act.put, List.setIfInBounds_toArray, List.set_cons_zero, List.set_cons_succ]
    refine wpAnyV_one (i := 2) (by kernel_rfl) rfl (fun K hK => ?_)
    go_simp
    have hc := headFault_any txn prev (w1.drew)
    with_reducible refine hc.mono ?_
    clear hc
    rintro e wa ⟨rfl, hkk⟩
    have hkwa : Same w1 wa := Kept.trans ((Kept.refl _ _).drew) hkk
    clear hkk
    have hS : (fun wx : World => wx.cell? ⟨w.heap.size, 0, none⟩ = some (.int .i64 txn) ∧ wx.cell? ⟨w.heap.size, 1, none⟩ = some (.int .i64 prev) ∧ wx.cell? ⟨w.heap.size, 2, none⟩ = some (.int .i64 page) ∧ wx.cell? ⟨w.heap.size, 3, none⟩ = some (.int .i64 slot) ∧ wx.cell? ⟨w.heap.size, 4, none⟩ = some (.bool before_used) ∧ wx.cell? ⟨w.heap.size, 5, none⟩ = some (.slice before_data_a before_data_n before_data_c) ∧ wx.cell? ⟨w.heap.size, 6, none⟩ = some (.bool after_used) ∧ wx.cell? ⟨w.heap.size, 7, none⟩ = some (.slice after_data_a after_data_n after_data_c)) wa := hSx _ hkwa
    refine hK.out _ _ (fun _ => hS) ?_
    clear hK K
    try simp only [Act.put, List.setIfInBounds_toArray, List.set_cons_zero, List.set_cons_succ]
    refine wpAnyV_one (i := 5) (by kernel_rfl) rfl (fun K hK => ?_)
    go_simp
    have hc := placeFault_any page slot wa
    with_reducible refine hc.mono ?_
    clear hc
    rintro e wb ⟨rfl, hkk⟩
    have hkwb : Same w1 wb := Kept.trans (hkwa) hkk
    clear hkk
    have hS : (fun wx : World => wx.cell? ⟨w.heap.size, 0, none⟩ = some (.int .i64 txn) ∧ wx.cell? ⟨w.heap.size, 1, none⟩ = some (.int .i64 prev) ∧ wx.cell? ⟨w.heap.size, 2, none⟩ = some (.int .i64 page) ∧ wx.cell? ⟨w.heap.size, 3, none⟩ = some (.int .i64 slot) ∧ wx.cell? ⟨w.heap.size, 4, none⟩ = some (.bool before_used) ∧ wx.cell? ⟨w.heap.size, 5, none⟩ = some (.slice before_data_a before_data_n before_data_c) ∧ wx.cell? ⟨w.heap.size, 6, none⟩ = some (.bool after_used) ∧ wx.cell? ⟨w.heap.size, 7, none⟩ = some (.slice after_data_a after_data_n after_data_c)) wb := hSx _ hkwb
    refine hK.out _ _ (fun _ => hS) ?_
    clear hK K
    try simp only [Act.put, List.setIfInBounds_toArray, List.set_cons_zero, List.set_cons_succ]
    refine wpAnyV_one (i := 7) (by kernel_rfl) rfl (fun K hK => ?_)
    go_simp
    have bz := Blk.new wb #[.int .i64 (headF txn prev), .int .i64 (placeF page slot), .int .i64 6] 2
    have hkz : Same w1 (wb.alloc (.cells #[.int .i64 (headF txn prev), .int .i64 (placeF page slot), .int .i64 6] 2)) := hkwb.alloc _
    have hS : (fun wx : World => wx.cell? ⟨w.heap.size, 0, none⟩ = some (.int .i64 txn) ∧ wx.cell? ⟨w.heap.size, 1, none⟩ = some (.int .i64 prev) ∧ wx.cell? ⟨w.heap.size, 2, none⟩ = some (.int .i64 page) ∧ wx.cell? ⟨w.heap.size, 3, none⟩ = some (.int .i64 slot) ∧ wx.cell? ⟨w.heap.size, 4, none⟩ = some (.bool before_used) ∧ wx.cell? ⟨w.heap.size, 5, none⟩ = some (.slice before_data_a before_data_n before_data_c) ∧ wx.cell? ⟨w.heap.size, 6, none⟩ = some (.bool after_used) ∧ wx.cell? ⟨w.heap.size, 7, none⟩ = some (.slice after_data_a after_data_n after_data_c)) _ := hSx _ hkz
    refine hK.out _ _ (fun _ => hS) ?_
    clear hK K
    try simp only [Act.put, List.setIfInBounds_toArray, List.set_cons_zero, List.set_cons_succ]
    refine wpAnyV_one (i := 8) (by kernel_rfl) rfl (fun K hK => ?_)
    go_simp
    have hc := cmpOr_any 0 (headF txn prev) (placeF page slot) 6 wb.heap.size (wb.alloc (.cells #[.int .i64 (headF txn prev), .int .i64 (placeF page slot), .int .i64 6] 2)) (bz.cell 0) (bz.cell 1) (bz.cell 2)
    with_reducible refine hc.mono ?_
    clear hc
    rintro e wc ⟨rfl, hkk⟩
    have hkwc : Same w1 wc := Kept.trans (hkz) hkk
    clear hkk
    have hS : (fun wx : World => wx.cell? ⟨w.heap.size, 0, none⟩ = some (.int .i64 txn) ∧ wx.cell? ⟨w.heap.size, 1, none⟩ = some (.int .i64 prev) ∧ wx.cell? ⟨w.heap.size, 2, none⟩ = some (.int .i64 page) ∧ wx.cell? ⟨w.heap.size, 3, none⟩ = some (.int .i64 slot) ∧ wx.cell? ⟨w.heap.size, 4, none⟩ = some (.bool before_used) ∧ wx.cell? ⟨w.heap.size, 5, none⟩ = some (.slice before_data_a before_data_n before_data_c) ∧ wx.cell? ⟨w.heap.size, 6, none⟩ = some (.bool after_used) ∧ wx.cell? ⟨w.heap.size, 7, none⟩ = some (.slice after_data_a after_data_n after_data_c)) wc := hSx _ hkwc
    refine hK.out _ _ (fun _ => hS) ?_
    clear hK K
    try simp only [Act.put, List.setIfInBounds_toArray, List.set_cons_zero, List.set_cons_succ]
    refine wpAnyV_one (i := 9) (by kernel_rfl) rfl (fun K hK => ?_)
    go_simp
    refine hK.out _ _ (fun h => absurd rfl h) ?_
    clear hK K
    refine wpAnyV_done (by kernel_rfl) ?_
    try simp only [Act.put, List.setIfInBounds_toArray, List.set_cons_zero, List.set_cons_succ]
    go_wp2
    go_ret
    exact ⟨rfl, (hk0.trans hk1).trans hkwc⟩
  | true =>
    rw [e1] at h1
    cases e2 : fitsB after_used after_data_n with
    | false =>
      rw [e2] at h2
      simp only [Bool.true_and, Bool.false_and, Bool.false_eq_true, if_false]
      go_enter Try.func131, Try.ntmps131
      go_wp2_with fail
      refine (h1 _).mono ?_
      rintro e w0 ⟨rfl, hk1⟩
      have cw00 : w0.cell? ⟨w.heap.size, 0, none⟩ = some (.int .i64 txn) := (b0.same hk1).cell 0
      have cw01 : w0.cell? ⟨w.heap.size, 1, none⟩ = some (.int .i64 prev) := (b0.same hk1).cell 1
      have cw02 : w0.cell? ⟨w.heap.size, 2, none⟩ = some (.int .i64 page) := (b0.same hk1).cell 2
      have cw03 : w0.cell? ⟨w.heap.size, 3, none⟩ = some (.int .i64 slot) := (b0.same hk1).cell 3
      have cw04 : w0.cell? ⟨w.heap.size, 4, none⟩ = some (.bool before_used) := (b0.same hk1).cell 4
      have cw05 : w0.cell? ⟨w.heap.size, 5, none⟩ = some (.slice before_data_a before_data_n before_data_c) := (b0.same hk1).cell 5
      have cw06 : w0.cell? ⟨w.heap.size, 6, none⟩ = some (.bool after_used) := (b0.same hk1).cell 6
      have cw07 : w0.cell? ⟨w.heap.size, 7, none⟩ = some (.slice after_data_a after_data_n after_data_c) := (b0.same hk1).cell 7
      go_wp2_with fail
      refine (h2 _).mono ?_
      rintro e w1 ⟨rfl, hk2⟩
      have hk1 := hk1.trans hk2
      clear cw00 cw01 cw02 cw03 cw04 cw05 cw06 cw07
      have cw10 : w1.cell? ⟨w.heap.size, 0, none⟩ = some (.int .i64 txn) := (b0.same hk1).cell 0
      have cw11 : w1.cell? ⟨w.heap.size, 1, none⟩ = some (.int .i64 prev) := (b0.same hk1).cell 1
      have cw12 : w1.cell? ⟨w.heap.size, 2, none⟩ = some (.int .i64 page) := (b0.same hk1).cell 2
      have cw13 : w1.cell? ⟨w.heap.size, 3, none⟩ = some (.int .i64 slot) := (b0.same hk1).cell 3
      have cw14 : w1.cell? ⟨w.heap.size, 4, none⟩ = some (.bool before_used) := (b0.same hk1).cell 4
      have cw15 : w1.cell? ⟨w.heap.size, 5, none⟩ = some (.slice before_data_a before_data_n before_data_c) := (b0.same hk1).cell 5
      have cw16 : w1.cell? ⟨w.heap.size, 6, none⟩ = some (.bool after_used) := (b0.same hk1).cell 6
      have cw17 : w1.cell? ⟨w.heap.size, 7, none⟩ = some (.slice after_data_a after_data_n after_data_c) := (b0.same hk1).cell 7
      go_wp2_with fail
      have hbb := b0.same hk1
      have hSx : ∀ wx, Same w1 wx → (fun wx : World => wx.cell? ⟨w.heap.size, 0, none⟩ = some (.int .i64 txn) ∧ wx.cell? ⟨w.heap.size, 1, none⟩ = some (.int .i64 prev) ∧ wx.cell? ⟨w.heap.size, 2, none⟩ = some (.int .i64 page) ∧ wx.cell? ⟨w.heap.size, 3, none⟩ = some (.int .i64 slot) ∧ wx.cell? ⟨w.heap.size, 4, none⟩ = some (.bool before_used) ∧ wx.cell? ⟨w.heap.size, 5, none⟩ = some (.slice before_data_a before_data_n before_data_c) ∧ wx.cell? ⟨w.heap.size, 6, none⟩ = some (.bool after_used) ∧ wx.cell? ⟨w.heap.size, 7, none⟩ = some (.slice after_data_a after_data_n after_data_c)) wx := fun wx h => ⟨(hbb.same h).cell 0, (hbb.same h).cell 1, (hbb.same h).cell 2, (hbb.same h).cell 3, (hbb.same h).cell 4, (hbb.same h).cell 5, (hbb.same h).cell 6, (hbb.same h).cell 7⟩
      have hS : (fun wx : World => wx.cell? ⟨w.heap.size, 0, none⟩ = some (.int .i64 txn) ∧ wx.cell? ⟨w.heap.size, 1, none⟩ = some (.int .i64 prev) ∧ wx.cell? ⟨w.heap.size, 2, none⟩ = some (.int .i64 page) ∧ wx.cell? ⟨w.heap.size, 3, none⟩ = some (.int .i64 slot) ∧ wx.cell? ⟨w.heap.size, 4, none⟩ = some (.bool before_used) ∧ wx.cell? ⟨w.heap.size, 5, none⟩ = some (.slice before_data_a before_data_n before_data_c) ∧ wx.cell? ⟨w.heap.size, 6, none⟩ = some (.bool after_used) ∧ wx.cell? ⟨w.heap.size, 7, none⟩ = some (.slice after_data_a after_data_n after_data_c)) w1.drew := by exact hSx _ (Kept.refl _ _).drew
      refine wp_region_V (fun wx : World => wx.cell? ⟨w.heap.size, 0, none⟩ = some (.int .i64 txn) ∧ wx.cell? ⟨w.heap.size, 1, none⟩ = some (.int .i64 prev) ∧ wx.cell? ⟨w.heap.size, 2, none⟩ = some (.int .i64 page) ∧ wx.cell? ⟨w.heap.size, 3, none⟩ = some (.int .i64 slot) ∧ wx.cell? ⟨w.heap.size, 4, none⟩ = some (.bool before_used) ∧ wx.cell? ⟨w.heap.size, 5, none⟩ = some (.slice before_data_a before_data_n before_data_c) ∧ wx.cell? ⟨w.heap.size, 6, none⟩ = some (.bool after_used) ∧ wx.cell? ⟨w.heap.size, 7, none⟩ = some (.slice after_data_a after_data_n after_data_c)) 9 10 rfl (by kernel_rfl) ?_
      refine wpAnyV_take (i := 0) (v := ?vq6) (some 26) rfl rfl (by kernel_rfl) (by kernel_rfl) (by kernel_rfl) (by kernel_rfl) (fun _ _ _ h => h) (Or.inl ⟨by rfl, ?hyq6⟩) hS ?_
      case hyq6 => (intro w hSw; (try dsimp only at hSw); go_simp; (try with_reducible rfl))
      try simp only [Act.put, List.setIfInBounds_toArray, List.set_cons_zero, List.set_cons_succ]
      refine wpAnyV_take (i := 1) (v := ?vq7) (some 27) rfl rfl (by kernel_rfl) (by kernel_rfl) (by kernel_rfl) (by kernel_rfl) (fun _ _ _ h => h) (Or.inl ⟨by rfl, ?hyq7⟩) hS ?_
      case hyq7 => (intro w hSw; (try dsimp only at hSw); go_simp; (try with_reducible rfl))
      try simp only [Act.put, List.setIfInBounds_toArray, List.set_cons_zero, List.set_cons_succ]
      refine wpAnyV_take (i := 3) (v := ?vq8) (some 29) rfl rfl (by kernel_rfl) (by kernel_rfl) (by kernel_rfl) (by kernel_rfl) (fun _ _ _ h => h) (Or.inl ⟨by rfl, ?hyq8⟩) hS ?_
      case hyq8 => (intro w hSw; (try dsimp only at hSw); go_simp; (try with_reducible rfl))
      try simp only [Act.put, List.setIfInBounds_toArray, List.set_cons_zero, List.set_cons_succ]
      refine wpAnyV_take (i := 4) (v := ?vq9) (some 30) rfl rfl (by kernel_rfl) (by kernel_rfl) (by kernel_rfl) (by kernel_rfl) (fun _ _ _ h => h) (Or.inl ⟨by rfl, ?hyq9⟩) hS ?_
      case hyq9 => (intro w hSw; (try dsimp only at hSw); go_simp; (try with_reducible rfl))
      try simp only [Act.put, List.setIfInBounds_toArray, List.set_cons_zero, List.set_cons_succ]
      refine wpAnyV_take (i := 6) (v := ?vq10) (some 32) rfl rfl (by kernel_rfl) (by kernel_rfl) (by kernel_rfl) (by kernel_rfl) (fun _ _ _ h => h) (Or.inl ⟨by rfl, ?hyq10⟩) hS ?_
      case hyq10 => (intro w hSw; (try dsimp only at hSw); go_simp; (try with_reducible rfl))
      try simp only [Act.put, List.setIfInBounds_toArray, List.set_cons_zero, List.set_cons_succ]
      refine wpAnyV_one (i := 2) (by kernel_rfl) rfl (fun K hK => ?_)
      go_simp
      have hc := headFault_any txn prev (w1.drew)
      with_reducible refine hc.mono ?_
      clear hc
      rintro e wa ⟨rfl, hkk⟩
      have hkwa : Same w1 wa := Kept.trans ((Kept.refl _ _).drew) hkk
      clear hkk
      have hS : (fun wx : World => wx.cell? ⟨w.heap.size, 0, none⟩ = some (.int .i64 txn) ∧ wx.cell? ⟨w.heap.size, 1, none⟩ = some (.int .i64 prev) ∧ wx.cell? ⟨w.heap.size, 2, none⟩ = some (.int .i64 page) ∧ wx.cell? ⟨w.heap.size, 3, none⟩ = some (.int .i64 slot) ∧ wx.cell? ⟨w.heap.size, 4, none⟩ = some (.bool before_used) ∧ wx.cell? ⟨w.heap.size, 5, none⟩ = some (.slice before_data_a before_data_n before_data_c) ∧ wx.cell? ⟨w.heap.size, 6, none⟩ = some (.bool after_used) ∧ wx.cell? ⟨w.heap.size, 7, none⟩ = some (.slice after_data_a after_data_n after_data_c)) wa := hSx _ hkwa
      refine hK.out _ _ (fun _ => hS) ?_
      clear hK K
      try simp only [Act.put, List.setIfInBounds_toArray, List.set_cons_zero, List.set_cons_succ]
      refine wpAnyV_one (i := 5) (by kernel_rfl) rfl (fun K hK => ?_)
      go_simp
      have hc := placeFault_any page slot wa
      with_reducible refine hc.mono ?_
      clear hc
      rintro e wb ⟨rfl, hkk⟩
      have hkwb : Same w1 wb := Kept.trans (hkwa) hkk
      clear hkk
      have hS : (fun wx : World => wx.cell? ⟨w.heap.size, 0, none⟩ = some (.int .i64 txn) ∧ wx.cell? ⟨w.heap.size, 1, none⟩ = some (.int .i64 prev) ∧ wx.cell? ⟨w.heap.size, 2, none⟩ = some (.int .i64 page) ∧ wx.cell? ⟨w.heap.size, 3, none⟩ = some (.int .i64 slot) ∧ wx.cell? ⟨w.heap.size, 4, none⟩ = some (.bool before_used) ∧ wx.cell? ⟨w.heap.size, 5, none⟩ = some (.slice before_data_a before_data_n before_data_c) ∧ wx.cell? ⟨w.heap.size, 6, none⟩ = some (.bool after_used) ∧ wx.cell? ⟨w.heap.size, 7, none⟩ = some (.slice after_data_a after_data_n after_data_c)) wb := hSx _ hkwb
      refine hK.out _ _ (fun _ => hS) ?_
      clear hK K
      try simp only [Act.put, List.setIfInBounds_toArray, List.set_cons_zero, List.set_cons_succ]
      refine wpAnyV_one (i := 7) (by kernel_rfl) rfl (fun K hK => ?_)
      go_simp
      have bz := Blk.new wb #[.int .i64 (headF txn prev), .int .i64 (placeF page slot), .int .i64 6] 2
      have hkz : Same w1 (wb.alloc (.cells #[.int .i64 (headF txn prev), .int .i64 (placeF page slot), .int .i64 6] 2)) := hkwb.alloc _
      have hS : (fun wx : World => wx.cell? ⟨w.heap.size, 0, none⟩ = some (.int .i64 txn) ∧ wx.cell? ⟨w.heap.size, 1, none⟩ = some (.int .i64 prev) ∧ wx.cell? ⟨w.heap.size, 2, none⟩ = some (.int .i64 page) ∧ wx.cell? ⟨w.heap.size, 3, none⟩ = some (.int .i64 slot) ∧ wx.cell? ⟨w.heap.size, 4, none⟩ = some (.bool before_used) ∧ wx.cell? ⟨w.heap.size, 5, none⟩ = some (.slice before_data_a before_data_n before_data_c) ∧ wx.cell? ⟨w.heap.size, 6, none⟩ = some (.bool after_used) ∧ wx.cell? ⟨w.heap.size, 7, none⟩ = some (.slice after_data_a after_data_n after_data_c)) _ := hSx _ hkz
      refine hK.out _ _ (fun _ => hS) ?_
      clear hK K
      try simp only [Act.put, List.setIfInBounds_toArray, List.set_cons_zero, List.set_cons_succ]
      refine wpAnyV_one (i := 8) (by kernel_rfl) rfl (fun K hK => ?_)
      go_simp
      have hc := cmpOr_any 0 (headF txn prev) (placeF page slot) 6 wb.heap.size (wb.alloc (.cells #[.int .i64 (headF txn prev), .int .i64 (placeF page slot), .int .i64 6] 2)) (bz.cell 0) (bz.cell 1) (bz.cell 2)
      with_reducible refine hc.mono ?_
      clear hc
      rintro e wc ⟨rfl, hkk⟩
      have hkwc : Same w1 wc := Kept.trans (hkz) hkk
      clear hkk
      have hS : (fun wx : World => wx.cell? ⟨w.heap.size, 0, none⟩ = some (.int .i64 txn) ∧ wx.cell? ⟨w.heap.size, 1, none⟩ = some (.int .i64 prev) ∧ wx.cell? ⟨w.heap.size, 2, none⟩ = some (.int .i64 page) ∧ wx.cell? ⟨w.heap.size, 3, none⟩ = some (.int .i64 slot) ∧ wx.cell? ⟨w.heap.size, 4, none⟩ = some (.bool before_used) ∧ wx.cell? ⟨w.heap.size, 5, none⟩ = some (.slice before_data_a before_data_n before_data_c) ∧ wx.cell? ⟨w.heap.size, 6, none⟩ = some (.bool after_used) ∧ wx.cell? ⟨w.heap.size, 7, none⟩ = some (.slice after_data_a after_data_n after_data_c)) wc := hSx _ hkwc
      refine hK.out _ _ (fun _ => hS) ?_
      clear hK K
      try simp only [Act.put, List.setIfInBounds_toArray, List.set_cons_zero, List.set_cons_succ]
      refine wpAnyV_one (i := 9) (by kernel_rfl) rfl (fun K hK => ?_)
      go_simp
      refine hK.out _ _ (fun h => absurd rfl h) ?_
      clear hK K
      refine wpAnyV_done (by kernel_rfl) ?_
      try simp only [Act.put, List.setIfInBounds_toArray, List.set_cons_zero, List.set_cons_succ]
      go_wp2
      go_ret
      exact ⟨rfl, (hk0.trans hk1).trans hkwc⟩
    | true =>
      rw [e2] at h2
      cases before_used with
      | true =>
        simp only [Bool.true_and, Bool.true_or, if_true]
        go_enter Try.func131, Try.ntmps131
        go_wp2_with fail
        refine (h1 _).mono ?_
        rintro e w0 ⟨rfl, hk1⟩
        have cw00 : w0.cell? ⟨w.heap.size, 0, none⟩ = some (.int .i64 txn) := (b0.same hk1).cell 0
        have cw01 : w0.cell? ⟨w.heap.size, 1, none⟩ = some (.int .i64 prev) := (b0.same hk1).cell 1
        have cw02 : w0.cell? ⟨w.heap.size, 2, none⟩ = some (.int .i64 page) := (b0.same hk1).cell 2
        have cw03 : w0.cell? ⟨w.heap.size, 3, none⟩ = some (.int .i64 slot) := (b0.same hk1).cell 3
        have cw04 : w0.cell? ⟨w.heap.size, 4, none⟩ = some (.bool true) := (b0.same hk1).cell 4
        have cw05 : w0.cell? ⟨w.heap.size, 5, none⟩ = some (.slice before_data_a before_data_n before_data_c) := (b0.same hk1).cell 5
        have cw06 : w0.cell? ⟨w.heap.size, 6, none⟩ = some (.bool after_used) := (b0.same hk1).cell 6
        have cw07 : w0.cell? ⟨w.heap.size, 7, none⟩ = some (.slice after_data_a after_data_n after_data_c) := (b0.same hk1).cell 7
        go_wp2_with fail
        refine (h2 _).mono ?_
        rintro e w1 ⟨rfl, hk2⟩
        have hk1 := hk1.trans hk2
        clear cw00 cw01 cw02 cw03 cw04 cw05 cw06 cw07
        have cw10 : w1.cell? ⟨w.heap.size, 0, none⟩ = some (.int .i64 txn) := (b0.same hk1).cell 0
        have cw11 : w1.cell? ⟨w.heap.size, 1, none⟩ = some (.int .i64 prev) := (b0.same hk1).cell 1
        have cw12 : w1.cell? ⟨w.heap.size, 2, none⟩ = some (.int .i64 page) := (b0.same hk1).cell 2
        have cw13 : w1.cell? ⟨w.heap.size, 3, none⟩ = some (.int .i64 slot) := (b0.same hk1).cell 3
        have cw14 : w1.cell? ⟨w.heap.size, 4, none⟩ = some (.bool true) := (b0.same hk1).cell 4
        have cw15 : w1.cell? ⟨w.heap.size, 5, none⟩ = some (.slice before_data_a before_data_n before_data_c) := (b0.same hk1).cell 5
        have cw16 : w1.cell? ⟨w.heap.size, 6, none⟩ = some (.bool after_used) := (b0.same hk1).cell 6
        have cw17 : w1.cell? ⟨w.heap.size, 7, none⟩ = some (.slice after_data_a after_data_n after_data_c) := (b0.same hk1).cell 7
        go_wp2_with fail
        have hbb := b0.same hk1
        have hSx : ∀ wx, Same w1 wx → (fun wx : World => wx.cell? ⟨w.heap.size, 0, none⟩ = some (.int .i64 txn) ∧ wx.cell? ⟨w.heap.size, 1, none⟩ = some (.int .i64 prev) ∧ wx.cell? ⟨w.heap.size, 2, none⟩ = some (.int .i64 page) ∧ wx.cell? ⟨w.heap.size, 3, none⟩ = some (.int .i64 slot) ∧ wx.cell? ⟨w.heap.size, 4, none⟩ = some (.bool true) ∧ wx.cell? ⟨w.heap.size, 5, none⟩ = some (.slice before_data_a before_data_n before_data_c) ∧ wx.cell? ⟨w.heap.size, 6, none⟩ = some (.bool after_used) ∧ wx.cell? ⟨w.heap.size, 7, none⟩ = some (.slice after_data_a after_data_n after_data_c)) wx := fun wx h => ⟨(hbb.same h).cell 0, (hbb.same h).cell 1, (hbb.same h).cell 2, (hbb.same h).cell 3, (hbb.same h).cell 4, (hbb.same h).cell 5, (hbb.same h).cell 6, (hbb.same h).cell 7⟩
        have hS : (fun wx : World => wx.cell? ⟨w.heap.size, 0, none⟩ = some (.int .i64 txn) ∧ wx.cell? ⟨w.heap.size, 1, none⟩ = some (.int .i64 prev) ∧ wx.cell? ⟨w.heap.size, 2, none⟩ = some (.int .i64 page) ∧ wx.cell? ⟨w.heap.size, 3, none⟩ = some (.int .i64 slot) ∧ wx.cell? ⟨w.heap.size, 4, none⟩ = some (.bool true) ∧ wx.cell? ⟨w.heap.size, 5, none⟩ = some (.slice before_data_a before_data_n before_data_c) ∧ wx.cell? ⟨w.heap.size, 6, none⟩ = some (.bool after_used) ∧ wx.cell? ⟨w.heap.size, 7, none⟩ = some (.slice after_data_a after_data_n after_data_c)) w1.drew := by exact hSx _ (Kept.refl _ _).drew
        refine wp_region_V (fun wx : World => wx.cell? ⟨w.heap.size, 0, none⟩ = some (.int .i64 txn) ∧ wx.cell? ⟨w.heap.size, 1, none⟩ = some (.int .i64 prev) ∧ wx.cell? ⟨w.heap.size, 2, none⟩ = some (.int .i64 page) ∧ wx.cell? ⟨w.heap.size, 3, none⟩ = some (.int .i64 slot) ∧ wx.cell? ⟨w.heap.size, 4, none⟩ = some (.bool true) ∧ wx.cell? ⟨w.heap.size, 5, none⟩ = some (.slice before_data_a before_data_n before_data_c) ∧ wx.cell? ⟨w.heap.size, 6, none⟩ = some (.bool after_used) ∧ wx.cell? ⟨w.heap.size, 7, none⟩ = some (.slice after_data_a after_data_n after_data_c)) 9 10 rfl (by kernel_rfl) ?_
        refine wpAnyV_take (i := 0) (v := ?vq11) (some 26) rfl rfl (by kernel_rfl) (by kernel_rfl) (by kernel_rfl) (by kernel_rfl) (fun _ _ _ h => h) (Or.inl ⟨by rfl, ?hyq11⟩) hS ?_
        case hyq11 => (intro w hSw; (try dsimp only at hSw); go_simp; (try with_reducible rfl))
        try simp only [Act.put, List.setIfInBounds_toArray, List.set_cons_zero, List.set_cons_succ]
        refine wpAnyV_take (i := 1) (v := ?vq12) (some 27) rfl rfl (by kernel_rfl) (by kernel_rfl) (by kernel_rfl) (by kernel_rfl) (fun _ _ _ h => h) (Or.inl ⟨by rfl, ?hyq12⟩) hS ?_
        case hyq12 => (intro w hSw; (try dsimp only at hSw); go_simp; (try with_reducible rfl))
        try simp only [Act.put, List.setIfInBounds_toArray, List.set_cons_zero, List.set_cons_succ]
        refine wpAnyV_take (i := 3) (v := ?vq13) (some 29) rfl rfl (by kernel_rfl) (by kernel_rfl) (by kernel_rfl) (by kernel_rfl) (fun _ _ _ h => h) (Or.inl ⟨by rfl, ?hyq13⟩) hS ?_
        case hyq13 => (intro w hSw; (try dsimp only at hSw); go_simp; (try with_reducible rfl))
        try simp only [Act.put, List.setIfInBounds_toArray, List.set_cons_zero, List.set_cons_succ]
        refine wpAnyV_take (i := 4) (v := ?vq14) (some 30) rfl rfl (by kernel_rfl) (by kernel_rfl) (by kernel_rfl) (by kernel_rfl) (fun _ _ _ h => h) (Or.inl ⟨by rfl, ?hyq14⟩) hS ?_
        case hyq14 => (intro w hSw; (try dsimp only at hSw); go_simp; (try with_reducible rfl))
        try simp only [Act.put, List.setIfInBounds_toArray, List.set_cons_zero, List.set_cons_succ]
        refine wpAnyV_take (i := 6) (v := ?vq15) (some 32) rfl rfl (by kernel_rfl) (by kernel_rfl) (by kernel_rfl) (by kernel_rfl) (fun _ _ _ h => h) (Or.inl ⟨by rfl, ?hyq15⟩) hS ?_
        case hyq15 => (intro w hSw; (try dsimp only at hSw); go_simp; (try with_reducible rfl))
        try simp only [Act.put, List.setIfInBounds_toArray, List.set_cons_zero, List.set_cons_succ]
        refine wpAnyV_one (i := 2) (by kernel_rfl) rfl (fun K hK => ?_)
        go_simp
        have hc := headFault_any txn prev (w1.drew)
        with_reducible refine hc.mono ?_
        clear hc
        rintro e wa ⟨rfl, hkk⟩
        have hkwa : Same w1 wa := Kept.trans ((Kept.refl _ _).drew) hkk
        clear hkk
        have hS : (fun wx : World => wx.cell? ⟨w.heap.size, 0, none⟩ = some (.int .i64 txn) ∧ wx.cell? ⟨w.heap.size, 1, none⟩ = some (.int .i64 prev) ∧ wx.cell? ⟨w.heap.size, 2, none⟩ = some (.int .i64 page) ∧ wx.cell? ⟨w.heap.size, 3, none⟩ = some (.int .i64 slot) ∧ wx.cell? ⟨w.heap.size, 4, none⟩ = some (.bool true) ∧ wx.cell? ⟨w.heap.size, 5, none⟩ = some (.slice before_data_a before_data_n before_data_c) ∧ wx.cell? ⟨w.heap.size, 6, none⟩ = some (.bool after_used) ∧ wx.cell? ⟨w.heap.size, 7, none⟩ = some (.slice after_data_a after_data_n after_data_c)) wa := hSx _ hkwa
        refine hK.out _ _ (fun _ => hS) ?_
        clear hK K
        try simp only [Act.put, List.setIfInBounds_toArray, List.set_cons_zero, List.set_cons_succ]
        refine wpAnyV_one (i := 5) (by kernel_rfl) rfl (fun K hK => ?_)
        go_simp
        have hc := placeFault_any page slot wa
        with_reducible refine hc.mono ?_
        clear hc
        rintro e wb ⟨rfl, hkk⟩
        have hkwb : Same w1 wb := Kept.trans (hkwa) hkk
        clear hkk
        have hS : (fun wx : World => wx.cell? ⟨w.heap.size, 0, none⟩ = some (.int .i64 txn) ∧ wx.cell? ⟨w.heap.size, 1, none⟩ = some (.int .i64 prev) ∧ wx.cell? ⟨w.heap.size, 2, none⟩ = some (.int .i64 page) ∧ wx.cell? ⟨w.heap.size, 3, none⟩ = some (.int .i64 slot) ∧ wx.cell? ⟨w.heap.size, 4, none⟩ = some (.bool true) ∧ wx.cell? ⟨w.heap.size, 5, none⟩ = some (.slice before_data_a before_data_n before_data_c) ∧ wx.cell? ⟨w.heap.size, 6, none⟩ = some (.bool after_used) ∧ wx.cell? ⟨w.heap.size, 7, none⟩ = some (.slice after_data_a after_data_n after_data_c)) wb := hSx _ hkwb
        refine hK.out _ _ (fun _ => hS) ?_
        clear hK K
        try simp only [Act.put, List.setIfInBounds_toArray, List.set_cons_zero, List.set_cons_succ]
        refine wpAnyV_one (i := 7) (by kernel_rfl) rfl (fun K hK => ?_)
        go_simp
        have bz := Blk.new wb #[.int .i64 (headF txn prev), .int .i64 (placeF page slot), .int .i64 0] 2
        have hkz : Same w1 (wb.alloc (.cells #[.int .i64 (headF txn prev), .int .i64 (placeF page slot), .int .i64 0] 2)) := hkwb.alloc _
        have hS : (fun wx : World => wx.cell? ⟨w.heap.size, 0, none⟩ = some (.int .i64 txn) ∧ wx.cell? ⟨w.heap.size, 1, none⟩ = some (.int .i64 prev) ∧ wx.cell? ⟨w.heap.size, 2, none⟩ = some (.int .i64 page) ∧ wx.cell? ⟨w.heap.size, 3, none⟩ = some (.int .i64 slot) ∧ wx.cell? ⟨w.heap.size, 4, none⟩ = some (.bool true) ∧ wx.cell? ⟨w.heap.size, 5, none⟩ = some (.slice before_data_a before_data_n before_data_c) ∧ wx.cell? ⟨w.heap.size, 6, none⟩ = some (.bool after_used) ∧ wx.cell? ⟨w.heap.size, 7, none⟩ = some (.slice after_data_a after_data_n after_data_c)) _ := hSx _ hkz
        refine hK.out _ _ (fun _ => hS) ?_
        clear hK K
        try simp only [Act.put, List.setIfInBounds_toArray, List.set_cons_zero, List.set_cons_succ]
        refine wpAnyV_one (i := 8) (by kernel_rfl) rfl (fun K hK => ?_)
        go_simp
        have hc := cmpOr_any 0 (headF txn prev) (placeF page slot) 0 wb.heap.size (wb.alloc (.cells #[.int .i64 (headF txn prev), .int .i64 (placeF page slot), .int .i64 0] 2)) (bz.cell 0) (bz.cell 1) (bz.cell 2)
        with_reducible refine hc.mono ?_
        clear hc
        rintro e wc ⟨rfl, hkk⟩
        have hkwc : Same w1 wc := Kept.trans (hkz) hkk
        clear hkk
        have hS : (fun wx : World => wx.cell? ⟨w.heap.size, 0, none⟩ = some (.int .i64 txn) ∧ wx.cell? ⟨w.heap.size, 1, none⟩ = some (.int .i64 prev) ∧ wx.cell? ⟨w.heap.size, 2, none⟩ = some (.int .i64 page) ∧ wx.cell? ⟨w.heap.size, 3, none⟩ = some (.int .i64 slot) ∧ wx.cell? ⟨w.heap.size, 4, none⟩ = some (.bool true) ∧ wx.cell? ⟨w.heap.size, 5, none⟩ = some (.slice before_data_a before_data_n before_data_c) ∧ wx.cell? ⟨w.heap.size, 6, none⟩ = some (.bool after_used) ∧ wx.cell? ⟨w.heap.size, 7, none⟩ = some (.slice after_data_a after_data_n after_data_c)) wc := hSx _ hkwc
        refine hK.out _ _ (fun _ => hS) ?_
        clear hK K
        try simp only [Act.put, List.setIfInBounds_toArray, List.set_cons_zero, List.set_cons_succ]
        refine wpAnyV_one (i := 9) (by kernel_rfl) rfl (fun K hK => ?_)
        go_simp
        refine hK.out _ _ (fun h => absurd rfl h) ?_
        clear hK K
        refine wpAnyV_done (by kernel_rfl) ?_
        try simp only [Act.put, List.setIfInBounds_toArray, List.set_cons_zero, List.set_cons_succ]
        go_wp2
        go_ret
        exact ⟨rfl, (hk0.trans hk1).trans hkwc⟩
      | false =>
        cases after_used with
        | true =>
          simp only [Bool.true_and, Bool.or_true, if_true]
          go_enter Try.func131, Try.ntmps131
          go_wp2_with fail
          refine (h1 _).mono ?_
          rintro e w0 ⟨rfl, hk1⟩
          have cw00 : w0.cell? ⟨w.heap.size, 0, none⟩ = some (.int .i64 txn) := (b0.same hk1).cell 0
          have cw01 : w0.cell? ⟨w.heap.size, 1, none⟩ = some (.int .i64 prev) := (b0.same hk1).cell 1
          have cw02 : w0.cell? ⟨w.heap.size, 2, none⟩ = some (.int .i64 page) := (b0.same hk1).cell 2
          have cw03 : w0.cell? ⟨w.heap.size, 3, none⟩ = some (.int .i64 slot) := (b0.same hk1).cell 3
          have cw04 : w0.cell? ⟨w.heap.size, 4, none⟩ = some (.bool false) := (b0.same hk1).cell 4
          have cw05 : w0.cell? ⟨w.heap.size, 5, none⟩ = some (.slice before_data_a before_data_n before_data_c) := (b0.same hk1).cell 5
          have cw06 : w0.cell? ⟨w.heap.size, 6, none⟩ = some (.bool true) := (b0.same hk1).cell 6
          have cw07 : w0.cell? ⟨w.heap.size, 7, none⟩ = some (.slice after_data_a after_data_n after_data_c) := (b0.same hk1).cell 7
          go_wp2_with fail
          refine (h2 _).mono ?_
          rintro e w1 ⟨rfl, hk2⟩
          have hk1 := hk1.trans hk2
          clear cw00 cw01 cw02 cw03 cw04 cw05 cw06 cw07
          have cw10 : w1.cell? ⟨w.heap.size, 0, none⟩ = some (.int .i64 txn) := (b0.same hk1).cell 0
          have cw11 : w1.cell? ⟨w.heap.size, 1, none⟩ = some (.int .i64 prev) := (b0.same hk1).cell 1
          have cw12 : w1.cell? ⟨w.heap.size, 2, none⟩ = some (.int .i64 page) := (b0.same hk1).cell 2
          have cw13 : w1.cell? ⟨w.heap.size, 3, none⟩ = some (.int .i64 slot) := (b0.same hk1).cell 3
          have cw14 : w1.cell? ⟨w.heap.size, 4, none⟩ = some (.bool false) := (b0.same hk1).cell 4
          have cw15 : w1.cell? ⟨w.heap.size, 5, none⟩ = some (.slice before_data_a before_data_n before_data_c) := (b0.same hk1).cell 5
          have cw16 : w1.cell? ⟨w.heap.size, 6, none⟩ = some (.bool true) := (b0.same hk1).cell 6
          have cw17 : w1.cell? ⟨w.heap.size, 7, none⟩ = some (.slice after_data_a after_data_n after_data_c) := (b0.same hk1).cell 7
          go_wp2_with fail
          have hbb := b0.same hk1
          have hSx : ∀ wx, Same w1 wx → (fun wx : World => wx.cell? ⟨w.heap.size, 0, none⟩ = some (.int .i64 txn) ∧ wx.cell? ⟨w.heap.size, 1, none⟩ = some (.int .i64 prev) ∧ wx.cell? ⟨w.heap.size, 2, none⟩ = some (.int .i64 page) ∧ wx.cell? ⟨w.heap.size, 3, none⟩ = some (.int .i64 slot) ∧ wx.cell? ⟨w.heap.size, 4, none⟩ = some (.bool false) ∧ wx.cell? ⟨w.heap.size, 5, none⟩ = some (.slice before_data_a before_data_n before_data_c) ∧ wx.cell? ⟨w.heap.size, 6, none⟩ = some (.bool true) ∧ wx.cell? ⟨w.heap.size, 7, none⟩ = some (.slice after_data_a after_data_n after_data_c)) wx := fun wx h => ⟨(hbb.same h).cell 0, (hbb.same h).cell 1, (hbb.same h).cell 2, (hbb.same h).cell 3, (hbb.same h).cell 4, (hbb.same h).cell 5, (hbb.same h).cell 6, (hbb.same h).cell 7⟩
          have hS : (fun wx : World => wx.cell? ⟨w.heap.size, 0, none⟩ = some (.int .i64 txn) ∧ wx.cell? ⟨w.heap.size, 1, none⟩ = some (.int .i64 prev) ∧ wx.cell? ⟨w.heap.size, 2, none⟩ = some (.int .i64 page) ∧ wx.cell? ⟨w.heap.size, 3, none⟩ = some (.int .i64 slot) ∧ wx.cell? ⟨w.heap.size, 4, none⟩ = some (.bool false) ∧ wx.cell? ⟨w.heap.size, 5, none⟩ = some (.slice before_data_a before_data_n before_data_c) ∧ wx.cell? ⟨w.heap.size, 6, none⟩ = some (.bool true) ∧ wx.cell? ⟨w.heap.size, 7, none⟩ = some (.slice after_data_a after_data_n after_data_c)) w1.drew := by exact hSx _ (Kept.refl _ _).drew
          refine wp_region_V (fun wx : World => wx.cell? ⟨w.heap.size, 0, none⟩ = some (.int .i64 txn) ∧ wx.cell? ⟨w.heap.size, 1, none⟩ = some (.int .i64 prev) ∧ wx.cell? ⟨w.heap.size, 2, none⟩ = some (.int .i64 page) ∧ wx.cell? ⟨w.heap.size, 3, none⟩ = some (.int .i64 slot) ∧ wx.cell? ⟨w.heap.size, 4, none⟩ = some (.bool false) ∧ wx.cell? ⟨w.heap.size, 5, none⟩ = some (.slice before_data_a before_data_n before_data_c) ∧ wx.cell? ⟨w.heap.size, 6, none⟩ = some (.bool true) ∧ wx.cell? ⟨w.heap.size, 7, none⟩ = some (.slice after_data_a after_data_n after_data_c)) 9 10 rfl (by kernel_rfl) ?_
          refine wpAnyV_take (i := 0) (v := ?vq16) (some 26) rfl rfl (by kernel_rfl) (by kernel_rfl) (by kernel_rfl) (by kernel_rfl) (fun _ _ _ h => h) (Or.inl ⟨by rfl, ?hyq16⟩) hS ?_
          case hyq16 => (intro w hSw; (try dsimp only at hSw); go_simp; (try with_reducible rfl))
          try simp only [Act.put, List.setIfInBounds_toArray, List.set_cons_zero, List.set_cons_succ]
          refine wpAnyV_take (i := 1) (v := ?vq17) (some 27) rfl rfl (by kernel_rfl) (by kernel_rfl) (by kernel_rfl) (by kernel_rfl) (fun _ _ _ h => h) (Or.inl ⟨by rfl, ?hyq17⟩) hS ?_
          case hyq17 => (intro w hSw; (try dsimp only at hSw); go_simp; (try with_reducible rfl))
          try simp only [Act.put, List.setIfInBounds_toArray, List.set_cons_zero, List.set_cons_succ]
          refine wpAnyV_take (i := 3) (v := ?vq18) (some 29) rfl rfl (by kernel_rfl) (by kernel_rfl) (by kernel_rfl) (by kernel_rfl) (fun _ _ _ h => h) (Or.inl ⟨by rfl, ?hyq18⟩) hS ?_
          case hyq18 => (intro w hSw; (try dsimp only at hSw); go_simp; (try with_reducible rfl))
          try simp only [Act.put, List.setIfInBounds_toArray, List.set_cons_zero, List.set_cons_succ]
          refine wpAnyV_take (i := 4) (v := ?vq19) (some 30) rfl rfl (by kernel_rfl) (by kernel_rfl) (by kernel_rfl) (by kernel_rfl) (fun _ _ _ h => h) (Or.inl ⟨by rfl, ?hyq19⟩) hS ?_
          case hyq19 => (intro w hSw; (try dsimp only at hSw); go_simp; (try with_reducible rfl))
          try simp only [Act.put, List.setIfInBounds_toArray, List.set_cons_zero, List.set_cons_succ]
          refine wpAnyV_take (i := 6) (v := ?vq20) (some 32) rfl rfl (by kernel_rfl) (by kernel_rfl) (by kernel_rfl) (by kernel_rfl) (fun _ _ _ h => h) (Or.inl ⟨by rfl, ?hyq20⟩) hS ?_
          case hyq20 => (intro w hSw; (try dsimp only at hSw); go_simp; (try with_reducible rfl))
          try simp only [Act.put, List.setIfInBounds_toArray, List.set_cons_zero, List.set_cons_succ]
          refine wpAnyV_one (i := 2) (by kernel_rfl) rfl (fun K hK => ?_)
          go_simp
          have hc := headFault_any txn prev (w1.drew)
          with_reducible refine hc.mono ?_
          clear hc
          rintro e wa ⟨rfl, hkk⟩
          have hkwa : Same w1 wa := Kept.trans ((Kept.refl _ _).drew) hkk
          clear hkk
          have hS : (fun wx : World => wx.cell? ⟨w.heap.size, 0, none⟩ = some (.int .i64 txn) ∧ wx.cell? ⟨w.heap.size, 1, none⟩ = some (.int .i64 prev) ∧ wx.cell? ⟨w.heap.size, 2, none⟩ = some (.int .i64 page) ∧ wx.cell? ⟨w.heap.size, 3, none⟩ = some (.int .i64 slot) ∧ wx.cell? ⟨w.heap.size, 4, none⟩ = some (.bool false) ∧ wx.cell? ⟨w.heap.size, 5, none⟩ = some (.slice before_data_a before_data_n before_data_c) ∧ wx.cell? ⟨w.heap.size, 6, none⟩ = some (.bool true) ∧ wx.cell? ⟨w.heap.size, 7, none⟩ = some (.slice after_data_a after_data_n after_data_c)) wa := hSx _ hkwa
          refine hK.out _ _ (fun _ => hS) ?_
          clear hK K
          try simp only [Act.put, List.setIfInBounds_toArray, List.set_cons_zero, List.set_cons_succ]
          refine wpAnyV_one (i := 5) (by kernel_rfl) rfl (fun K hK => ?_)
          go_simp
          have hc := placeFault_any page slot wa
          with_reducible refine hc.mono ?_
          clear hc
          rintro e wb ⟨rfl, hkk⟩
          have hkwb : Same w1 wb := Kept.trans (hkwa) hkk
          clear hkk
          have hS : (fun wx : World => wx.cell? ⟨w.heap.size, 0, none⟩ = some (.int .i64 txn) ∧ wx.cell? ⟨w.heap.size, 1, none⟩ = some (.int .i64 prev) ∧ wx.cell? ⟨w.heap.size, 2, none⟩ = some (.int .i64 page) ∧ wx.cell? ⟨w.heap.size, 3, none⟩ = some (.int .i64 slot) ∧ wx.cell? ⟨w.heap.size, 4, none⟩ = some (.bool false) ∧ wx.cell? ⟨w.heap.size, 5, none⟩ = some (.slice before_data_a before_data_n before_data_c) ∧ wx.cell? ⟨w.heap.size, 6, none⟩ = some (.bool true) ∧ wx.cell? ⟨w.heap.size, 7, none⟩ = some (.slice after_data_a after_data_n after_data_c)) wb := hSx _ hkwb
          refine hK.out _ _ (fun _ => hS) ?_
          clear hK K
          try simp only [Act.put, List.setIfInBounds_toArray, List.set_cons_zero, List.set_cons_succ]
          refine wpAnyV_one (i := 7) (by kernel_rfl) rfl (fun K hK => ?_)
          go_simp
          have bz := Blk.new wb #[.int .i64 (headF txn prev), .int .i64 (placeF page slot), .int .i64 0] 2
          have hkz : Same w1 (wb.alloc (.cells #[.int .i64 (headF txn prev), .int .i64 (placeF page slot), .int .i64 0] 2)) := hkwb.alloc _
          have hS : (fun wx : World => wx.cell? ⟨w.heap.size, 0, none⟩ = some (.int .i64 txn) ∧ wx.cell? ⟨w.heap.size, 1, none⟩ = some (.int .i64 prev) ∧ wx.cell? ⟨w.heap.size, 2, none⟩ = some (.int .i64 page) ∧ wx.cell? ⟨w.heap.size, 3, none⟩ = some (.int .i64 slot) ∧ wx.cell? ⟨w.heap.size, 4, none⟩ = some (.bool false) ∧ wx.cell? ⟨w.heap.size, 5, none⟩ = some (.slice before_data_a before_data_n before_data_c) ∧ wx.cell? ⟨w.heap.size, 6, none⟩ = some (.bool true) ∧ wx.cell? ⟨w.heap.size, 7, none⟩ = some (.slice after_data_a after_data_n after_data_c)) _ := hSx _ hkz
          refine hK.out _ _ (fun _ => hS) ?_
          clear hK K
          try simp only [Act.put, List.setIfInBounds_toArray, List.set_cons_zero, List.set_cons_succ]
          refine wpAnyV_one (i := 8) (by kernel_rfl) rfl (fun K hK => ?_)
          go_simp
          have hc := cmpOr_any 0 (headF txn prev) (placeF page slot) 0 wb.heap.size (wb.alloc (.cells #[.int .i64 (headF txn prev), .int .i64 (placeF page slot), .int .i64 0] 2)) (bz.cell 0) (bz.cell 1) (bz.cell 2)
          with_reducible refine hc.mono ?_
          clear hc
          rintro e wc ⟨rfl, hkk⟩
          have hkwc : Same w1 wc := Kept.trans (hkz) hkk
          clear hkk
          have hS : (fun wx : World => wx.cell? ⟨w.heap.size, 0, none⟩ = some (.int .i64 txn) ∧ wx.cell? ⟨w.heap.size, 1, none⟩ = some (.int .i64 prev) ∧ wx.cell? ⟨w.heap.size, 2, none⟩ = some (.int .i64 page) ∧ wx.cell? ⟨w.heap.size, 3, none⟩ = some (.int .i64 slot) ∧ wx.cell? ⟨w.heap.size, 4, none⟩ = some (.bool false) ∧ wx.cell? ⟨w.heap.size, 5, none⟩ = some (.slice before_data_a before_data_n before_data_c) ∧ wx.cell? ⟨w.heap.size, 6, none⟩ = some (.bool true) ∧ wx.cell? ⟨w.heap.size, 7, none⟩ = some (.slice after_data_a after_data_n after_data_c)) wc := hSx _ hkwc
          refine hK.out _ _ (fun _ => hS) ?_
          clear hK K
          try simp only [Act.put, List.setIfInBounds_toArray, List.set_cons_zero, List.set_cons_succ]
          refine wpAnyV_one (i := 9) (by kernel_rfl) rfl (fun K hK => ?_)
          go_simp
          refine hK.out _ _ (fun h => absurd rfl h) ?_
          clear hK K
          refine wpAnyV_done (by kernel_rfl) ?_
          try simp only [Act.put, List.setIfInBounds_toArray, List.set_cons_zero, List.set_cons_succ]
          go_wp2
          go_ret
          exact ⟨rfl, (hk0.trans hk1).trans hkwc⟩
        | false =>
          simp only [Bool.true_and, Bool.or_false, Bool.false_eq_true, if_false]
          go_enter Try.func131, Try.ntmps131
          go_wp2_with fail
          refine (h1 _).mono ?_
          rintro e w0 ⟨rfl, hk1⟩
          have cw00 : w0.cell? ⟨w.heap.size, 0, none⟩ = some (.int .i64 txn) := (b0.same hk1).cell 0
          have cw01 : w0.cell? ⟨w.heap.size, 1, none⟩ = some (.int .i64 prev) := (b0.same hk1).cell 1
          have cw02 : w0.cell? ⟨w.heap.size, 2, none⟩ = some (.int .i64 page) := (b0.same hk1).cell 2
          have cw03 : w0.cell? ⟨w.heap.size, 3, none⟩ = some (.int .i64 slot) := (b0.same hk1).cell 3
          have cw04 : w0.cell? ⟨w.heap.size, 4, none⟩ = some (.bool false) := (b0.same hk1).cell 4
          have cw05 : w0.cell? ⟨w.heap.size, 5, none⟩ = some (.slice before_data_a before_data_n before_data_c) := (b0.same hk1).cell 5
          have cw06 : w0.cell? ⟨w.heap.size, 6, none⟩ = some (.bool false) := (b0.same hk1).cell 6
          have cw07 : w0.cell? ⟨w.heap.size, 7, none⟩ = some (.slice after_data_a after_data_n after_data_c) := (b0.same hk1).cell 7
          go_wp2_with fail
          refine (h2 _).mono ?_
          rintro e w1 ⟨rfl, hk2⟩
          have hk1 := hk1.trans hk2
          clear cw00 cw01 cw02 cw03 cw04 cw05 cw06 cw07
          have cw10 : w1.cell? ⟨w.heap.size, 0, none⟩ = some (.int .i64 txn) := (b0.same hk1).cell 0
          have cw11 : w1.cell? ⟨w.heap.size, 1, none⟩ = some (.int .i64 prev) := (b0.same hk1).cell 1
          have cw12 : w1.cell? ⟨w.heap.size, 2, none⟩ = some (.int .i64 page) := (b0.same hk1).cell 2
          have cw13 : w1.cell? ⟨w.heap.size, 3, none⟩ = some (.int .i64 slot) := (b0.same hk1).cell 3
          have cw14 : w1.cell? ⟨w.heap.size, 4, none⟩ = some (.bool false) := (b0.same hk1).cell 4
          have cw15 : w1.cell? ⟨w.heap.size, 5, none⟩ = some (.slice before_data_a before_data_n before_data_c) := (b0.same hk1).cell 5
          have cw16 : w1.cell? ⟨w.heap.size, 6, none⟩ = some (.bool false) := (b0.same hk1).cell 6
          have cw17 : w1.cell? ⟨w.heap.size, 7, none⟩ = some (.slice after_data_a after_data_n after_data_c) := (b0.same hk1).cell 7
          go_wp2_with fail
          have hbb := b0.same hk1
          have hSx : ∀ wx, Same w1 wx → (fun wx : World => wx.cell? ⟨w.heap.size, 0, none⟩ = some (.int .i64 txn) ∧ wx.cell? ⟨w.heap.size, 1, none⟩ = some (.int .i64 prev) ∧ wx.cell? ⟨w.heap.size, 2, none⟩ = some (.int .i64 page) ∧ wx.cell? ⟨w.heap.size, 3, none⟩ = some (.int .i64 slot) ∧ wx.cell? ⟨w.heap.size, 4, none⟩ = some (.bool false) ∧ wx.cell? ⟨w.heap.size, 5, none⟩ = some (.slice before_data_a before_data_n before_data_c) ∧ wx.cell? ⟨w.heap.size, 6, none⟩ = some (.bool false) ∧ wx.cell? ⟨w.heap.size, 7, none⟩ = some (.slice after_data_a after_data_n after_data_c)) wx := fun wx h => ⟨(hbb.same h).cell 0, (hbb.same h).cell 1, (hbb.same h).cell 2, (hbb.same h).cell 3, (hbb.same h).cell 4, (hbb.same h).cell 5, (hbb.same h).cell 6, (hbb.same h).cell 7⟩
          have hS : (fun wx : World => wx.cell? ⟨w.heap.size, 0, none⟩ = some (.int .i64 txn) ∧ wx.cell? ⟨w.heap.size, 1, none⟩ = some (.int .i64 prev) ∧ wx.cell? ⟨w.heap.size, 2, none⟩ = some (.int .i64 page) ∧ wx.cell? ⟨w.heap.size, 3, none⟩ = some (.int .i64 slot) ∧ wx.cell? ⟨w.heap.size, 4, none⟩ = some (.bool false) ∧ wx.cell? ⟨w.heap.size, 5, none⟩ = some (.slice before_data_a before_data_n before_data_c) ∧ wx.cell? ⟨w.heap.size, 6, none⟩ = some (.bool false) ∧ wx.cell? ⟨w.heap.size, 7, none⟩ = some (.slice after_data_a after_data_n after_data_c)) w1.drew := by exact hSx _ (Kept.refl _ _).drew
          refine wp_region_V (fun wx : World => wx.cell? ⟨w.heap.size, 0, none⟩ = some (.int .i64 txn) ∧ wx.cell? ⟨w.heap.size, 1, none⟩ = some (.int .i64 prev) ∧ wx.cell? ⟨w.heap.size, 2, none⟩ = some (.int .i64 page) ∧ wx.cell? ⟨w.heap.size, 3, none⟩ = some (.int .i64 slot) ∧ wx.cell? ⟨w.heap.size, 4, none⟩ = some (.bool false) ∧ wx.cell? ⟨w.heap.size, 5, none⟩ = some (.slice before_data_a before_data_n before_data_c) ∧ wx.cell? ⟨w.heap.size, 6, none⟩ = some (.bool false) ∧ wx.cell? ⟨w.heap.size, 7, none⟩ = some (.slice after_data_a after_data_n after_data_c)) 9 10 rfl (by kernel_rfl) ?_
          refine wpAnyV_take (i := 0) (v := ?vq21) (some 26) rfl rfl (by kernel_rfl) (by kernel_rfl) (by kernel_rfl) (by kernel_rfl) (fun _ _ _ h => h) (Or.inl ⟨by rfl, ?hyq21⟩) hS ?_
          case hyq21 => (intro w hSw; (try dsimp only at hSw); go_simp; (try with_reducible rfl))
          try simp only [Act.put, List.setIfInBounds_toArray, List.set_cons_zero, List.set_cons_succ]
          refine wpAnyV_take (i := 1) (v := ?vq22) (some 27) rfl rfl (by kernel_rfl) (by kernel_rfl) (by kernel_rfl) (by kernel_rfl) (fun _ _ _ h => h) (Or.inl ⟨by rfl, ?hyq22⟩) hS ?_
          case hyq22 => (intro w hSw; (try dsimp only at hSw); go_simp; (try with_reducible rfl))
          try simp only [Act.put, List.setIfInBounds_toArray, List.set_cons_zero, List.set_cons_succ]
          refine wpAnyV_take (i := 3) (v := ?vq23) (some 29) rfl rfl (by kernel_rfl) (by kernel_rfl) (by kernel_rfl) (by kernel_rfl) (fun _ _ _ h => h) (Or.inl ⟨by rfl, ?hyq23⟩) hS ?_
          case hyq23 => (intro w hSw; (try dsimp only at hSw); go_simp; (try with_reducible rfl))
          try simp only [Act.put, List.setIfInBounds_toArray, List.set_cons_zero, List.set_cons_succ]
          refine wpAnyV_take (i := 4) (v := ?vq24) (some 30) rfl rfl (by kernel_rfl) (by kernel_rfl) (by kernel_rfl) (by kernel_rfl) (fun _ _ _ h => h) (Or.inl ⟨by rfl, ?hyq24⟩) hS ?_
          case hyq24 => (intro w hSw; (try dsimp only at hSw); go_simp; (try with_reducible rfl))
          try simp only [Act.put, List.setIfInBounds_toArray, List.set_cons_zero, List.set_cons_succ]
          refine wpAnyV_take (i := 6) (v := ?vq25) (some 32) rfl rfl (by kernel_rfl) (by kernel_rfl) (by kernel_rfl) (by kernel_rfl) (fun _ _ _ h => h) (Or.inl ⟨by rfl, ?hyq25⟩) hS ?_
          case hyq25 => (intro w hSw; (try dsimp only at hSw); go_simp; (try with_reducible rfl))
          try simp only [Act.put, List.setIfInBounds_toArray, List.set_cons_zero, List.set_cons_succ]
          refine wpAnyV_one (i := 2) (by kernel_rfl) rfl (fun K hK => ?_)
          go_simp
          have hc := headFault_any txn prev (w1.drew)
          with_reducible refine hc.mono ?_
          clear hc
          rintro e wa ⟨rfl, hkk⟩
          have hkwa : Same w1 wa := Kept.trans ((Kept.refl _ _).drew) hkk
          clear hkk
          have hS : (fun wx : World => wx.cell? ⟨w.heap.size, 0, none⟩ = some (.int .i64 txn) ∧ wx.cell? ⟨w.heap.size, 1, none⟩ = some (.int .i64 prev) ∧ wx.cell? ⟨w.heap.size, 2, none⟩ = some (.int .i64 page) ∧ wx.cell? ⟨w.heap.size, 3, none⟩ = some (.int .i64 slot) ∧ wx.cell? ⟨w.heap.size, 4, none⟩ = some (.bool false) ∧ wx.cell? ⟨w.heap.size, 5, none⟩ = some (.slice before_data_a before_data_n before_data_c) ∧ wx.cell? ⟨w.heap.size, 6, none⟩ = some (.bool false) ∧ wx.cell? ⟨w.heap.size, 7, none⟩ = some (.slice after_data_a after_data_n after_data_c)) wa := hSx _ hkwa
          refine hK.out _ _ (fun _ => hS) ?_
          clear hK K
          try simp only [Act.put, List.setIfInBounds_toArray, List.set_cons_zero, List.set_cons_succ]
          refine wpAnyV_one (i := 5) (by kernel_rfl) rfl (fun K hK => ?_)
          go_simp
          have hc := placeFault_any page slot wa
          with_reducible refine hc.mono ?_
          clear hc
          rintro e wb ⟨rfl, hkk⟩
          have hkwb : Same w1 wb := Kept.trans (hkwa) hkk
          clear hkk
          have hS : (fun wx : World => wx.cell? ⟨w.heap.size, 0, none⟩ = some (.int .i64 txn) ∧ wx.cell? ⟨w.heap.size, 1, none⟩ = some (.int .i64 prev) ∧ wx.cell? ⟨w.heap.size, 2, none⟩ = some (.int .i64 page) ∧ wx.cell? ⟨w.heap.size, 3, none⟩ = some (.int .i64 slot) ∧ wx.cell? ⟨w.heap.size, 4, none⟩ = some (.bool false) ∧ wx.cell? ⟨w.heap.size, 5, none⟩ = some (.slice before_data_a before_data_n before_data_c) ∧ wx.cell? ⟨w.heap.size, 6, none⟩ = some (.bool false) ∧ wx.cell? ⟨w.heap.size, 7, none⟩ = some (.slice after_data_a after_data_n after_data_c)) wb := hSx _ hkwb
          refine hK.out _ _ (fun _ => hS) ?_
          clear hK K
          try simp only [Act.put, List.setIfInBounds_toArray, List.set_cons_zero, List.set_cons_succ]
          refine wpAnyV_one (i := 7) (by kernel_rfl) rfl (fun K hK => ?_)
          go_simp
          have bz := Blk.new wb #[.int .i64 (headF txn prev), .int .i64 (placeF page slot), .int .i64 6] 2
          have hkz : Same w1 (wb.alloc (.cells #[.int .i64 (headF txn prev), .int .i64 (placeF page slot), .int .i64 6] 2)) := hkwb.alloc _
          have hS : (fun wx : World => wx.cell? ⟨w.heap.size, 0, none⟩ = some (.int .i64 txn) ∧ wx.cell? ⟨w.heap.size, 1, none⟩ = some (.int .i64 prev) ∧ wx.cell? ⟨w.heap.size, 2, none⟩ = some (.int .i64 page) ∧ wx.cell? ⟨w.heap.size, 3, none⟩ = some (.int .i64 slot) ∧ wx.cell? ⟨w.heap.size, 4, none⟩ = some (.bool false) ∧ wx.cell? ⟨w.heap.size, 5, none⟩ = some (.slice before_data_a before_data_n before_data_c) ∧ wx.cell? ⟨w.heap.size, 6, none⟩ = some (.bool false) ∧ wx.cell? ⟨w.heap.size, 7, none⟩ = some (.slice after_data_a after_data_n after_data_c)) _ := hSx _ hkz
          refine hK.out _ _ (fun _ => hS) ?_
          clear hK K
          try simp only [Act.put, List.setIfInBounds_toArray, List.set_cons_zero, List.set_cons_succ]
          refine wpAnyV_one (i := 8) (by kernel_rfl) rfl (fun K hK => ?_)
          go_simp
          have hc := cmpOr_any 0 (headF txn prev) (placeF page slot) 6 wb.heap.size (wb.alloc (.cells #[.int .i64 (headF txn prev), .int .i64 (placeF page slot), .int .i64 6] 2)) (bz.cell 0) (bz.cell 1) (bz.cell 2)
          with_reducible refine hc.mono ?_
          clear hc
          rintro e wc ⟨rfl, hkk⟩
          have hkwc : Same w1 wc := Kept.trans (hkz) hkk
          clear hkk
          have hS : (fun wx : World => wx.cell? ⟨w.heap.size, 0, none⟩ = some (.int .i64 txn) ∧ wx.cell? ⟨w.heap.size, 1, none⟩ = some (.int .i64 prev) ∧ wx.cell? ⟨w.heap.size, 2, none⟩ = some (.int .i64 page) ∧ wx.cell? ⟨w.heap.size, 3, none⟩ = some (.int .i64 slot) ∧ wx.cell? ⟨w.heap.size, 4, none⟩ = some (.bool false) ∧ wx.cell? ⟨w.heap.size, 5, none⟩ = some (.slice before_data_a before_data_n before_data_c) ∧ wx.cell? ⟨w.heap.size, 6, none⟩ = some (.bool false) ∧ wx.cell? ⟨w.heap.size, 7, none⟩ = some (.slice after_data_a after_data_n after_data_c)) wc := hSx _ hkwc
          refine hK.out _ _ (fun _ => hS) ?_
          clear hK K
          try simp only [Act.put, List.setIfInBounds_toArray, List.set_cons_zero, List.set_cons_succ]
          refine wpAnyV_one (i := 9) (by kernel_rfl) rfl (fun K hK => ?_)
          go_simp
          refine hK.out _ _ (fun h => absurd rfl h) ?_
          clear hK K
          refine wpAnyV_done (by kernel_rfl) ?_
          try simp only [Act.put, List.setIfInBounds_toArray, List.set_cons_zero, List.set_cons_succ]
          go_wp2
          go_ret
          exact ⟨rfl, (hk0.trans hk1).trans hkwc⟩
end Go.Proofs.Ytclmdpmelifplab
