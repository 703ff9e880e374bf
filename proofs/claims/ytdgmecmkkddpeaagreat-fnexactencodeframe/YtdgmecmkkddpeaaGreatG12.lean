import Derived.Test.YtdgmecmkkddpeaaGreatG09
import Derived.Great.BuildSlice
namespace Go.Proofs.YtdgmecmkkddpeaaGreat
set_option maxRecDepth 100000
set_option maxHeartbeats 16000000
set_option linter.unusedVariables false
set_option linter.unusedSimpArgs false
open Go.RowKit
theorem updateFault_any (txn prev page slot : Int) (bU aU : Bool) (bDa aDa : Option Addr) (bDn bDc aDn aDc : Nat) (w : World) (hn1 : bDn ≤ maxLen) (hn2 : aDn ≤ maxLen) :
  Calls Tryz.prog 127 #[.agg #[.int .i64 txn, .int .i64 prev, .int .i64 page, .int .i64 slot, .bool bU, .slice bDa bDn bDc, .bool aU, .slice aDa aDn aDc]] w fun e w' => e = .returned (.int .i64 (orF (headF txn prev) (placeF page slot) (updF bU aU bDn aDn))) ∧ Same w w' := by
 have h1 := fun wx => fits_any bU bDa bDn bDc wx hn1
 have h2 := fun wx => fits_any aU aDa aDn aDc wx hn2
 have b0 := Blk.new w #[.int .i64 txn, .int .i64 prev, .int .i64 page, .int .i64 slot, .bool bU, .slice bDa bDn bDc, .bool aU, .slice aDa aDn aDc] 96
 have hk0 : Same w (w.alloc (.cells #[.int .i64 txn, .int .i64 prev, .int .i64 page, .int .i64 slot, .bool bU, .slice bDa bDn bDc, .bool aU, .slice aDa aDn aDc] 96)) := (Kept.refl _ _).alloc _
 unfold updF
 have hor : ∀ (v : Int) (w1 : World) (hk : Same (w.alloc (.cells #[.int .i64 txn, .int .i64 prev, .int .i64 page, .int .i64 slot, .bool bU, .slice bDa bDn bDc, .bool aU, .slice aDa aDn aDc] 96)) w1), True := fun _ _ _ => trivial
 cases e1 : fitsB bU bDn with
 | false =>
  rw [e1] at h1
  simp only [Bool.false_and, Bool.false_eq_true, if_false]
  clear h2
  go_enter Tryz.func127, Tryz.ntmps127
  go_wp2_with (go_at_call 130; refine (h1 _).mono ?_; rintro e w1 ⟨rfl, hk1⟩; have cw10 : w1.cell? ⟨w.heap.size, 0, none⟩ = some (.int .i64 txn) := (b0.same hk1).cell 0; have cw11 : w1.cell? ⟨w.heap.size, 1, none⟩ = some (.int .i64 prev) := (b0.same hk1).cell 1; have cw12 : w1.cell? ⟨w.heap.size, 2, none⟩ = some (.int .i64 page) := (b0.same hk1).cell 2; have cw13 : w1.cell? ⟨w.heap.size, 3, none⟩ = some (.int .i64 slot) := (b0.same hk1).cell 3; have cw14 : w1.cell? ⟨w.heap.size, 4, none⟩ = some (.bool bU) := (b0.same hk1).cell 4; have cw15 : w1.cell? ⟨w.heap.size, 5, none⟩ = some (.slice bDa bDn bDc) := (b0.same hk1).cell 5; have cw16 : w1.cell? ⟨w.heap.size, 6, none⟩ = some (.bool aU) := (b0.same hk1).cell 6; have cw17 : w1.cell? ⟨w.heap.size, 7, none⟩ = some (.slice aDa aDn aDc) := (b0.same hk1).cell 7)
  have hbb := b0.same hk1
  let Y4 : World → Prop := fun wx : World => wx.cell? ⟨w.heap.size, 0, none⟩ = some (.int .i64 txn) ∧ wx.cell? ⟨w.heap.size, 1, none⟩ = some (.int .i64 prev) ∧ wx.cell? ⟨w.heap.size, 2, none⟩ = some (.int .i64 page) ∧ wx.cell? ⟨w.heap.size, 3, none⟩ = some (.int .i64 slot) ∧ wx.cell? ⟨w.heap.size, 4, none⟩ = some (.bool bU) ∧ wx.cell? ⟨w.heap.size, 5, none⟩ = some (.slice bDa bDn bDc) ∧ wx.cell? ⟨w.heap.size, 6, none⟩ = some (.bool aU) ∧ wx.cell? ⟨w.heap.size, 7, none⟩ = some (.slice aDa aDn aDc)
  have hSx : ∀ wx, Same w1 wx → Y4 wx := fun wx h => ⟨(hbb.same h).cell 0, (hbb.same h).cell 1, (hbb.same h).cell 2, (hbb.same h).cell 3, (hbb.same h).cell 4, (hbb.same h).cell 5, (hbb.same h).cell 6, (hbb.same h).cell 7⟩
  have hS : Y4 w1.drew := by exact hSx _ (Kept.refl _ _).drew
  refine wp_region_V Y4 9 10 rfl (by kernel_rfl) ?_
  refine tk 0 26 hS ?_
  refine tk 1 27 hS ?_
  refine tk 3 29 hS ?_
  refine tk 4 30 hS ?_
  refine tk 6 32 hS ?_
  refine wpAnyV_one (i := 2) (by kernel_rfl) rfl (fun K hK => ?_)
  go_simp
  have hc := headFault_any txn prev (w1.drew)
  with_reducible refine hc.mono ?_
  clear hc
  rintro e wa ⟨rfl, hkk⟩
  have hkwa : Same w1 wa := Kept.trans ((Kept.refl _ _).drew) hkk
  clear hkk
  have hS : Y4 wa := hSx _ hkwa
  refine hK.out _ _ (fun _ => hS) ?_
  clear hK K
  try simp only [Act.put, sA, s0, sS]
  refine wpAnyV_one (i := 5) (by kernel_rfl) rfl (fun K hK => ?_)
  go_simp
  have hc := placeFault_any page slot wa
  with_reducible refine hc.mono ?_
  clear hc
  rintro e wb ⟨rfl, hkk⟩
  have hkwb : Same w1 wb := Kept.trans (hkwa) hkk
  clear hkk
  have hS : Y4 wb := hSx _ hkwb
  refine hK.out _ _ (fun _ => hS) ?_
  clear hK K
  try simp only [Act.put, sA, s0, sS]
  refine wpAnyV_one (i := 7) (by kernel_rfl) rfl (fun K hK => ?_)
  go_simp
  have bz := Blk.new wb #[.int .i64 (headF txn prev), .int .i64 (placeF page slot), .int .i64 6] 2
  have hkz : Same w1 (wb.alloc (.cells #[.int .i64 (headF txn prev), .int .i64 (placeF page slot), .int .i64 6] 2)) := hkwb.alloc _
  have hS : Y4 _ := hSx _ hkz
  refine hK.out _ _ (fun _ => hS) ?_
  clear hK K
  try simp only [Act.put, sA, s0, sS]
  refine wpAnyV_one (i := 8) (by kernel_rfl) rfl (fun K hK => ?_)
  go_simp
  have hc := cmpOr_any 0 (headF txn prev) (placeF page slot) 6 wb.heap.size (wb.alloc (.cells #[.int .i64 (headF txn prev), .int .i64 (placeF page slot), .int .i64 6] 2)) (bz.cell 0) (bz.cell 1) (bz.cell 2)
  with_reducible refine hc.mono ?_
  clear hc
  rintro e wc ⟨rfl, hkk⟩
  have hkwc : Same w1 wc := Kept.trans (hkz) hkk
  clear hkk
  have hS : Y4 wc := hSx _ hkwc
  refine hK.out _ _ (fun _ => hS) ?_
  clear hK K
  try simp only [Act.put, sA, s0, sS]
  refine wpAnyV_one (i := 9) (by kernel_rfl) rfl (fun K hK => ?_)
  go_simp
  refine hK.out _ _ (fun h => absurd rfl h) ?_
  clear hK K
  refine wpAnyV_done (by kernel_rfl) ?_
  try simp only [Act.put, sA, s0, sS]
  go_wp2
  go_ret
  exact ⟨rfl, (hk0.trans hk1).trans hkwc⟩
 | true =>
  rw [e1] at h1
  cases e2 : fitsB aU aDn with
  | false =>
   rw [e2] at h2
   simp only [Bool.true_and, Bool.false_and, Bool.false_eq_true, if_false]
   go_enter Tryz.func127, Tryz.ntmps127
   go_wp2_with fail
   refine (h1 _).mono ?_
   rintro e w0 ⟨rfl, hk1⟩
   have cw00 := (b0.same hk1).c0
   have cw01 := (b0.same hk1).c1
   have cw02 := (b0.same hk1).c2
   have cw03 := (b0.same hk1).c3
   have cw04 := (b0.same hk1).c4
   have cw05 := (b0.same hk1).c5
   have cw06 := (b0.same hk1).c6
   have cw07 := (b0.same hk1).c7
   go_wp2_with fail
   refine (h2 _).mono ?_
   rintro e w1 ⟨rfl, hk2⟩
   have hk1 := hk1.trans hk2
   clear cw00 cw01 cw02 cw03 cw04 cw05 cw06 cw07
   have cw10 := (b0.same hk1).c0
   have cw11 := (b0.same hk1).c1
   have cw12 := (b0.same hk1).c2
   have cw13 := (b0.same hk1).c3
   have cw14 := (b0.same hk1).c4
   have cw15 := (b0.same hk1).c5
   have cw16 := (b0.same hk1).c6
   have cw17 := (b0.same hk1).c7
   go_wp2_with fail
   have hbb := b0.same hk1
   let Y5 : World → Prop := fun wx : World => wx.cell? ⟨w.heap.size, 0, none⟩ = some (.int .i64 txn) ∧ wx.cell? ⟨w.heap.size, 1, none⟩ = some (.int .i64 prev) ∧ wx.cell? ⟨w.heap.size, 2, none⟩ = some (.int .i64 page) ∧ wx.cell? ⟨w.heap.size, 3, none⟩ = some (.int .i64 slot) ∧ wx.cell? ⟨w.heap.size, 4, none⟩ = some (.bool bU) ∧ wx.cell? ⟨w.heap.size, 5, none⟩ = some (.slice bDa bDn bDc) ∧ wx.cell? ⟨w.heap.size, 6, none⟩ = some (.bool aU) ∧ wx.cell? ⟨w.heap.size, 7, none⟩ = some (.slice aDa aDn aDc)
   have hSx : ∀ wx, Same w1 wx → Y5 wx := fun wx h => ⟨(hbb.same h).cell 0, (hbb.same h).cell 1, (hbb.same h).cell 2, (hbb.same h).cell 3, (hbb.same h).cell 4, (hbb.same h).cell 5, (hbb.same h).cell 6, (hbb.same h).cell 7⟩
   have hS : Y5 w1.drew := by exact hSx _ (Kept.refl _ _).drew
   refine wp_region_V Y5 9 10 rfl (by kernel_rfl) ?_
   refine tk 0 26 hS ?_
   refine tk 1 27 hS ?_
   refine tk 3 29 hS ?_
   refine tk 4 30 hS ?_
   refine tk 6 32 hS ?_
   refine wpAnyV_one (i := 2) (by kernel_rfl) rfl (fun K hK => ?_)
   go_simp
   have hc := headFault_any txn prev (w1.drew)
   with_reducible refine hc.mono ?_
   clear hc
   rintro e wa ⟨rfl, hkk⟩
   have hkwa : Same w1 wa := Kept.trans ((Kept.refl _ _).drew) hkk
   clear hkk
   have hS : Y5 wa := hSx _ hkwa
   refine hK.out _ _ (fun _ => hS) ?_
   clear hK K
   try simp only [Act.put, sA, s0, sS]
   refine wpAnyV_one (i := 5) (by kernel_rfl) rfl (fun K hK => ?_)
   go_simp
   have hc := placeFault_any page slot wa
   with_reducible refine hc.mono ?_
   clear hc
   rintro e wb ⟨rfl, hkk⟩
   have hkwb : Same w1 wb := Kept.trans (hkwa) hkk
   clear hkk
   have hS : Y5 wb := hSx _ hkwb
   refine hK.out _ _ (fun _ => hS) ?_
   clear hK K
   try simp only [Act.put, sA, s0, sS]
   refine wpAnyV_one (i := 7) (by kernel_rfl) rfl (fun K hK => ?_)
   go_simp
   have bz := Blk.new wb #[.int .i64 (headF txn prev), .int .i64 (placeF page slot), .int .i64 6] 2
   have hkz : Same w1 (wb.alloc (.cells #[.int .i64 (headF txn prev), .int .i64 (placeF page slot), .int .i64 6] 2)) := hkwb.alloc _
   have hS : Y5 _ := hSx _ hkz
   refine hK.out _ _ (fun _ => hS) ?_
   clear hK K
   try simp only [Act.put, sA, s0, sS]
   refine wpAnyV_one (i := 8) (by kernel_rfl) rfl (fun K hK => ?_)
   go_simp
   have hc := cmpOr_any 0 (headF txn prev) (placeF page slot) 6 wb.heap.size (wb.alloc (.cells #[.int .i64 (headF txn prev), .int .i64 (placeF page slot), .int .i64 6] 2)) (bz.cell 0) (bz.cell 1) (bz.cell 2)
   with_reducible refine hc.mono ?_
   clear hc
   rintro e wc ⟨rfl, hkk⟩
   have hkwc : Same w1 wc := Kept.trans (hkz) hkk
   clear hkk
   have hS : Y5 wc := hSx _ hkwc
   refine hK.out _ _ (fun _ => hS) ?_
   clear hK K
   try simp only [Act.put, sA, s0, sS]
   refine wpAnyV_one (i := 9) (by kernel_rfl) rfl (fun K hK => ?_)
   go_simp
   refine hK.out _ _ (fun h => absurd rfl h) ?_
   clear hK K
   refine wpAnyV_done (by kernel_rfl) ?_
   try simp only [Act.put, sA, s0, sS]
   go_wp2
   go_ret
   exact ⟨rfl, (hk0.trans hk1).trans hkwc⟩
  | true =>
   rw [e2] at h2
   cases bU with
   | true =>
    simp only [Bool.true_and, Bool.true_or, if_true]
    go_enter Tryz.func127, Tryz.ntmps127
    go_wp2_with fail
    refine (h1 _).mono ?_
    rintro e w0 ⟨rfl, hk1⟩
    have cw00 := (b0.same hk1).c0
    have cw01 := (b0.same hk1).c1
    have cw02 := (b0.same hk1).c2
    have cw03 := (b0.same hk1).c3
    have cw04 := (b0.same hk1).c4
    have cw05 := (b0.same hk1).c5
    have cw06 := (b0.same hk1).c6
    have cw07 := (b0.same hk1).c7
    go_wp2_with fail
    refine (h2 _).mono ?_
    rintro e w1 ⟨rfl, hk2⟩
    have hk1 := hk1.trans hk2
    clear cw00 cw01 cw02 cw03 cw04 cw05 cw06 cw07
    have cw10 := (b0.same hk1).c0
    have cw11 := (b0.same hk1).c1
    have cw12 := (b0.same hk1).c2
    have cw13 := (b0.same hk1).c3
    have cw14 := (b0.same hk1).c4
    have cw15 := (b0.same hk1).c5
    have cw16 := (b0.same hk1).c6
    have cw17 := (b0.same hk1).c7
    go_wp2_with fail
    have hbb := b0.same hk1
    let Y3 : World → Prop := fun wx : World => wx.cell? ⟨w.heap.size, 0, none⟩ = some (.int .i64 txn) ∧ wx.cell? ⟨w.heap.size, 1, none⟩ = some (.int .i64 prev) ∧ wx.cell? ⟨w.heap.size, 2, none⟩ = some (.int .i64 page) ∧ wx.cell? ⟨w.heap.size, 3, none⟩ = some (.int .i64 slot) ∧ wx.cell? ⟨w.heap.size, 4, none⟩ = some (.bool true) ∧ wx.cell? ⟨w.heap.size, 5, none⟩ = some (.slice bDa bDn bDc) ∧ wx.cell? ⟨w.heap.size, 6, none⟩ = some (.bool aU) ∧ wx.cell? ⟨w.heap.size, 7, none⟩ = some (.slice aDa aDn aDc)
    have hSx : ∀ wx, Same w1 wx → Y3 wx := fun wx h => ⟨(hbb.same h).cell 0, (hbb.same h).cell 1, (hbb.same h).cell 2, (hbb.same h).cell 3, (hbb.same h).cell 4, (hbb.same h).cell 5, (hbb.same h).cell 6, (hbb.same h).cell 7⟩
    have hS : Y3 w1.drew := by exact hSx _ (Kept.refl _ _).drew
    refine wp_region_V Y3 9 10 rfl (by kernel_rfl) ?_
    refine tk 0 26 hS ?_
    refine tk 1 27 hS ?_
    refine tk 3 29 hS ?_
    refine tk 4 30 hS ?_
    refine tk 6 32 hS ?_
    refine wpAnyV_one (i := 2) (by kernel_rfl) rfl (fun K hK => ?_)
    go_simp
    have hc := headFault_any txn prev (w1.drew)
    with_reducible refine hc.mono ?_
    clear hc
    rintro e wa ⟨rfl, hkk⟩
    have hkwa : Same w1 wa := Kept.trans ((Kept.refl _ _).drew) hkk
    clear hkk
    have hS : Y3 wa := hSx _ hkwa
    refine hK.out _ _ (fun _ => hS) ?_
    clear hK K
    try simp only [Act.put, sA, s0, sS]
    refine wpAnyV_one (i := 5) (by kernel_rfl) rfl (fun K hK => ?_)
    go_simp
    have hc := placeFault_any page slot wa
    with_reducible refine hc.mono ?_
    clear hc
    rintro e wb ⟨rfl, hkk⟩
    have hkwb : Same w1 wb := Kept.trans (hkwa) hkk
    clear hkk
    have hS : Y3 wb := hSx _ hkwb
    refine hK.out _ _ (fun _ => hS) ?_
    clear hK K
    try simp only [Act.put, sA, s0, sS]
    refine wpAnyV_one (i := 7) (by kernel_rfl) rfl (fun K hK => ?_)
    go_simp
    have bz := Blk.new wb #[.int .i64 (headF txn prev), .int .i64 (placeF page slot), .int .i64 0] 2
    have hkz : Same w1 (wb.alloc (.cells #[.int .i64 (headF txn prev), .int .i64 (placeF page slot), .int .i64 0] 2)) := hkwb.alloc _
    have hS : Y3 _ := hSx _ hkz
    refine hK.out _ _ (fun _ => hS) ?_
    clear hK K
    try simp only [Act.put, sA, s0, sS]
    refine wpAnyV_one (i := 8) (by kernel_rfl) rfl (fun K hK => ?_)
    go_simp
    have hc := cmpOr_any 0 (headF txn prev) (placeF page slot) 0 wb.heap.size (wb.alloc (.cells #[.int .i64 (headF txn prev), .int .i64 (placeF page slot), .int .i64 0] 2)) (bz.cell 0) (bz.cell 1) (bz.cell 2)
    with_reducible refine hc.mono ?_
    clear hc
    rintro e wc ⟨rfl, hkk⟩
    have hkwc : Same w1 wc := Kept.trans (hkz) hkk
    clear hkk
    have hS : Y3 wc := hSx _ hkwc
    refine hK.out _ _ (fun _ => hS) ?_
    clear hK K
    try simp only [Act.put, sA, s0, sS]
    refine wpAnyV_one (i := 9) (by kernel_rfl) rfl (fun K hK => ?_)
    go_simp
    refine hK.out _ _ (fun h => absurd rfl h) ?_
    clear hK K
    refine wpAnyV_done (by kernel_rfl) ?_
    try simp only [Act.put, sA, s0, sS]
    go_wp2
    go_ret
    exact ⟨rfl, (hk0.trans hk1).trans hkwc⟩
   | false =>
    cases aU with
    | true =>
     simp only [Bool.true_and, Bool.or_true, if_true]
     go_enter Tryz.func127, Tryz.ntmps127
     go_wp2_with fail
     refine (h1 _).mono ?_
     rintro e w0 ⟨rfl, hk1⟩
     have cw00 := (b0.same hk1).c0
     have cw01 := (b0.same hk1).c1
     have cw02 := (b0.same hk1).c2
     have cw03 := (b0.same hk1).c3
     have cw04 := (b0.same hk1).c4
     have cw05 := (b0.same hk1).c5
     have cw06 := (b0.same hk1).c6
     have cw07 := (b0.same hk1).c7
     go_wp2_with fail
     refine (h2 _).mono ?_
     rintro e w1 ⟨rfl, hk2⟩
     have hk1 := hk1.trans hk2
     clear cw00 cw01 cw02 cw03 cw04 cw05 cw06 cw07
     have cw10 := (b0.same hk1).c0
     have cw11 := (b0.same hk1).c1
     have cw12 := (b0.same hk1).c2
     have cw13 := (b0.same hk1).c3
     have cw14 := (b0.same hk1).c4
     have cw15 := (b0.same hk1).c5
     have cw16 := (b0.same hk1).c6
     have cw17 := (b0.same hk1).c7
     go_wp2_with fail
     have hbb := b0.same hk1
     let Y2 : World → Prop := fun wx : World => wx.cell? ⟨w.heap.size, 0, none⟩ = some (.int .i64 txn) ∧ wx.cell? ⟨w.heap.size, 1, none⟩ = some (.int .i64 prev) ∧ wx.cell? ⟨w.heap.size, 2, none⟩ = some (.int .i64 page) ∧ wx.cell? ⟨w.heap.size, 3, none⟩ = some (.int .i64 slot) ∧ wx.cell? ⟨w.heap.size, 4, none⟩ = some (.bool false) ∧ wx.cell? ⟨w.heap.size, 5, none⟩ = some (.slice bDa bDn bDc) ∧ wx.cell? ⟨w.heap.size, 6, none⟩ = some (.bool true) ∧ wx.cell? ⟨w.heap.size, 7, none⟩ = some (.slice aDa aDn aDc)
     have hSx : ∀ wx, Same w1 wx → Y2 wx := fun wx h => ⟨(hbb.same h).cell 0, (hbb.same h).cell 1, (hbb.same h).cell 2, (hbb.same h).cell 3, (hbb.same h).cell 4, (hbb.same h).cell 5, (hbb.same h).cell 6, (hbb.same h).cell 7⟩
     have hS : Y2 w1.drew := by exact hSx _ (Kept.refl _ _).drew
     refine wp_region_V Y2 9 10 rfl (by kernel_rfl) ?_
     refine tk 0 26 hS ?_
     refine tk 1 27 hS ?_
     refine tk 3 29 hS ?_
     refine tk 4 30 hS ?_
     refine tk 6 32 hS ?_
     refine wpAnyV_one (i := 2) (by kernel_rfl) rfl (fun K hK => ?_)
     go_simp
     have hc := headFault_any txn prev (w1.drew)
     with_reducible refine hc.mono ?_
     clear hc
     rintro e wa ⟨rfl, hkk⟩
     have hkwa : Same w1 wa := Kept.trans ((Kept.refl _ _).drew) hkk
     clear hkk
     have hS : Y2 wa := hSx _ hkwa
     refine hK.out _ _ (fun _ => hS) ?_
     clear hK K
     try simp only [Act.put, sA, s0, sS]
     refine wpAnyV_one (i := 5) (by kernel_rfl) rfl (fun K hK => ?_)
     go_simp
     have hc := placeFault_any page slot wa
     with_reducible refine hc.mono ?_
     clear hc
     rintro e wb ⟨rfl, hkk⟩
     have hkwb : Same w1 wb := Kept.trans (hkwa) hkk
     clear hkk
     have hS : Y2 wb := hSx _ hkwb
     refine hK.out _ _ (fun _ => hS) ?_
     clear hK K
     try simp only [Act.put, sA, s0, sS]
     refine wpAnyV_one (i := 7) (by kernel_rfl) rfl (fun K hK => ?_)
     go_simp
     have bz := Blk.new wb #[.int .i64 (headF txn prev), .int .i64 (placeF page slot), .int .i64 0] 2
     have hkz : Same w1 (wb.alloc (.cells #[.int .i64 (headF txn prev), .int .i64 (placeF page slot), .int .i64 0] 2)) := hkwb.alloc _
     have hS : Y2 _ := hSx _ hkz
     refine hK.out _ _ (fun _ => hS) ?_
     clear hK K
     try simp only [Act.put, sA, s0, sS]
     refine wpAnyV_one (i := 8) (by kernel_rfl) rfl (fun K hK => ?_)
     go_simp
     have hc := cmpOr_any 0 (headF txn prev) (placeF page slot) 0 wb.heap.size (wb.alloc (.cells #[.int .i64 (headF txn prev), .int .i64 (placeF page slot), .int .i64 0] 2)) (bz.cell 0) (bz.cell 1) (bz.cell 2)
     with_reducible refine hc.mono ?_
     clear hc
     rintro e wc ⟨rfl, hkk⟩
     have hkwc : Same w1 wc := Kept.trans (hkz) hkk
     clear hkk
     have hS : Y2 wc := hSx _ hkwc
     refine hK.out _ _ (fun _ => hS) ?_
     clear hK K
     try simp only [Act.put, sA, s0, sS]
     refine wpAnyV_one (i := 9) (by kernel_rfl) rfl (fun K hK => ?_)
     go_simp
     refine hK.out _ _ (fun h => absurd rfl h) ?_
     clear hK K
     refine wpAnyV_done (by kernel_rfl) ?_
     try simp only [Act.put, sA, s0, sS]
     go_wp2
     go_ret
     exact ⟨rfl, (hk0.trans hk1).trans hkwc⟩
    | false =>
     simp only [Bool.true_and, Bool.or_false, Bool.false_eq_true, if_false]
     go_enter Tryz.func127, Tryz.ntmps127
     go_wp2_with fail
     refine (h1 _).mono ?_
     rintro e w0 ⟨rfl, hk1⟩
     have cw00 := (b0.same hk1).c0
     have cw01 := (b0.same hk1).c1
     have cw02 := (b0.same hk1).c2
     have cw03 := (b0.same hk1).c3
     have cw04 := (b0.same hk1).c4
     have cw05 := (b0.same hk1).c5
     have cw06 := (b0.same hk1).c6
     have cw07 := (b0.same hk1).c7
     go_wp2_with fail
     refine (h2 _).mono ?_
     rintro e w1 ⟨rfl, hk2⟩
     have hk1 := hk1.trans hk2
     clear cw00 cw01 cw02 cw03 cw04 cw05 cw06 cw07
     have cw10 := (b0.same hk1).c0
     have cw11 := (b0.same hk1).c1
     have cw12 := (b0.same hk1).c2
     have cw13 := (b0.same hk1).c3
     have cw14 := (b0.same hk1).c4
     have cw15 := (b0.same hk1).c5
     have cw16 := (b0.same hk1).c6
     have cw17 := (b0.same hk1).c7
     go_wp2_with fail
     have hbb := b0.same hk1
     let Y1 : World → Prop := fun wx : World => wx.cell? ⟨w.heap.size, 0, none⟩ = some (.int .i64 txn) ∧ wx.cell? ⟨w.heap.size, 1, none⟩ = some (.int .i64 prev) ∧ wx.cell? ⟨w.heap.size, 2, none⟩ = some (.int .i64 page) ∧ wx.cell? ⟨w.heap.size, 3, none⟩ = some (.int .i64 slot) ∧ wx.cell? ⟨w.heap.size, 4, none⟩ = some (.bool false) ∧ wx.cell? ⟨w.heap.size, 5, none⟩ = some (.slice bDa bDn bDc) ∧ wx.cell? ⟨w.heap.size, 6, none⟩ = some (.bool false) ∧ wx.cell? ⟨w.heap.size, 7, none⟩ = some (.slice aDa aDn aDc)
     have hSx : ∀ wx, Same w1 wx → Y1 wx := fun wx h => ⟨(hbb.same h).cell 0, (hbb.same h).cell 1, (hbb.same h).cell 2, (hbb.same h).cell 3, (hbb.same h).cell 4, (hbb.same h).cell 5, (hbb.same h).cell 6, (hbb.same h).cell 7⟩
     have hS : Y1 w1.drew := by exact hSx _ (Kept.refl _ _).drew
     refine wp_region_V Y1 9 10 rfl (by kernel_rfl) ?_
     refine tk 0 26 hS ?_
     refine tk 1 27 hS ?_
     refine tk 3 29 hS ?_
     refine tk 4 30 hS ?_
     refine tk 6 32 hS ?_
     refine wpAnyV_one (i := 2) (by kernel_rfl) rfl (fun K hK => ?_)
     go_simp
     have hc := headFault_any txn prev (w1.drew)
     with_reducible refine hc.mono ?_
     clear hc
     rintro e wa ⟨rfl, hkk⟩
     have hkwa : Same w1 wa := Kept.trans ((Kept.refl _ _).drew) hkk
     clear hkk
     have hS : Y1 wa := hSx _ hkwa
     refine hK.out _ _ (fun _ => hS) ?_
     clear hK K
     try simp only [Act.put, sA, s0, sS]
     refine wpAnyV_one (i := 5) (by kernel_rfl) rfl (fun K hK => ?_)
     go_simp
     have hc := placeFault_any page slot wa
     with_reducible refine hc.mono ?_
     clear hc
     rintro e wb ⟨rfl, hkk⟩
     have hkwb : Same w1 wb := Kept.trans (hkwa) hkk
     clear hkk
     have hS : Y1 wb := hSx _ hkwb
     refine hK.out _ _ (fun _ => hS) ?_
     clear hK K
     try simp only [Act.put, sA, s0, sS]
     refine wpAnyV_one (i := 7) (by kernel_rfl) rfl (fun K hK => ?_)
     go_simp
     have bz := Blk.new wb #[.int .i64 (headF txn prev), .int .i64 (placeF page slot), .int .i64 6] 2
     have hkz : Same w1 (wb.alloc (.cells #[.int .i64 (headF txn prev), .int .i64 (placeF page slot), .int .i64 6] 2)) := hkwb.alloc _
     have hS : Y1 _ := hSx _ hkz
     refine hK.out _ _ (fun _ => hS) ?_
     clear hK K
     try simp only [Act.put, sA, s0, sS]
     refine wpAnyV_one (i := 8) (by kernel_rfl) rfl (fun K hK => ?_)
     go_simp
     have hc := cmpOr_any 0 (headF txn prev) (placeF page slot) 6 wb.heap.size (wb.alloc (.cells #[.int .i64 (headF txn prev), .int .i64 (placeF page slot), .int .i64 6] 2)) (bz.cell 0) (bz.cell 1) (bz.cell 2)
     with_reducible refine hc.mono ?_
     clear hc
     rintro e wc ⟨rfl, hkk⟩
     have hkwc : Same w1 wc := Kept.trans (hkz) hkk
     clear hkk
     have hS : Y1 wc := hSx _ hkwc
     refine hK.out _ _ (fun _ => hS) ?_
     clear hK K
     try simp only [Act.put, sA, s0, sS]
     refine wpAnyV_one (i := 9) (by kernel_rfl) rfl (fun K hK => ?_)
     go_simp
     refine hK.out _ _ (fun h => absurd rfl h) ?_
     clear hK K
     refine wpAnyV_done (by kernel_rfl) ?_
     try simp only [Act.put, sA, s0, sS]
     go_wp2
     go_ret
     exact ⟨rfl, (hk0.trans hk1).trans hkwc⟩
theorem implFault_any (v : Value) (raw : List Int) (number : Int) (w : World) (hB : IsB raw) (hn : raw.length ≤ 1099511627776) (hv : Rd .u8 w v raw) :
  Calls Tryz.prog 141 #[v, .int .i64 number] w fun e w' => e = .returned (.int .i64 (pageFault raw number)) ∧ Same w w' := by
 obtain ⟨a, c, rfl⟩ := hv.form
 by_cases hl : raw.length = 4096
 ·have hR : pageFault raw number = faultP (raw.take 4) (numAt raw 4 8) (numAt raw 12 4) (numAt raw 16 2) (slotsOf raw) raw number := by unfold pageFault; rw [if_neg (by simp [hl])]
  obtain ⟨b, off, rfl, hc⟩ := rd_some hv (by omega)
  have hrg := rd_range hv (by omega)
  have hI : (Tryz.prog.info? 168).map (·.size) = some (vals .u8 raw).length := by rw [vals_length, hl]; exact page_info
  have hT := takeApart_any raw w hB hl
  have hn12 := numAt_in raw hB 12 4 (by decide) (by decide) (by omega)
  have hn16 := numAt_in raw hB 16 2 (by decide) (by decide) (by omega)
  have hF := fun P wx (h : SP wx P (raw.take 4) (numAt raw 4 8) (numAt raw 12 4) (numAt raw 16 2) (slotsOf raw) raw) => fault_any P (raw.take 4) (numAt raw 4 8) (numAt raw 12 4) (numAt raw 16 2) (slotsOf raw) raw number wx h (slotsOf_small raw hB hl) ⟨hn12.1, by omega⟩ ⟨hn16.1, by omega⟩
  rw [hR, hl]
  obtain ⟨F, hFe⟩ : ∃ F, faultP (raw.take 4) (numAt raw 4 8) (numAt raw 12 4) (numAt raw 16 2) (slotsOf raw) raw number = F := ⟨_, rfl⟩
  rw [hFe] at hF ⊢
  obtain ⟨cs, hcs⟩ : ∃ cs : List Value, vals .u8 raw = cs := ⟨_, rfl⟩
  rw [hcs] at hT hrg hI
  have harr := run_arrayP
  clear hcs hv hB hn hR hl hFe hn12 hn16
  go_enter Tryz.func141, Tryz.ntmps141
  go_wp2_with (first
   | (go_at_call 142; refine hT.mono ?_; rintro e w1 ⟨P, rfl, hP, hsp, hk1⟩)
   | (go_at_call 143; refine (hF P _ hsp).mono ?_; rintro e w2 ⟨rfl, hk2⟩)
   | (refine wpList_load_mid rfl 168 _ rfl b off rfl cs _ hrg Tryz.underlying168 rfl hI ?_))
  go_ret
  exact ⟨rfl, hk1.trans hk2⟩
 ·have hR : pageFault raw number = 1 := by unfold pageFault; rw [if_pos hl]
  rw [hR]
  have hl' : ¬ (raw.length : Int) = 4096 := by omega
  clear hv hB
  go_enter Tryz.func141, Tryz.ntmps141
  go_wp2
  go_ret
  exact ⟨rfl, Kept.refl _ _⟩
end Go.Proofs.YtdgmecmkkddpeaaGreat
