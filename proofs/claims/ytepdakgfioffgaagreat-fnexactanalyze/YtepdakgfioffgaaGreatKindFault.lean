import Derived.Test.YtepdakgfioffgaaGreatG07
import Derived.Great.BuildSlice
namespace Go.Proofs.YtepdakgfioffgaaGreat
set_option maxRecDepth 100000
set_option maxHeartbeats 16000000
set_option linter.unusedVariables false
set_option linter.unusedSimpArgs false
open Go.RowKit
theorem updateFault_any (txn prev page slot : Int) (bU aU : Bool) (bN bH : Option Addr) (gU bO fB bI : Nat) (w : World) (AO : gU ≤ maxLen) (JK : fB ≤ maxLen) :
  Calls Tryz.prog 156 #[.agg #[.int .i64 txn, .int .i64 prev, .int .i64 page, .int .i64 slot, .bool bU, .slice bN gU bO, .bool aU, .slice bH fB bI]] w fun e w' => e = .returned (.int .i64 (orF (headF txn prev) (placeF page slot) (updF bU aU gU fB))) ∧ Same w w' := by
 have h1 := fun wx => fits_any bU bN gU bO wx AO
 have h2 := fun wx => fits_any aU bH fB bI wx JK
 have b0 := Blk.new w #[.int .i64 txn, .int .i64 prev, .int .i64 page, .int .i64 slot, .bool bU, .slice bN gU bO, .bool aU, .slice bH fB bI] 139
 have ep : Same w (w.alloc (.cells #[.int .i64 txn, .int .i64 prev, .int .i64 page, .int .i64 slot, .bool bU, .slice bN gU bO, .bool aU, .slice bH fB bI] 139)) := (Kept.refl _ _).alloc _
 unfold updF
 have RF : ∀ (v : Int) (w1 : World) (hk : Same (w.alloc (.cells #[.int .i64 txn, .int .i64 prev, .int .i64 page, .int .i64 slot, .bool bU, .slice bN gU bO, .bool aU, .slice bH fB bI] 139)) w1), True := fun _ _ _ => trivial
 cases e1 : fitsB bU gU with
 | false =>
  rw [e1] at h1
  simp only [Bool.false_and, Bool.false_eq_true, if_false]
  clear h2
  go_enter Tryz.func156, Tryz.ntmps156
  go_wp2_with (go_at_call 157; refine (h1 _).mono ?_; rintro e w1 ⟨rfl, bg⟩; have pU : w1.cell? ⟨w.heap.size, 0, none⟩ = some (.int .i64 txn) := (b0.same bg).cell 0; have pL : w1.cell? ⟨w.heap.size, 1, none⟩ = some (.int .i64 prev) := (b0.same bg).cell 1; have m4 : w1.cell? ⟨w.heap.size, 2, none⟩ = some (.int .i64 page) := (b0.same bg).cell 2; have ng : w1.cell? ⟨w.heap.size, 3, none⟩ = some (.int .i64 slot) := (b0.same bg).cell 3; have m8 : w1.cell? ⟨w.heap.size, 4, none⟩ = some (.bool bU) := (b0.same bg).cell 4; have pK : w1.cell? ⟨w.heap.size, 5, none⟩ = some (.slice bN gU bO) := (b0.same bg).cell 5; have o9 : w1.cell? ⟨w.heap.size, 6, none⟩ = some (.bool aU) := (b0.same bg).cell 6; have uF : w1.cell? ⟨w.heap.size, 7, none⟩ = some (.slice bH fB bI) := (b0.same bg).cell 7)
  have gS := b0.same bg
  let Y4 : World → Prop := fun wx : World => wx.cell? ⟨w.heap.size, 0, none⟩ = some (.int .i64 txn) ∧ wx.cell? ⟨w.heap.size, 1, none⟩ = some (.int .i64 prev) ∧ wx.cell? ⟨w.heap.size, 2, none⟩ = some (.int .i64 page) ∧ wx.cell? ⟨w.heap.size, 3, none⟩ = some (.int .i64 slot) ∧ wx.cell? ⟨w.heap.size, 4, none⟩ = some (.bool bU) ∧ wx.cell? ⟨w.heap.size, 5, none⟩ = some (.slice bN gU bO) ∧ wx.cell? ⟨w.heap.size, 6, none⟩ = some (.bool aU) ∧ wx.cell? ⟨w.heap.size, 7, none⟩ = some (.slice bH fB bI)
  have cI : ∀ wx, Same w1 wx → Y4 wx := fun wx h => ⟨(gS.same h).cell 0, (gS.same h).cell 1, (gS.same h).cell 2, (gS.same h).cell 3, (gS.same h).cell 4, (gS.same h).cell 5, (gS.same h).cell 6, (gS.same h).cell 7⟩
  have hS : Y4 w1.drew := by exact cI _ (Kept.refl _ _).drew
  refine wp_region_V Y4 9 10 rfl (by kernel_rfl) ?_
  refine tk 0 26 hS ?_
  refine tk 1 27 hS ?_
  refine tk 3 29 hS ?_
  refine tk 4 30 hS ?_
  refine tk 6 32 hS ?_
  refine wpAnyV_one (i := 2) (by kernel_rfl) rfl (fun K hK => ?_)
  go_simp
  have hc := headFault_any txn prev (w1.drew)
  with_reducible refine hc.mono ?_
  clear hc
  rintro e wa ⟨rfl, bJ⟩
  have jm : Same w1 wa := Kept.trans ((Kept.refl _ _).drew) bJ
  clear bJ
  have hS : Y4 wa := cI _ jm
  refine hK.out _ _ (fun _ => hS) ?_
  clear hK K
  try simp only [Act.put, sA, s0, sS]
  refine wpAnyV_one (i := 5) (by kernel_rfl) rfl (fun K hK => ?_)
  go_simp
  have hc := placeFault_any page slot wa
  with_reducible refine hc.mono ?_
  clear hc
  rintro e wb ⟨rfl, bJ⟩
  have ju : Same w1 wb := Kept.trans (jm) bJ
  clear bJ
  have hS : Y4 wb := cI _ ju
  refine hK.out _ _ (fun _ => hS) ?_
  clear hK K
  try simp only [Act.put, sA, s0, sS]
  refine wpAnyV_one (i := 7) (by kernel_rfl) rfl (fun K hK => ?_)
  go_simp
  have bz := Blk.new wb #[.int .i64 (headF txn prev), .int .i64 (placeF page slot), .int .i64 6] 2
  have lW : Same w1 (wb.alloc (.cells #[.int .i64 (headF txn prev), .int .i64 (placeF page slot), .int .i64 6] 2)) := ju.alloc _
  have hS : Y4 _ := cI _ lW
  refine hK.out _ _ (fun _ => hS) ?_
  clear hK K
  try simp only [Act.put, sA, s0, sS]
  refine wpAnyV_one (i := 8) (by kernel_rfl) rfl (fun K hK => ?_)
  go_simp
  have hc := cmpOr_any 0 (headF txn prev) (placeF page slot) 6 wb.heap.size (wb.alloc (.cells #[.int .i64 (headF txn prev), .int .i64 (placeF page slot), .int .i64 6] 2)) (bz.cell 0) (bz.cell 1) (bz.cell 2)
  with_reducible refine hc.mono ?_
  clear hc
  rintro e wc ⟨rfl, bJ⟩
  have jl : Same w1 wc := Kept.trans (lW) bJ
  clear bJ
  have hS : Y4 wc := cI _ jl
  refine hK.out _ _ (fun _ => hS) ?_
  clear hK K
  try simp only [Act.put, sA, s0, sS]
  refine wpAnyV_one (i := 9) (by kernel_rfl) rfl (fun K hK => ?_)
  go_simp
  refine hK.out _ _ (fun h => absurd rfl h) ?_
  clear hK K
  refine wpAnyV_done (by kernel_rfl) ?_
  try simp only [Act.put, sA, s0, sS]
  go_wp2
  go_ret
  exact ⟨rfl, (ep.trans bg).trans jl⟩
 | true =>
  rw [e1] at h1
  cases e2 : fitsB aU fB with
  | false =>
   rw [e2] at h2
   simp only [Bool.true_and, Bool.false_and, Bool.false_eq_true, if_false]
   go_enter Tryz.func156, Tryz.ntmps156
   go_wp2_with fail
   refine (h1 _).mono ?_
   rintro e w0 ⟨rfl, bg⟩
   have mJ := (b0.same bg).c0
   have mg := (b0.same bg).c1
   have mn := (b0.same bg).c2
   have mI := (b0.same bg).c3
   have mE := (b0.same bg).c4
   have mo := (b0.same bg).c5
   have mF := (b0.same bg).c6
   have pw := (b0.same bg).c7
   go_wp2_with fail
   refine (h2 _).mono ?_
   rintro e w1 ⟨rfl, eC⟩
   have bg := bg.trans eC
   clear mJ mg mn mI mE mo mF pw
   have pU := (b0.same bg).c0
   have pL := (b0.same bg).c1
   have m4 := (b0.same bg).c2
   have ng := (b0.same bg).c3
   have m8 := (b0.same bg).c4
   have pK := (b0.same bg).c5
   have o9 := (b0.same bg).c6
   have uF := (b0.same bg).c7
   go_wp2_with fail
   have gS := b0.same bg
   let Y5 : World → Prop := fun wx : World => wx.cell? ⟨w.heap.size, 0, none⟩ = some (.int .i64 txn) ∧ wx.cell? ⟨w.heap.size, 1, none⟩ = some (.int .i64 prev) ∧ wx.cell? ⟨w.heap.size, 2, none⟩ = some (.int .i64 page) ∧ wx.cell? ⟨w.heap.size, 3, none⟩ = some (.int .i64 slot) ∧ wx.cell? ⟨w.heap.size, 4, none⟩ = some (.bool bU) ∧ wx.cell? ⟨w.heap.size, 5, none⟩ = some (.slice bN gU bO) ∧ wx.cell? ⟨w.heap.size, 6, none⟩ = some (.bool aU) ∧ wx.cell? ⟨w.heap.size, 7, none⟩ = some (.slice bH fB bI)
   have cI : ∀ wx, Same w1 wx → Y5 wx := fun wx h => ⟨(gS.same h).cell 0, (gS.same h).cell 1, (gS.same h).cell 2, (gS.same h).cell 3, (gS.same h).cell 4, (gS.same h).cell 5, (gS.same h).cell 6, (gS.same h).cell 7⟩
   have hS : Y5 w1.drew := by exact cI _ (Kept.refl _ _).drew
   refine wp_region_V Y5 9 10 rfl (by kernel_rfl) ?_
   refine tk 0 26 hS ?_
   refine tk 1 27 hS ?_
   refine tk 3 29 hS ?_
   refine tk 4 30 hS ?_
   refine tk 6 32 hS ?_
   refine wpAnyV_one (i := 2) (by kernel_rfl) rfl (fun K hK => ?_)
   go_simp
   have hc := headFault_any txn prev (w1.drew)
   with_reducible refine hc.mono ?_
   clear hc
   rintro e wa ⟨rfl, bJ⟩
   have jm : Same w1 wa := Kept.trans ((Kept.refl _ _).drew) bJ
   clear bJ
   have hS : Y5 wa := cI _ jm
   refine hK.out _ _ (fun _ => hS) ?_
   clear hK K
   try simp only [Act.put, sA, s0, sS]
   refine wpAnyV_one (i := 5) (by kernel_rfl) rfl (fun K hK => ?_)
   go_simp
   have hc := placeFault_any page slot wa
   with_reducible refine hc.mono ?_
   clear hc
   rintro e wb ⟨rfl, bJ⟩
   have ju : Same w1 wb := Kept.trans (jm) bJ
   clear bJ
   have hS : Y5 wb := cI _ ju
   refine hK.out _ _ (fun _ => hS) ?_
   clear hK K
   try simp only [Act.put, sA, s0, sS]
   refine wpAnyV_one (i := 7) (by kernel_rfl) rfl (fun K hK => ?_)
   go_simp
   have bz := Blk.new wb #[.int .i64 (headF txn prev), .int .i64 (placeF page slot), .int .i64 6] 2
   have lW : Same w1 (wb.alloc (.cells #[.int .i64 (headF txn prev), .int .i64 (placeF page slot), .int .i64 6] 2)) := ju.alloc _
   have hS : Y5 _ := cI _ lW
   refine hK.out _ _ (fun _ => hS) ?_
   clear hK K
   try simp only [Act.put, sA, s0, sS]
   refine wpAnyV_one (i := 8) (by kernel_rfl) rfl (fun K hK => ?_)
   go_simp
   have hc := cmpOr_any 0 (headF txn prev) (placeF page slot) 6 wb.heap.size (wb.alloc (.cells #[.int .i64 (headF txn prev), .int .i64 (placeF page slot), .int .i64 6] 2)) (bz.cell 0) (bz.cell 1) (bz.cell 2)
   with_reducible refine hc.mono ?_
   clear hc
   rintro e wc ⟨rfl, bJ⟩
   have jl : Same w1 wc := Kept.trans (lW) bJ
   clear bJ
   have hS : Y5 wc := cI _ jl
   refine hK.out _ _ (fun _ => hS) ?_
   clear hK K
   try simp only [Act.put, sA, s0, sS]
   refine wpAnyV_one (i := 9) (by kernel_rfl) rfl (fun K hK => ?_)
   go_simp
   refine hK.out _ _ (fun h => absurd rfl h) ?_
   clear hK K
   refine wpAnyV_done (by kernel_rfl) ?_
   try simp only [Act.put, sA, s0, sS]
   go_wp2
   go_ret
   exact ⟨rfl, (ep.trans bg).trans jl⟩
  | true =>
   rw [e2] at h2
   cases bU with
   | true =>
    simp only [Bool.true_and, Bool.true_or, if_true]
    go_enter Tryz.func156, Tryz.ntmps156
    go_wp2_with fail
    refine (h1 _).mono ?_
    rintro e w0 ⟨rfl, bg⟩
    have mJ := (b0.same bg).c0
    have mg := (b0.same bg).c1
    have mn := (b0.same bg).c2
    have mI := (b0.same bg).c3
    have mE := (b0.same bg).c4
    have mo := (b0.same bg).c5
    have mF := (b0.same bg).c6
    have pw := (b0.same bg).c7
    go_wp2_with fail
    refine (h2 _).mono ?_
    rintro e w1 ⟨rfl, eC⟩
    have bg := bg.trans eC
    clear mJ mg mn mI mE mo mF pw
    have pU := (b0.same bg).c0
    have pL := (b0.same bg).c1
    have m4 := (b0.same bg).c2
    have ng := (b0.same bg).c3
    have m8 := (b0.same bg).c4
    have pK := (b0.same bg).c5
    have o9 := (b0.same bg).c6
    have uF := (b0.same bg).c7
    go_wp2_with fail
    have gS := b0.same bg
    let Y3 : World → Prop := fun wx : World => wx.cell? ⟨w.heap.size, 0, none⟩ = some (.int .i64 txn) ∧ wx.cell? ⟨w.heap.size, 1, none⟩ = some (.int .i64 prev) ∧ wx.cell? ⟨w.heap.size, 2, none⟩ = some (.int .i64 page) ∧ wx.cell? ⟨w.heap.size, 3, none⟩ = some (.int .i64 slot) ∧ wx.cell? ⟨w.heap.size, 4, none⟩ = some (.bool true) ∧ wx.cell? ⟨w.heap.size, 5, none⟩ = some (.slice bN gU bO) ∧ wx.cell? ⟨w.heap.size, 6, none⟩ = some (.bool aU) ∧ wx.cell? ⟨w.heap.size, 7, none⟩ = some (.slice bH fB bI)
    have cI : ∀ wx, Same w1 wx → Y3 wx := fun wx h => ⟨(gS.same h).cell 0, (gS.same h).cell 1, (gS.same h).cell 2, (gS.same h).cell 3, (gS.same h).cell 4, (gS.same h).cell 5, (gS.same h).cell 6, (gS.same h).cell 7⟩
    have hS : Y3 w1.drew := by exact cI _ (Kept.refl _ _).drew
    refine wp_region_V Y3 9 10 rfl (by kernel_rfl) ?_
    refine tk 0 26 hS ?_
    refine tk 1 27 hS ?_
    refine tk 3 29 hS ?_
    refine tk 4 30 hS ?_
    refine tk 6 32 hS ?_
    refine wpAnyV_one (i := 2) (by kernel_rfl) rfl (fun K hK => ?_)
    go_simp
    have hc := headFault_any txn prev (w1.drew)
    with_reducible refine hc.mono ?_
    clear hc
    rintro e wa ⟨rfl, bJ⟩
    have jm : Same w1 wa := Kept.trans ((Kept.refl _ _).drew) bJ
    clear bJ
    have hS : Y3 wa := cI _ jm
    refine hK.out _ _ (fun _ => hS) ?_
    clear hK K
    try simp only [Act.put, sA, s0, sS]
    refine wpAnyV_one (i := 5) (by kernel_rfl) rfl (fun K hK => ?_)
    go_simp
    have hc := placeFault_any page slot wa
    with_reducible refine hc.mono ?_
    clear hc
    rintro e wb ⟨rfl, bJ⟩
    have ju : Same w1 wb := Kept.trans (jm) bJ
    clear bJ
    have hS : Y3 wb := cI _ ju
    refine hK.out _ _ (fun _ => hS) ?_
    clear hK K
    try simp only [Act.put, sA, s0, sS]
    refine wpAnyV_one (i := 7) (by kernel_rfl) rfl (fun K hK => ?_)
    go_simp
    have bz := Blk.new wb #[.int .i64 (headF txn prev), .int .i64 (placeF page slot), .int .i64 0] 2
    have lW : Same w1 (wb.alloc (.cells #[.int .i64 (headF txn prev), .int .i64 (placeF page slot), .int .i64 0] 2)) := ju.alloc _
    have hS : Y3 _ := cI _ lW
    refine hK.out _ _ (fun _ => hS) ?_
    clear hK K
    try simp only [Act.put, sA, s0, sS]
    refine wpAnyV_one (i := 8) (by kernel_rfl) rfl (fun K hK => ?_)
    go_simp
    have hc := cmpOr_any 0 (headF txn prev) (placeF page slot) 0 wb.heap.size (wb.alloc (.cells #[.int .i64 (headF txn prev), .int .i64 (placeF page slot), .int .i64 0] 2)) (bz.cell 0) (bz.cell 1) (bz.cell 2)
    with_reducible refine hc.mono ?_
    clear hc
    rintro e wc ⟨rfl, bJ⟩
    have jl : Same w1 wc := Kept.trans (lW) bJ
    clear bJ
    have hS : Y3 wc := cI _ jl
    refine hK.out _ _ (fun _ => hS) ?_
    clear hK K
    try simp only [Act.put, sA, s0, sS]
    refine wpAnyV_one (i := 9) (by kernel_rfl) rfl (fun K hK => ?_)
    go_simp
    refine hK.out _ _ (fun h => absurd rfl h) ?_
    clear hK K
    refine wpAnyV_done (by kernel_rfl) ?_
    try simp only [Act.put, sA, s0, sS]
    go_wp2
    go_ret
    exact ⟨rfl, (ep.trans bg).trans jl⟩
   | false =>
    cases aU with
    | true =>
     simp only [Bool.true_and, Bool.or_true, if_true]
     go_enter Tryz.func156, Tryz.ntmps156
     go_wp2_with fail
     refine (h1 _).mono ?_
     rintro e w0 ⟨rfl, bg⟩
     have mJ := (b0.same bg).c0
     have mg := (b0.same bg).c1
     have mn := (b0.same bg).c2
     have mI := (b0.same bg).c3
     have mE := (b0.same bg).c4
     have mo := (b0.same bg).c5
     have mF := (b0.same bg).c6
     have pw := (b0.same bg).c7
     go_wp2_with fail
     refine (h2 _).mono ?_
     rintro e w1 ⟨rfl, eC⟩
     have bg := bg.trans eC
     clear mJ mg mn mI mE mo mF pw
     have pU := (b0.same bg).c0
     have pL := (b0.same bg).c1
     have m4 := (b0.same bg).c2
     have ng := (b0.same bg).c3
     have m8 := (b0.same bg).c4
     have pK := (b0.same bg).c5
     have o9 := (b0.same bg).c6
     have uF := (b0.same bg).c7
     go_wp2_with fail
     have gS := b0.same bg
     let Y2 : World → Prop := fun wx : World => wx.cell? ⟨w.heap.size, 0, none⟩ = some (.int .i64 txn) ∧ wx.cell? ⟨w.heap.size, 1, none⟩ = some (.int .i64 prev) ∧ wx.cell? ⟨w.heap.size, 2, none⟩ = some (.int .i64 page) ∧ wx.cell? ⟨w.heap.size, 3, none⟩ = some (.int .i64 slot) ∧ wx.cell? ⟨w.heap.size, 4, none⟩ = some (.bool false) ∧ wx.cell? ⟨w.heap.size, 5, none⟩ = some (.slice bN gU bO) ∧ wx.cell? ⟨w.heap.size, 6, none⟩ = some (.bool true) ∧ wx.cell? ⟨w.heap.size, 7, none⟩ = some (.slice bH fB bI)
     have cI : ∀ wx, Same w1 wx → Y2 wx := fun wx h => ⟨(gS.same h).cell 0, (gS.same h).cell 1, (gS.same h).cell 2, (gS.same h).cell 3, (gS.same h).cell 4, (gS.same h).cell 5, (gS.same h).cell 6, (gS.same h).cell 7⟩
     have hS : Y2 w1.drew := by exact cI _ (Kept.refl _ _).drew
     refine wp_region_V Y2 9 10 rfl (by kernel_rfl) ?_
     refine tk 0 26 hS ?_
     refine tk 1 27 hS ?_
     refine tk 3 29 hS ?_
     refine tk 4 30 hS ?_
     refine tk 6 32 hS ?_
     refine wpAnyV_one (i := 2) (by kernel_rfl) rfl (fun K hK => ?_)
     go_simp
     have hc := headFault_any txn prev (w1.drew)
     with_reducible refine hc.mono ?_
     clear hc
     rintro e wa ⟨rfl, bJ⟩
     have jm : Same w1 wa := Kept.trans ((Kept.refl _ _).drew) bJ
     clear bJ
     have hS : Y2 wa := cI _ jm
     refine hK.out _ _ (fun _ => hS) ?_
     clear hK K
     try simp only [Act.put, sA, s0, sS]
     refine wpAnyV_one (i := 5) (by kernel_rfl) rfl (fun K hK => ?_)
     go_simp
     have hc := placeFault_any page slot wa
     with_reducible refine hc.mono ?_
     clear hc
     rintro e wb ⟨rfl, bJ⟩
     have ju : Same w1 wb := Kept.trans (jm) bJ
     clear bJ
     have hS : Y2 wb := cI _ ju
     refine hK.out _ _ (fun _ => hS) ?_
     clear hK K
     try simp only [Act.put, sA, s0, sS]
     refine wpAnyV_one (i := 7) (by kernel_rfl) rfl (fun K hK => ?_)
     go_simp
     have bz := Blk.new wb #[.int .i64 (headF txn prev), .int .i64 (placeF page slot), .int .i64 0] 2
     have lW : Same w1 (wb.alloc (.cells #[.int .i64 (headF txn prev), .int .i64 (placeF page slot), .int .i64 0] 2)) := ju.alloc _
     have hS : Y2 _ := cI _ lW
     refine hK.out _ _ (fun _ => hS) ?_
     clear hK K
     try simp only [Act.put, sA, s0, sS]
     refine wpAnyV_one (i := 8) (by kernel_rfl) rfl (fun K hK => ?_)
     go_simp
     have hc := cmpOr_any 0 (headF txn prev) (placeF page slot) 0 wb.heap.size (wb.alloc (.cells #[.int .i64 (headF txn prev), .int .i64 (placeF page slot), .int .i64 0] 2)) (bz.cell 0) (bz.cell 1) (bz.cell 2)
     with_reducible refine hc.mono ?_
     clear hc
     rintro e wc ⟨rfl, bJ⟩
     have jl : Same w1 wc := Kept.trans (lW) bJ
     clear bJ
     have hS : Y2 wc := cI _ jl
     refine hK.out _ _ (fun _ => hS) ?_
     clear hK K
     try simp only [Act.put, sA, s0, sS]
     refine wpAnyV_one (i := 9) (by kernel_rfl) rfl (fun K hK => ?_)
     go_simp
     refine hK.out _ _ (fun h => absurd rfl h) ?_
     clear hK K
     refine wpAnyV_done (by kernel_rfl) ?_
     try simp only [Act.put, sA, s0, sS]
     go_wp2
     go_ret
     exact ⟨rfl, (ep.trans bg).trans jl⟩
    | false =>
     simp only [Bool.true_and, Bool.or_false, Bool.false_eq_true, if_false]
     go_enter Tryz.func156, Tryz.ntmps156
     go_wp2_with fail
     refine (h1 _).mono ?_
     rintro e w0 ⟨rfl, bg⟩
     have mJ := (b0.same bg).c0
     have mg := (b0.same bg).c1
     have mn := (b0.same bg).c2
     have mI := (b0.same bg).c3
     have mE := (b0.same bg).c4
     have mo := (b0.same bg).c5
     have mF := (b0.same bg).c6
     have pw := (b0.same bg).c7
     go_wp2_with fail
     refine (h2 _).mono ?_
     rintro e w1 ⟨rfl, eC⟩
     have bg := bg.trans eC
     clear mJ mg mn mI mE mo mF pw
     have pU := (b0.same bg).c0
     have pL := (b0.same bg).c1
     have m4 := (b0.same bg).c2
     have ng := (b0.same bg).c3
     have m8 := (b0.same bg).c4
     have pK := (b0.same bg).c5
     have o9 := (b0.same bg).c6
     have uF := (b0.same bg).c7
     go_wp2_with fail
     have gS := b0.same bg
     let Y1 : World → Prop := fun wx : World => wx.cell? ⟨w.heap.size, 0, none⟩ = some (.int .i64 txn) ∧ wx.cell? ⟨w.heap.size, 1, none⟩ = some (.int .i64 prev) ∧ wx.cell? ⟨w.heap.size, 2, none⟩ = some (.int .i64 page) ∧ wx.cell? ⟨w.heap.size, 3, none⟩ = some (.int .i64 slot) ∧ wx.cell? ⟨w.heap.size, 4, none⟩ = some (.bool false) ∧ wx.cell? ⟨w.heap.size, 5, none⟩ = some (.slice bN gU bO) ∧ wx.cell? ⟨w.heap.size, 6, none⟩ = some (.bool false) ∧ wx.cell? ⟨w.heap.size, 7, none⟩ = some (.slice bH fB bI)
     have cI : ∀ wx, Same w1 wx → Y1 wx := fun wx h => ⟨(gS.same h).cell 0, (gS.same h).cell 1, (gS.same h).cell 2, (gS.same h).cell 3, (gS.same h).cell 4, (gS.same h).cell 5, (gS.same h).cell 6, (gS.same h).cell 7⟩
     have hS : Y1 w1.drew := by exact cI _ (Kept.refl _ _).drew
     refine wp_region_V Y1 9 10 rfl (by kernel_rfl) ?_
     refine tk 0 26 hS ?_
     refine tk 1 27 hS ?_
     refine tk 3 29 hS ?_
     refine tk 4 30 hS ?_
     refine tk 6 32 hS ?_
     refine wpAnyV_one (i := 2) (by kernel_rfl) rfl (fun K hK => ?_)
     go_simp
     have hc := headFault_any txn prev (w1.drew)
     with_reducible refine hc.mono ?_
     clear hc
     rintro e wa ⟨rfl, bJ⟩
     have jm : Same w1 wa := Kept.trans ((Kept.refl _ _).drew) bJ
     clear bJ
     have hS : Y1 wa := cI _ jm
     refine hK.out _ _ (fun _ => hS) ?_
     clear hK K
     try simp only [Act.put, sA, s0, sS]
     refine wpAnyV_one (i := 5) (by kernel_rfl) rfl (fun K hK => ?_)
     go_simp
     have hc := placeFault_any page slot wa
     with_reducible refine hc.mono ?_
     clear hc
     rintro e wb ⟨rfl, bJ⟩
     have ju : Same w1 wb := Kept.trans (jm) bJ
     clear bJ
     have hS : Y1 wb := cI _ ju
     refine hK.out _ _ (fun _ => hS) ?_
     clear hK K
     try simp only [Act.put, sA, s0, sS]
     refine wpAnyV_one (i := 7) (by kernel_rfl) rfl (fun K hK => ?_)
     go_simp
     have bz := Blk.new wb #[.int .i64 (headF txn prev), .int .i64 (placeF page slot), .int .i64 6] 2
     have lW : Same w1 (wb.alloc (.cells #[.int .i64 (headF txn prev), .int .i64 (placeF page slot), .int .i64 6] 2)) := ju.alloc _
     have hS : Y1 _ := cI _ lW
     refine hK.out _ _ (fun _ => hS) ?_
     clear hK K
     try simp only [Act.put, sA, s0, sS]
     refine wpAnyV_one (i := 8) (by kernel_rfl) rfl (fun K hK => ?_)
     go_simp
     have hc := cmpOr_any 0 (headF txn prev) (placeF page slot) 6 wb.heap.size (wb.alloc (.cells #[.int .i64 (headF txn prev), .int .i64 (placeF page slot), .int .i64 6] 2)) (bz.cell 0) (bz.cell 1) (bz.cell 2)
     with_reducible refine hc.mono ?_
     clear hc
     rintro e wc ⟨rfl, bJ⟩
     have jl : Same w1 wc := Kept.trans (lW) bJ
     clear bJ
     have hS : Y1 wc := cI _ jl
     refine hK.out _ _ (fun _ => hS) ?_
     clear hK K
     try simp only [Act.put, sA, s0, sS]
     refine wpAnyV_one (i := 9) (by kernel_rfl) rfl (fun K hK => ?_)
     go_simp
     refine hK.out _ _ (fun h => absurd rfl h) ?_
     clear hK K
     refine wpAnyV_done (by kernel_rfl) ?_
     try simp only [Act.put, sA, s0, sS]
     go_wp2
     go_ret
     exact ⟨rfl, (ep.trans bg).trans jl⟩
end Go.Proofs.YtepdakgfioffgaaGreat
