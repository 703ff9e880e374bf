import Derived.Test.YtdgmecmkkddpeaaGreatG12
import Derived.Test.YtdgmecmkkddpeaaGreatG10
namespace Go.Proofs.YtdgmecmkkddpeaaGreat
set_option maxRecDepth 100000
set_option maxHeartbeats 16000000
set_option linter.unusedVariables false
set_option linter.unusedSimpArgs false
open Go.RowKit
theorem undoFault_any (txn prev page slot : Int) (aU : Bool) (aDa : Option Addr) (aDn aDc : Nat) (uN : Int) (w : World) (hn2 : aDn ≤ maxLen) :
  Calls Tryz.prog 133 #[.agg #[.int .i64 txn, .int .i64 prev, .int .i64 page, .int .i64 slot, .bool aU, .slice aDa aDn aDc, .int .i64 uN]] w fun e w' => e = .returned (.int .i64 (orF (headF txn prev) (placeF page slot) (undF aU aDn uN))) ∧ Same w w' := by
 have h1 := fun wx => fits_any aU aDa aDn aDc wx hn2
 have h2 := fun wx => isLSN_any uN wx
 have b0 := Blk.new w #[.int .i64 txn, .int .i64 prev, .int .i64 page, .int .i64 slot, .bool aU, .slice aDa aDn aDc, .int .i64 uN] 98
 have hk0 : Same w (w.alloc (.cells #[.int .i64 txn, .int .i64 prev, .int .i64 page, .int .i64 slot, .bool aU, .slice aDa aDn aDc, .int .i64 uN] 98)) := (Kept.refl _ _).alloc _
 unfold undF
 cases e1 : fitsB aU aDn with
 | false =>
  rw [e1] at h1
  simp only [if_true]
  go_enter Tryz.func133, Tryz.ntmps133
  go_wp2_with fail
  refine (h1 _).mono ?_
  rintro e w1 ⟨rfl, hk1⟩
  have cw10 := (b0.same hk1).c0
  have cw11 := (b0.same hk1).c1
  have cw12 := (b0.same hk1).c2
  have cw13 := (b0.same hk1).c3
  have cw14 := (b0.same hk1).c4
  have cw15 := (b0.same hk1).c5
  have cw16 := (b0.same hk1).c6
  go_wp2_with fail
  have hbb := b0.same hk1
  let Y1 : World → Prop := fun wx : World => wx.cell? ⟨w.heap.size, 0, none⟩ = some (.int .i64 txn) ∧ wx.cell? ⟨w.heap.size, 1, none⟩ = some (.int .i64 prev) ∧ wx.cell? ⟨w.heap.size, 2, none⟩ = some (.int .i64 page) ∧ wx.cell? ⟨w.heap.size, 3, none⟩ = some (.int .i64 slot) ∧ wx.cell? ⟨w.heap.size, 4, none⟩ = some (.bool aU) ∧ wx.cell? ⟨w.heap.size, 5, none⟩ = some (.slice aDa aDn aDc) ∧ wx.cell? ⟨w.heap.size, 6, none⟩ = some (.int .i64 uN)
  have hSx : ∀ wx, Same w1 wx → Y1 wx := fun wx h => ⟨(hbb.same h).cell 0, (hbb.same h).cell 1, (hbb.same h).cell 2, (hbb.same h).cell 3, (hbb.same h).cell 4, (hbb.same h).cell 5, (hbb.same h).cell 6⟩
  have hS : Y1 w1.drew := by exact hSx _ (Kept.refl _ _).drew
  refine wp_region_V Y1 9 10 rfl (by kernel_rfl) ?_
  refine tk 0 14 hS ?_
  refine tk 1 15 hS ?_
  refine tk 3 17 hS ?_
  refine tk 4 18 hS ?_
  refine tk 6 20 hS ?_
  refine wpAnyV_one (i := 2) (by kernel_rfl) rfl (fun K hK => ?_)
  go_simp
  have hc := headFault_any txn prev (w1.drew)
  with_reducible refine hc.mono ?_
  clear hc
  rintro e wa ⟨rfl, hkk⟩
  have hkwa : Same w1 wa := Kept.trans ((Kept.refl _ _).drew) hkk
  clear hkk
  have hS : Y1 wa := hSx _ hkwa
  refine hK.out _ _ (fun _ => hS) ?_
  clear hK K
  try simp only [Act.put, sA, s0, sS]
  refine wpAnyV_one (i := 5) (by kernel_rfl) rfl (fun K hK => ?_)
  go_simp
  have hc := placeFault_any page slot wa
  with_reducible refine hc.mono ?_
  clear hc
  rintro e wb ⟨rfl, hkk⟩
  have hkwb : Same w1 wb := Kept.trans (hkwa) hkk
  clear hkk
  have hS : Y1 wb := hSx _ hkwb
  refine hK.out _ _ (fun _ => hS) ?_
  clear hK K
  try simp only [Act.put, sA, s0, sS]
  refine wpAnyV_one (i := 7) (by kernel_rfl) rfl (fun K hK => ?_)
  go_simp
  have bz := Blk.new wb #[.int .i64 (headF txn prev), .int .i64 (placeF page slot), .int .i64 6] 2
  have hkz : Same w1 (wb.alloc (.cells #[.int .i64 (headF txn prev), .int .i64 (placeF page slot), .int .i64 6] 2)) := hkwb.alloc _
  have hS : Y1 _ := hSx _ hkz
  refine hK.out _ _ (fun _ => hS) ?_
  clear hK K
  try simp only [Act.put, sA, s0, sS]
  refine wpAnyV_one (i := 8) (by kernel_rfl) rfl (fun K hK => ?_)
  go_simp
  have hc := cmpOr_any 0 (headF txn prev) (placeF page slot) 6 wb.heap.size (wb.alloc (.cells #[.int .i64 (headF txn prev), .int .i64 (placeF page slot), .int .i64 6] 2)) (bz.cell 0) (bz.cell 1) (bz.cell 2)
  with_reducible refine hc.mono ?_
  clear hc
  rintro e wc ⟨rfl, hkk⟩
  have hkwc : Same w1 wc := Kept.trans (hkz) hkk
  clear hkk
  have hS : Y1 wc := hSx _ hkwc
  refine hK.out _ _ (fun _ => hS) ?_
  clear hK K
  try simp only [Act.put, sA, s0, sS]
  refine wpAnyV_one (i := 9) (by kernel_rfl) rfl (fun K hK => ?_)
  go_simp
  refine hK.out _ _ (fun h => absurd rfl h) ?_
  clear hK K
  refine wpAnyV_done (by kernel_rfl) ?_
  try simp only [Act.put, sA, s0, sS]
  go_wp2
  go_ret
  exact ⟨rfl, (hk0.trans hk1).trans hkwc⟩
 | true =>
  rw [e1] at h1
  cases e2 : isLSN uN with
  | false =>
   rw [e2] at h2
   simp only [Bool.true_eq_false, if_false, if_true]
   go_enter Tryz.func133, Tryz.ntmps133
   go_wp2_with fail
   refine (h1 _).mono ?_
   rintro e w0 ⟨rfl, hk1⟩
   have cw00 := (b0.same hk1).c0
   have cw01 := (b0.same hk1).c1
   have cw02 := (b0.same hk1).c2
   have cw03 := (b0.same hk1).c3
   have cw04 := (b0.same hk1).c4
   have cw05 := (b0.same hk1).c5
   have cw06 := (b0.same hk1).c6
   go_wp2_with fail
   refine (h2 _).mono ?_
   rintro e w1 ⟨rfl, hk2⟩
   have hk1 := hk1.trans hk2
   clear cw00 cw01 cw02 cw03 cw04 cw05 cw06
   have cw10 := (b0.same hk1).c0
   have cw11 := (b0.same hk1).c1
   have cw12 := (b0.same hk1).c2
   have cw13 := (b0.same hk1).c3
   have cw14 := (b0.same hk1).c4
   have cw15 := (b0.same hk1).c5
   have cw16 := (b0.same hk1).c6
   go_wp2_with fail
   have hbb := b0.same hk1
   let Y2 : World → Prop := fun wx : World => wx.cell? ⟨w.heap.size, 0, none⟩ = some (.int .i64 txn) ∧ wx.cell? ⟨w.heap.size, 1, none⟩ = some (.int .i64 prev) ∧ wx.cell? ⟨w.heap.size, 2, none⟩ = some (.int .i64 page) ∧ wx.cell? ⟨w.heap.size, 3, none⟩ = some (.int .i64 slot) ∧ wx.cell? ⟨w.heap.size, 4, none⟩ = some (.bool aU) ∧ wx.cell? ⟨w.heap.size, 5, none⟩ = some (.slice aDa aDn aDc) ∧ wx.cell? ⟨w.heap.size, 6, none⟩ = some (.int .i64 uN)
   have hSx : ∀ wx, Same w1 wx → Y2 wx := fun wx h => ⟨(hbb.same h).cell 0, (hbb.same h).cell 1, (hbb.same h).cell 2, (hbb.same h).cell 3, (hbb.same h).cell 4, (hbb.same h).cell 5, (hbb.same h).cell 6⟩
   have hS : Y2 w1.drew := by exact hSx _ (Kept.refl _ _).drew
   refine wp_region_V Y2 9 10 rfl (by kernel_rfl) ?_
   refine tk 0 14 hS ?_
   refine tk 1 15 hS ?_
   refine tk 3 17 hS ?_
   refine tk 4 18 hS ?_
   refine tk 6 20 hS ?_
   refine wpAnyV_one (i := 2) (by kernel_rfl) rfl (fun K hK => ?_)
   go_simp
   have hc := headFault_any txn prev (w1.drew)
   with_reducible refine hc.mono ?_
   clear hc
   rintro e wa ⟨rfl, hkk⟩
   have hkwa : Same w1 wa := Kept.trans ((Kept.refl _ _).drew) hkk
   clear hkk
   have hS : Y2 wa := hSx _ hkwa
   refine hK.out _ _ (fun _ => hS) ?_
   clear hK K
   try simp only [Act.put, sA, s0, sS]
   refine wpAnyV_one (i := 5) (by kernel_rfl) rfl (fun K hK => ?_)
   go_simp
   have hc := placeFault_any page slot wa
   with_reducible refine hc.mono ?_
   clear hc
   rintro e wb ⟨rfl, hkk⟩
   have hkwb : Same w1 wb := Kept.trans (hkwa) hkk
   clear hkk
   have hS : Y2 wb := hSx _ hkwb
   refine hK.out _ _ (fun _ => hS) ?_
   clear hK K
   try simp only [Act.put, sA, s0, sS]
   refine wpAnyV_one (i := 7) (by kernel_rfl) rfl (fun K hK => ?_)
   go_simp
   have bz := Blk.new wb #[.int .i64 (headF txn prev), .int .i64 (placeF page slot), .int .i64 7] 2
   have hkz : Same w1 (wb.alloc (.cells #[.int .i64 (headF txn prev), .int .i64 (placeF page slot), .int .i64 7] 2)) := hkwb.alloc _
   have hS : Y2 _ := hSx _ hkz
   refine hK.out _ _ (fun _ => hS) ?_
   clear hK K
   try simp only [Act.put, sA, s0, sS]
   refine wpAnyV_one (i := 8) (by kernel_rfl) rfl (fun K hK => ?_)
   go_simp
   have hc := cmpOr_any 0 (headF txn prev) (placeF page slot) 7 wb.heap.size (wb.alloc (.cells #[.int .i64 (headF txn prev), .int .i64 (placeF page slot), .int .i64 7] 2)) (bz.cell 0) (bz.cell 1) (bz.cell 2)
   with_reducible refine hc.mono ?_
   clear hc
   rintro e wc ⟨rfl, hkk⟩
   have hkwc : Same w1 wc := Kept.trans (hkz) hkk
   clear hkk
   have hS : Y2 wc := hSx _ hkwc
   refine hK.out _ _ (fun _ => hS) ?_
   clear hK K
   try simp only [Act.put, sA, s0, sS]
   refine wpAnyV_one (i := 9) (by kernel_rfl) rfl (fun K hK => ?_)
   go_simp
   refine hK.out _ _ (fun h => absurd rfl h) ?_
   clear hK K
   refine wpAnyV_done (by kernel_rfl) ?_
   try simp only [Act.put, sA, s0, sS]
   go_wp2
   go_ret
   exact ⟨rfl, (hk0.trans hk1).trans hkwc⟩
  | true =>
   rw [e2] at h2
   simp only [Bool.true_eq_false, if_false]
   go_enter Tryz.func133, Tryz.ntmps133
   go_wp2_with fail
   refine (h1 _).mono ?_
   rintro e w0 ⟨rfl, hk1⟩
   have cw00 := (b0.same hk1).c0
   have cw01 := (b0.same hk1).c1
   have cw02 := (b0.same hk1).c2
   have cw03 := (b0.same hk1).c3
   have cw04 := (b0.same hk1).c4
   have cw05 := (b0.same hk1).c5
   have cw06 := (b0.same hk1).c6
   go_wp2_with fail
   refine (h2 _).mono ?_
   rintro e w1 ⟨rfl, hk2⟩
   have hk1 := hk1.trans hk2
   clear cw00 cw01 cw02 cw03 cw04 cw05 cw06
   have cw10 := (b0.same hk1).c0
   have cw11 := (b0.same hk1).c1
   have cw12 := (b0.same hk1).c2
   have cw13 := (b0.same hk1).c3
   have cw14 := (b0.same hk1).c4
   have cw15 := (b0.same hk1).c5
   have cw16 := (b0.same hk1).c6
   go_wp2_with fail
   have hbb := b0.same hk1
   let Y3 : World → Prop := fun wx : World => wx.cell? ⟨w.heap.size, 0, none⟩ = some (.int .i64 txn) ∧ wx.cell? ⟨w.heap.size, 1, none⟩ = some (.int .i64 prev) ∧ wx.cell? ⟨w.heap.size, 2, none⟩ = some (.int .i64 page) ∧ wx.cell? ⟨w.heap.size, 3, none⟩ = some (.int .i64 slot) ∧ wx.cell? ⟨w.heap.size, 4, none⟩ = some (.bool aU) ∧ wx.cell? ⟨w.heap.size, 5, none⟩ = some (.slice aDa aDn aDc) ∧ wx.cell? ⟨w.heap.size, 6, none⟩ = some (.int .i64 uN)
   have hSx : ∀ wx, Same w1 wx → Y3 wx := fun wx h => ⟨(hbb.same h).cell 0, (hbb.same h).cell 1, (hbb.same h).cell 2, (hbb.same h).cell 3, (hbb.same h).cell 4, (hbb.same h).cell 5, (hbb.same h).cell 6⟩
   have hS : Y3 w1.drew := by exact hSx _ (Kept.refl _ _).drew
   refine wp_region_V Y3 9 10 rfl (by kernel_rfl) ?_
   refine tk 0 14 hS ?_
   refine tk 1 15 hS ?_
   refine tk 3 17 hS ?_
   refine tk 4 18 hS ?_
   refine tk 6 20 hS ?_
   refine wpAnyV_one (i := 2) (by kernel_rfl) rfl (fun K hK => ?_)
   go_simp
   have hc := headFault_any txn prev (w1.drew)
   with_reducible refine hc.mono ?_
   clear hc
   rintro e wa ⟨rfl, hkk⟩
   have hkwa : Same w1 wa := Kept.trans ((Kept.refl _ _).drew) hkk
   clear hkk
   have hS : Y3 wa := hSx _ hkwa
   refine hK.out _ _ (fun _ => hS) ?_
   clear hK K
   try simp only [Act.put, sA, s0, sS]
   refine wpAnyV_one (i := 5) (by kernel_rfl) rfl (fun K hK => ?_)
   go_simp
   have hc := placeFault_any page slot wa
   with_reducible refine hc.mono ?_
   clear hc
   rintro e wb ⟨rfl, hkk⟩
   have hkwb : Same w1 wb := Kept.trans (hkwa) hkk
   clear hkk
   have hS : Y3 wb := hSx _ hkwb
   refine hK.out _ _ (fun _ => hS) ?_
   clear hK K
   try simp only [Act.put, sA, s0, sS]
   refine wpAnyV_one (i := 7) (by kernel_rfl) rfl (fun K hK => ?_)
   go_simp
   have bz := Blk.new wb #[.int .i64 (headF txn prev), .int .i64 (placeF page slot), .int .i64 0] 2
   have hkz : Same w1 (wb.alloc (.cells #[.int .i64 (headF txn prev), .int .i64 (placeF page slot), .int .i64 0] 2)) := hkwb.alloc _
   have hS : Y3 _ := hSx _ hkz
   refine hK.out _ _ (fun _ => hS) ?_
   clear hK K
   try simp only [Act.put, sA, s0, sS]
   refine wpAnyV_one (i := 8) (by kernel_rfl) rfl (fun K hK => ?_)
   go_simp
   have hc := cmpOr_any 0 (headF txn prev) (placeF page slot) 0 wb.heap.size (wb.alloc (.cells #[.int .i64 (headF txn prev), .int .i64 (placeF page slot), .int .i64 0] 2)) (bz.cell 0) (bz.cell 1) (bz.cell 2)
   with_reducible refine hc.mono ?_
   clear hc
   rintro e wc ⟨rfl, hkk⟩
   have hkwc : Same w1 wc := Kept.trans (hkz) hkk
   clear hkk
   have hS : Y3 wc := hSx _ hkwc
   refine hK.out _ _ (fun _ => hS) ?_
   clear hK K
   try simp only [Act.put, sA, s0, sS]
   refine wpAnyV_one (i := 9) (by kernel_rfl) rfl (fun K hK => ?_)
   go_simp
   refine hK.out _ _ (fun h => absurd rfl h) ?_
   clear hK K
   refine wpAnyV_done (by kernel_rfl) ?_
   try simp only [Act.put, sA, s0, sS]
   go_wp2
   go_ret
   exact ⟨rfl, (hk0.trans hk1).trans hkwc⟩
def imgF (page : Int) (im : List Int) : Int := if isPageB page = false then 5 else if pageFault im page ≠ 0 then 9 else 0
theorem imageFault_any (page : Int) (iMa : Option Addr) (iMc : Nat) (im : List Int) (w : World) (hB : IsB im) (hn : im.length ≤ 1099511627776) (hv : Rd .u8 w (.slice iMa im.length iMc) im) :
  Calls Tryz.prog 140 #[.agg #[.int .i64 0, .int .i64 0, .int .i64 page, .slice iMa im.length iMc]] w fun e w' => e = .returned (.int .i64 (imgF page im)) ∧ Same w w' := by
 have h1 := fun wx => isPage_any page wx
 have b0 := Blk.new w #[.int .i64 0, .int .i64 0, .int .i64 page, .slice iMa im.length iMc] 107
 have hk0 : Same w (w.alloc (.cells #[.int .i64 0, .int .i64 0, .int .i64 page, .slice iMa im.length iMc] 107)) := (Kept.refl _ _).alloc _
 have h2 := fun wx (h : Same w wx) => implFault_any (.slice iMa im.length iMc) im page wx hB hn (hv.same h)
 unfold imgF
 clear hv hB hn
 cases e1 : isPageB page with
 | false =>
  rw [e1] at h1
  simp only [if_true]
  go_enter Tryz.func140, Tryz.ntmps140
  go_wp2_with (go_at_call 124; refine (h1 _).mono ?_; rintro e w1 ⟨rfl, hk1⟩)
  go_ret
  exact ⟨rfl, hk0.trans hk1⟩
 | true =>
  rw [e1] at h1
  simp only [Bool.true_eq_false, if_false]
  generalize pageFault im page = F at *
  by_cases hF : F = 0
  ·subst hF
   simp only [ne_eq, not_true_eq_false, if_false]
   go_enter Tryz.func140, Tryz.ntmps140
   go_wp2_with (first
    | (go_at_call 124; refine (h1 _).mono ?_; rintro e w1 ⟨rfl, hk1⟩; have c2 : w1.cell? ⟨w.heap.size, 2, none⟩ = some (.int .i64 page) := (b0.same hk1).cell 2; have c3 : w1.cell? ⟨w.heap.size, 3, none⟩ = some (.slice iMa im.length iMc) := (b0.same hk1).cell 3; have h2' := h2 w1 (hk0.trans hk1))
    | (go_at_call 141; refine h2'.mono ?_; rintro e w2 ⟨rfl, hk2⟩))
   go_ret
   exact ⟨rfl, (hk0.trans hk1).trans hk2⟩
  ·rw [if_pos hF]
   go_enter Tryz.func140, Tryz.ntmps140
   go_wp2_with (first
    | (go_at_call 124; refine (h1 _).mono ?_; rintro e w1 ⟨rfl, hk1⟩; have c2 : w1.cell? ⟨w.heap.size, 2, none⟩ = some (.int .i64 page) := (b0.same hk1).cell 2; have c3 : w1.cell? ⟨w.heap.size, 3, none⟩ = some (.slice iMa im.length iMc) := (b0.same hk1).cell 3; have h2' := h2 w1 (hk0.trans hk1))
    | (go_at_call 141; refine h2'.mono ?_; rintro e w2 ⟨rfl, hk2⟩))
   go_ret
   exact ⟨rfl, (hk0.trans hk1).trans hk2⟩
def tabF (nT : Int) (tx : List Int) (tn : Nat) (dy : List Int) (dn : Nat) : Int := if (decide (1 ≤ nT) && decide (nT ≤ 2147483648) && allTxns tx tn && allDirty dy dn) = true then 0 else 8
theorem tablesFault_any (nT : Int) (tx dy : FR) (w : World) (hv : RdF 4 w tx) (hv2 : RdF 2 w dy) :
  Calls Tryz.prog 136 #[.agg #[.int .i64 0, .int .i64 0, .int .i64 nT, tx.v, dy.v]] w fun e w' => e = .returned (.int .i64 (tabF nT tx.bs tx.n dy.bs dy.n)) ∧ Same w w' := by
 have h1 := fun wx (h : Same w wx) => Txns_any tx wx (hv.same h)
 have h2 := fun wx (h : Same w wx) => Dirty_any dy wx (hv2.same h)
 obtain ⟨txe, txa, txn, txc, txb⟩ := tx
 obtain ⟨dye, dya, dyn, dyc, dyb⟩ := dy
 dsimp only [FR.v] at *
 have b0 := Blk.new w #[.int .i64 0, .int .i64 0, .int .i64 nT, .slice txa txn txc, .slice dya dyn dyc] 105
 have hk0 : Same w (w.alloc (.cells #[.int .i64 0, .int .i64 0, .int .i64 nT, .slice txa txn txc, .slice dya dyn dyc] 105)) := (Kept.refl _ _).alloc _
 unfold tabF
 generalize allTxns txb txn = A at *
 generalize allDirty dyb dyn = B at *
 clear hv hv2
 by_cases hc0 : nT < 1
 ·rw [decide_eq_false (show ¬ (1 ≤ nT) from by omega)]
  simp only [Bool.false_and, Bool.false_eq_true, if_false]
  go_enter Tryz.func136, Tryz.ntmps136
  go_wp2
  go_ret
  exact ⟨rfl, hk0⟩
 by_cases hc1 : 2147483648 < nT
 ·rw [decide_eq_false (show ¬ (nT ≤ 2147483648) from by omega)]
  simp only [Bool.false_and, Bool.and_false, Bool.false_eq_true, if_false]
  go_enter Tryz.func136, Tryz.ntmps136
  go_wp2
  go_ret
  exact ⟨rfl, hk0⟩
 rw [decide_eq_true (show 1 ≤ nT from by omega), decide_eq_true (show nT ≤ 2147483648 from by omega)]
 cases A with
 | false =>
  simp only [Bool.false_and, Bool.and_false, Bool.false_eq_true, if_false]
  go_enter Tryz.func136, Tryz.ntmps136
  go_wp2_with (go_at_call 137; refine (h1 _ hk0).mono ?_; rintro e w1 ⟨rfl, hk1⟩; have cw12 : w1.cell? ⟨w.heap.size, 2, none⟩ = some (.int .i64 nT) := (b0.same hk1).cell 2; have cw13 : w1.cell? ⟨w.heap.size, 3, none⟩ = some (.slice txa txn txc) := (b0.same hk1).cell 3; have cw14 : w1.cell? ⟨w.heap.size, 4, none⟩ = some (.slice dya dyn dyc) := (b0.same hk1).cell 4)
  go_ret
  exact ⟨rfl, hk0.trans hk1⟩
 | true =>
  cases B with
  | false =>
   simp only [Bool.and_self, Bool.and_false, Bool.false_eq_true, if_false]
   go_enter Tryz.func136, Tryz.ntmps136
   go_wp2_with (first
    | (go_at_call 137; refine (h1 _ hk0).mono ?_; rintro e w1 ⟨rfl, hk1⟩; have cw12 : w1.cell? ⟨w.heap.size, 2, none⟩ = some (.int .i64 nT) := (b0.same hk1).cell 2; have cw13 : w1.cell? ⟨w.heap.size, 3, none⟩ = some (.slice txa txn txc) := (b0.same hk1).cell 3; have cw14 : w1.cell? ⟨w.heap.size, 4, none⟩ = some (.slice dya dyn dyc) := (b0.same hk1).cell 4; have h2' := h2 w1 (hk0.trans hk1))
    | (go_at_call 138; refine h2'.mono ?_; rintro e w2 ⟨rfl, hk2⟩))
   go_ret
   exact ⟨rfl, (hk0.trans hk1).trans hk2⟩
  | true =>
   simp only [Bool.and_self, if_true]
   go_enter Tryz.func136, Tryz.ntmps136
   go_wp2_with (first
    | (go_at_call 137; refine (h1 _ hk0).mono ?_; rintro e w1 ⟨rfl, hk1⟩; have cw12 : w1.cell? ⟨w.heap.size, 2, none⟩ = some (.int .i64 nT) := (b0.same hk1).cell 2; have cw13 : w1.cell? ⟨w.heap.size, 3, none⟩ = some (.slice txa txn txc) := (b0.same hk1).cell 3; have cw14 : w1.cell? ⟨w.heap.size, 4, none⟩ = some (.slice dya dyn dyc) := (b0.same hk1).cell 4; have h2' := h2 w1 (hk0.trans hk1))
    | (go_at_call 138; refine h2'.mono ?_; rintro e w2 ⟨rfl, hk2⟩))
   go_ret
   exact ⟨rfl, (hk0.trans hk1).trans hk2⟩
theorem beginFault_any (w : World) : Calls Tryz.prog 134 #[.agg #[.int .i64 0, .int .i64 0]] w fun e w' => e = .returned (.int .i64 0) ∧ Same w w' := by
 go_enter Tryz.func134, Tryz.ntmps134
 go_wp2
 go_ret
 exact ⟨rfl, by first | exact Kept.refl _ _ | exact (Kept.refl _ _).alloc _⟩
end Go.Proofs.YtdgmecmkkddpeaaGreat
