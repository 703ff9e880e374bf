import Derived.Test.YtdgmecmkkddpeaaGreatG17
import Derived.Test.YtdgmecmkkddpeaaGreatG16
namespace Go.Proofs.YtdgmecmkkddpeaaGreat
set_option maxRecDepth 100000
set_option maxHeartbeats 16000000
set_option linter.unusedVariables false
set_option linter.unusedSimpArgs false
open Go.RowKit
theorem recI_1 (txn : Int) (prev : Int) (page : Int) (slot : Int) (bU : Bool) (bDa : Option Addr) (bDc : Nat) (bDb : List Int) (aU : Bool) (aDa : Option Addr) (aDc : Nat) (aDb : List Int) (uN : Int) (nT : Int) (tXe : TypeId) (tXa : Option Addr) (tXn tXc : Nat) (tXb : List Int) (dYe : TypeId) (dYa : Option Addr) (dYn dYc : Nat) (dYb : List Int) (iMa : Option Addr) (iMc : Nat) (iMb : List Int) (w : World) (hBb : IsB bDb) (hBa : IsB aDb) (hBi : IsB iMb) (hli : iMb.length ≤ 1099511627776) (hrb : Rd .u8 w (.slice bDa bDb.length bDc) bDb) (hra : Rd .u8 w (.slice aDa aDb.length aDc) aDb) (hri : Rd .u8 w (.slice iMa iMb.length iMc) iMb) (hrt : RdF 4 w ⟨tXe, tXa, tXn, tXc, tXb⟩) (hrd : RdF 2 w ⟨dYe, dYa, dYn, dYc, dYb⟩) (hnt : tXn ≤ 1125899906842624) (hnd : dYn ≤ 1125899906842624) :
  Calls Tryz.prog 45 #[.agg #[.int .i64 1, .int .i64 txn, .int .i64 prev, .int .i64 page, .int .i64 slot, .bool bU, .slice bDa bDb.length bDc, .bool aU, .slice aDa aDb.length aDc, .int .i64 uN, .int .i64 nT, .slice tXa tXn tXc, .slice dYa dYn dYc, .slice iMa iMb.length iMc]] w fun e w' => e = .returned (.int .i64 (if alone1 txn prev page slot bU bDb aU aDb uN nT tXb dYb iMb = true then orF (headF txn prev) (placeF page slot) (updF bU aU bDb.length aDb.length) else 2)) ∧ Same w w' := by
 have hT := fun wx => typeRecord_1 txn prev page slot bU bDa bDb.length bDc aU aDa aDb.length aDc uN nT tXa tXn tXc dYa dYn dYc iMa iMb.length iMc wx
 have hP := fun wx => plainRecord_1 txn prev page slot bU bDa bDb.length bDc aU aDa aDb.length aDc uN nT tXa tXn tXc dYa dYn dYc iMa iMb.length iMc wx
 have hS := fun wx (hk : Same w wx) => same_1 txn prev page slot bU bDa bDc bDb aU aDa aDc aDb uN nT tXe tXa tXn tXc tXb dYe dYa dYn dYc dYb iMa iMc iMb wx hBb hBa hBi (hrb.same hk) (hra.same hk) (hri.same hk) (hrt.same hk) (hrd.same hk) hnt hnd
 have hF : ∀ wx, Same w wx → Calls Tryz.prog 127 #[.agg #[.int .i64 txn, .int .i64 prev, .int .i64 page, .int .i64 slot, .bool bU, .slice bDa bDb.length bDc, .bool aU, .slice aDa aDb.length aDc]] wx fun e w' => e = .returned (.int .i64 (orF (headF txn prev) (placeF page slot) (updF bU aU bDb.length aDb.length))) ∧ Same wx w' := fun wx hk => updateFault_any txn prev page slot bU aU bDa aDa bDb.length bDc aDb.length aDc wx hrb.1 hra.1
 have b0 := Blk.new w #[.int .i64 1, .int .i64 txn, .int .i64 prev, .int .i64 page, .int .i64 slot, .bool bU, .slice bDa bDb.length bDc, .bool aU, .slice aDa aDb.length aDc, .int .i64 uN, .int .i64 nT, .slice tXa tXn tXc, .slice dYa dYn dYc, .slice iMa iMb.length iMc] 35
 have hk0 : Same w (w.alloc (.cells #[.int .i64 1, .int .i64 txn, .int .i64 prev, .int .i64 page, .int .i64 slot, .bool bU, .slice bDa bDb.length bDc, .bool aU, .slice aDa aDb.length aDc, .int .i64 uN, .int .i64 nT, .slice tXa tXn tXc, .slice dYa dYn dYc, .slice iMa iMb.length iMc] 35)) := (Kept.refl _ _).alloc _
 generalize alone1 txn prev page slot bU bDb aU aDb uN nT tXb dYb iMb = AL at *
 generalize orF (headF txn prev) (placeF page slot) (updF bU aU bDb.length aDb.length) = FA at *
 clear hrb hra hri hrt hrd hBb hBa hBi hnt hnd hli
 have hz : ∀ (wx : World), Same (w.alloc (.cells #[.int .i64 1, .int .i64 txn, .int .i64 prev, .int .i64 page, .int .i64 slot, .bool bU, .slice bDa bDb.length bDc, .bool aU, .slice aDa aDb.length aDc, .int .i64 uN, .int .i64 nT, .slice tXa tXn tXc, .slice dYa dYn dYc, .slice iMa iMb.length iMc] 35)) wx → wx.cell? ⟨w.heap.size, 0, none⟩ = some (.int .i64 1) ∧ wx.cell? ⟨w.heap.size, 1, none⟩ = some (.int .i64 txn) ∧ wx.cell? ⟨w.heap.size, 2, none⟩ = some (.int .i64 prev) ∧ wx.cell? ⟨w.heap.size, 3, none⟩ = some (.int .i64 page) ∧ wx.cell? ⟨w.heap.size, 4, none⟩ = some (.int .i64 slot) ∧ wx.cell? ⟨w.heap.size, 5, none⟩ = some (.bool bU) ∧ wx.cell? ⟨w.heap.size, 6, none⟩ = some (.slice bDa bDb.length bDc) ∧ wx.cell? ⟨w.heap.size, 7, none⟩ = some (.bool aU) ∧ wx.cell? ⟨w.heap.size, 8, none⟩ = some (.slice aDa aDb.length aDc) ∧ wx.cell? ⟨w.heap.size, 9, none⟩ = some (.int .i64 uN) ∧ wx.cell? ⟨w.heap.size, 10, none⟩ = some (.int .i64 nT) ∧ wx.cell? ⟨w.heap.size, 11, none⟩ = some (.slice tXa tXn tXc) ∧ wx.cell? ⟨w.heap.size, 12, none⟩ = some (.slice dYa dYn dYc) ∧ wx.cell? ⟨w.heap.size, 13, none⟩ = some (.slice iMa iMb.length iMc) := fun wx h => ⟨(b0.same h).cell 0, (b0.same h).cell 1, (b0.same h).cell 2, (b0.same h).cell 3, (b0.same h).cell 4, (b0.same h).cell 5, (b0.same h).cell 6, (b0.same h).cell 7, (b0.same h).cell 8, (b0.same h).cell 9, (b0.same h).cell 10, (b0.same h).cell 11, (b0.same h).cell 12, (b0.same h).cell 13⟩
 cases AL with
 | false =>
  simp only [Bool.false_eq_true, if_false]
  go_enter Tryz.func45, Tryz.ntmps45
  go_wp2_with (go_at_call 47; refine (hT _).mono ?_; rintro e w1 ⟨rfl, hk1⟩; obtain ⟨z0, z1, z2, z3, z4, z5, z6, z7, z8, z9, z10, z11, z12, z13⟩ := hz w1 hk1)
  go_region_with (first
   | (go_at_call 57; refine (hP _).mono ?_; rintro e wp ⟨rfl, hkp⟩; have hkq := (Kept.drew hk1).trans hkp; obtain ⟨y0, y1, y2, y3, y4, y5, y6, y7, y8, y9, y10, y11, y12, y13⟩ := hz wp hkq)
   | (go_at_call 56; refine (hS _ (hk0.trans hkq)).mono ?_; rintro e ws ⟨rfl, hks⟩))
  all_goals
   go_wp2
   go_ret
   exact ⟨rfl, (hk0.trans hkq).trans hks⟩
 | true =>
  simp only [if_true]
  go_enter Tryz.func45, Tryz.ntmps45
  go_wp2_with (go_at_call 47; refine (hT _).mono ?_; rintro e w1 ⟨rfl, hk1⟩; obtain ⟨z0, z1, z2, z3, z4, z5, z6, z7, z8, z9, z10, z11, z12, z13⟩ := hz w1 hk1)
  go_region_with (first
   | (go_at_call 57; refine (hP _).mono ?_; rintro e wp ⟨rfl, hkp⟩; have hkq := (Kept.drew hk1).trans hkp; obtain ⟨y0, y1, y2, y3, y4, y5, y6, y7, y8, y9, y10, y11, y12, y13⟩ := hz wp hkq)
   | (go_at_call 56; refine (hS _ (hk0.trans hkq)).mono ?_; rintro e ws ⟨rfl, hks⟩))
  all_goals
   go_wp2_with (go_at_call 127; refine (hF _ ((hk0.trans hkq).trans hks)).mono ?_; rintro e wf ⟨rfl, hkf⟩)
   go_ret
   exact ⟨rfl, ((hk0.trans hkq).trans hks).trans hkf⟩
theorem recI_2 (txn : Int) (prev : Int) (page : Int) (slot : Int) (bU : Bool) (bDa : Option Addr) (bDc : Nat) (bDb : List Int) (aU : Bool) (aDa : Option Addr) (aDc : Nat) (aDb : List Int) (uN : Int) (nT : Int) (tXe : TypeId) (tXa : Option Addr) (tXn tXc : Nat) (tXb : List Int) (dYe : TypeId) (dYa : Option Addr) (dYn dYc : Nat) (dYb : List Int) (iMa : Option Addr) (iMc : Nat) (iMb : List Int) (w : World) (hBb : IsB bDb) (hBa : IsB aDb) (hBi : IsB iMb) (hli : iMb.length ≤ 1099511627776) (hrb : Rd .u8 w (.slice bDa bDb.length bDc) bDb) (hra : Rd .u8 w (.slice aDa aDb.length aDc) aDb) (hri : Rd .u8 w (.slice iMa iMb.length iMc) iMb) (hrt : RdF 4 w ⟨tXe, tXa, tXn, tXc, tXb⟩) (hrd : RdF 2 w ⟨dYe, dYa, dYn, dYc, dYb⟩) (hnt : tXn ≤ 1125899906842624) (hnd : dYn ≤ 1125899906842624) :
  Calls Tryz.prog 45 #[.agg #[.int .i64 2, .int .i64 txn, .int .i64 prev, .int .i64 page, .int .i64 slot, .bool bU, .slice bDa bDb.length bDc, .bool aU, .slice aDa aDb.length aDc, .int .i64 uN, .int .i64 nT, .slice tXa tXn tXc, .slice dYa dYn dYc, .slice iMa iMb.length iMc]] w fun e w' => e = .returned (.int .i64 (if alone2 txn prev page slot bU bDb aU aDb uN nT tXb dYb iMb = true then orF (headF txn prev) (placeF page slot) (undF aU aDb.length uN) else 2)) ∧ Same w w' := by
 have hT := fun wx => typeRecord_2 txn prev page slot bU bDa bDb.length bDc aU aDa aDb.length aDc uN nT tXa tXn tXc dYa dYn dYc iMa iMb.length iMc wx
 have hP := fun wx => plainRecord_2 txn prev page slot bU bDa bDb.length bDc aU aDa aDb.length aDc uN nT tXa tXn tXc dYa dYn dYc iMa iMb.length iMc wx
 have hS := fun wx (hk : Same w wx) => same_2 txn prev page slot bU bDa bDc bDb aU aDa aDc aDb uN nT tXe tXa tXn tXc tXb dYe dYa dYn dYc dYb iMa iMc iMb wx hBb hBa hBi (hrb.same hk) (hra.same hk) (hri.same hk) (hrt.same hk) (hrd.same hk) hnt hnd
 have hF : ∀ wx, Same w wx → Calls Tryz.prog 133 #[.agg #[.int .i64 txn, .int .i64 prev, .int .i64 page, .int .i64 slot, .bool aU, .slice aDa aDb.length aDc, .int .i64 uN]] wx fun e w' => e = .returned (.int .i64 (orF (headF txn prev) (placeF page slot) (undF aU aDb.length uN))) ∧ Same wx w' := fun wx hk => undoFault_any txn prev page slot aU aDa aDb.length aDc uN wx hra.1
 have b0 := Blk.new w #[.int .i64 2, .int .i64 txn, .int .i64 prev, .int .i64 page, .int .i64 slot, .bool bU, .slice bDa bDb.length bDc, .bool aU, .slice aDa aDb.length aDc, .int .i64 uN, .int .i64 nT, .slice tXa tXn tXc, .slice dYa dYn dYc, .slice iMa iMb.length iMc] 35
 have hk0 : Same w (w.alloc (.cells #[.int .i64 2, .int .i64 txn, .int .i64 prev, .int .i64 page, .int .i64 slot, .bool bU, .slice bDa bDb.length bDc, .bool aU, .slice aDa aDb.length aDc, .int .i64 uN, .int .i64 nT, .slice tXa tXn tXc, .slice dYa dYn dYc, .slice iMa iMb.length iMc] 35)) := (Kept.refl _ _).alloc _
 generalize alone2 txn prev page slot bU bDb aU aDb uN nT tXb dYb iMb = AL at *
 generalize orF (headF txn prev) (placeF page slot) (undF aU aDb.length uN) = FA at *
 clear hrb hra hri hrt hrd hBb hBa hBi hnt hnd hli
 have hz : ∀ (wx : World), Same (w.alloc (.cells #[.int .i64 2, .int .i64 txn, .int .i64 prev, .int .i64 page, .int .i64 slot, .bool bU, .slice bDa bDb.length bDc, .bool aU, .slice aDa aDb.length aDc, .int .i64 uN, .int .i64 nT, .slice tXa tXn tXc, .slice dYa dYn dYc, .slice iMa iMb.length iMc] 35)) wx → wx.cell? ⟨w.heap.size, 0, none⟩ = some (.int .i64 2) ∧ wx.cell? ⟨w.heap.size, 1, none⟩ = some (.int .i64 txn) ∧ wx.cell? ⟨w.heap.size, 2, none⟩ = some (.int .i64 prev) ∧ wx.cell? ⟨w.heap.size, 3, none⟩ = some (.int .i64 page) ∧ wx.cell? ⟨w.heap.size, 4, none⟩ = some (.int .i64 slot) ∧ wx.cell? ⟨w.heap.size, 5, none⟩ = some (.bool bU) ∧ wx.cell? ⟨w.heap.size, 6, none⟩ = some (.slice bDa bDb.length bDc) ∧ wx.cell? ⟨w.heap.size, 7, none⟩ = some (.bool aU) ∧ wx.cell? ⟨w.heap.size, 8, none⟩ = some (.slice aDa aDb.length aDc) ∧ wx.cell? ⟨w.heap.size, 9, none⟩ = some (.int .i64 uN) ∧ wx.cell? ⟨w.heap.size, 10, none⟩ = some (.int .i64 nT) ∧ wx.cell? ⟨w.heap.size, 11, none⟩ = some (.slice tXa tXn tXc) ∧ wx.cell? ⟨w.heap.size, 12, none⟩ = some (.slice dYa dYn dYc) ∧ wx.cell? ⟨w.heap.size, 13, none⟩ = some (.slice iMa iMb.length iMc) := fun wx h => ⟨(b0.same h).cell 0, (b0.same h).cell 1, (b0.same h).cell 2, (b0.same h).cell 3, (b0.same h).cell 4, (b0.same h).cell 5, (b0.same h).cell 6, (b0.same h).cell 7, (b0.same h).cell 8, (b0.same h).cell 9, (b0.same h).cell 10, (b0.same h).cell 11, (b0.same h).cell 12, (b0.same h).cell 13⟩
 cases AL with
 | false =>
  simp only [Bool.false_eq_true, if_false]
  go_enter Tryz.func45, Tryz.ntmps45
  go_wp2_with (go_at_call 47; refine (hT _).mono ?_; rintro e w1 ⟨rfl, hk1⟩; obtain ⟨z0, z1, z2, z3, z4, z5, z6, z7, z8, z9, z10, z11, z12, z13⟩ := hz w1 hk1)
  go_region_with (first
   | (go_at_call 57; refine (hP _).mono ?_; rintro e wp ⟨rfl, hkp⟩; have hkq := (Kept.drew hk1).trans hkp; obtain ⟨y0, y1, y2, y3, y4, y5, y6, y7, y8, y9, y10, y11, y12, y13⟩ := hz wp hkq)
   | (go_at_call 56; refine (hS _ (hk0.trans hkq)).mono ?_; rintro e ws ⟨rfl, hks⟩))
  all_goals
   go_wp2
   go_ret
   exact ⟨rfl, (hk0.trans hkq).trans hks⟩
 | true =>
  simp only [if_true]
  go_enter Tryz.func45, Tryz.ntmps45
  go_wp2_with (go_at_call 47; refine (hT _).mono ?_; rintro e w1 ⟨rfl, hk1⟩; obtain ⟨z0, z1, z2, z3, z4, z5, z6, z7, z8, z9, z10, z11, z12, z13⟩ := hz w1 hk1)
  go_region_with (first
   | (go_at_call 57; refine (hP _).mono ?_; rintro e wp ⟨rfl, hkp⟩; have hkq := (Kept.drew hk1).trans hkp; obtain ⟨y0, y1, y2, y3, y4, y5, y6, y7, y8, y9, y10, y11, y12, y13⟩ := hz wp hkq)
   | (go_at_call 56; refine (hS _ (hk0.trans hkq)).mono ?_; rintro e ws ⟨rfl, hks⟩))
  all_goals
   go_wp2_with (go_at_call 133; refine (hF _ ((hk0.trans hkq).trans hks)).mono ?_; rintro e wf ⟨rfl, hkf⟩)
   go_ret
   exact ⟨rfl, ((hk0.trans hkq).trans hks).trans hkf⟩
theorem recI_3 (txn : Int) (prev : Int) (page : Int) (slot : Int) (bU : Bool) (bDa : Option Addr) (bDc : Nat) (bDb : List Int) (aU : Bool) (aDa : Option Addr) (aDc : Nat) (aDb : List Int) (uN : Int) (nT : Int) (tXe : TypeId) (tXa : Option Addr) (tXn tXc : Nat) (tXb : List Int) (dYe : TypeId) (dYa : Option Addr) (dYn dYc : Nat) (dYb : List Int) (iMa : Option Addr) (iMc : Nat) (iMb : List Int) (w : World) (hBb : IsB bDb) (hBa : IsB aDb) (hBi : IsB iMb) (hli : iMb.length ≤ 1099511627776) (hrb : Rd .u8 w (.slice bDa bDb.length bDc) bDb) (hra : Rd .u8 w (.slice aDa aDb.length aDc) aDb) (hri : Rd .u8 w (.slice iMa iMb.length iMc) iMb) (hrt : RdF 4 w ⟨tXe, tXa, tXn, tXc, tXb⟩) (hrd : RdF 2 w ⟨dYe, dYa, dYn, dYc, dYb⟩) (hnt : tXn ≤ 1125899906842624) (hnd : dYn ≤ 1125899906842624) :
  Calls Tryz.prog 45 #[.agg #[.int .i64 3, .int .i64 txn, .int .i64 prev, .int .i64 page, .int .i64 slot, .bool bU, .slice bDa bDb.length bDc, .bool aU, .slice aDa aDb.length aDc, .int .i64 uN, .int .i64 nT, .slice tXa tXn tXc, .slice dYa dYn dYc, .slice iMa iMb.length iMc]] w fun e w' => e = .returned (.int .i64 (if alone3 txn prev page slot bU bDb aU aDb uN nT tXb dYb iMb = true then headF txn prev else 2)) ∧ Same w w' := by
 have hT := fun wx => typeRecord_3 txn prev page slot bU bDa bDb.length bDc aU aDa aDb.length aDc uN nT tXa tXn tXc dYa dYn dYc iMa iMb.length iMc wx
 have hP := fun wx => plainRecord_3 txn prev page slot bU bDa bDb.length bDc aU aDa aDb.length aDc uN nT tXa tXn tXc dYa dYn dYc iMa iMb.length iMc wx
 have hS := fun wx (hk : Same w wx) => same_3 txn prev page slot bU bDa bDc bDb aU aDa aDc aDb uN nT tXe tXa tXn tXc tXb dYe dYa dYn dYc dYb iMa iMc iMb wx hBb hBa hBi (hrb.same hk) (hra.same hk) (hri.same hk) (hrt.same hk) (hrd.same hk) hnt hnd
 have hF : ∀ wx, Same w wx → Calls Tryz.prog 120 #[.agg #[.int .i64 txn, .int .i64 prev]] wx fun e w' => e = .returned (.int .i64 (headF txn prev)) ∧ Same wx w' := fun wx hk => headFault_any txn prev wx
 have b0 := Blk.new w #[.int .i64 3, .int .i64 txn, .int .i64 prev, .int .i64 page, .int .i64 slot, .bool bU, .slice bDa bDb.length bDc, .bool aU, .slice aDa aDb.length aDc, .int .i64 uN, .int .i64 nT, .slice tXa tXn tXc, .slice dYa dYn dYc, .slice iMa iMb.length iMc] 35
 have hk0 : Same w (w.alloc (.cells #[.int .i64 3, .int .i64 txn, .int .i64 prev, .int .i64 page, .int .i64 slot, .bool bU, .slice bDa bDb.length bDc, .bool aU, .slice aDa aDb.length aDc, .int .i64 uN, .int .i64 nT, .slice tXa tXn tXc, .slice dYa dYn dYc, .slice iMa iMb.length iMc] 35)) := (Kept.refl _ _).alloc _
 generalize alone3 txn prev page slot bU bDb aU aDb uN nT tXb dYb iMb = AL at *
 generalize headF txn prev = FA at *
 clear hrb hra hri hrt hrd hBb hBa hBi hnt hnd hli
 have hz : ∀ (wx : World), Same (w.alloc (.cells #[.int .i64 3, .int .i64 txn, .int .i64 prev, .int .i64 page, .int .i64 slot, .bool bU, .slice bDa bDb.length bDc, .bool aU, .slice aDa aDb.length aDc, .int .i64 uN, .int .i64 nT, .slice tXa tXn tXc, .slice dYa dYn dYc, .slice iMa iMb.length iMc] 35)) wx → wx.cell? ⟨w.heap.size, 0, none⟩ = some (.int .i64 3) ∧ wx.cell? ⟨w.heap.size, 1, none⟩ = some (.int .i64 txn) ∧ wx.cell? ⟨w.heap.size, 2, none⟩ = some (.int .i64 prev) ∧ wx.cell? ⟨w.heap.size, 3, none⟩ = some (.int .i64 page) ∧ wx.cell? ⟨w.heap.size, 4, none⟩ = some (.int .i64 slot) ∧ wx.cell? ⟨w.heap.size, 5, none⟩ = some (.bool bU) ∧ wx.cell? ⟨w.heap.size, 6, none⟩ = some (.slice bDa bDb.length bDc) ∧ wx.cell? ⟨w.heap.size, 7, none⟩ = some (.bool aU) ∧ wx.cell? ⟨w.heap.size, 8, none⟩ = some (.slice aDa aDb.length aDc) ∧ wx.cell? ⟨w.heap.size, 9, none⟩ = some (.int .i64 uN) ∧ wx.cell? ⟨w.heap.size, 10, none⟩ = some (.int .i64 nT) ∧ wx.cell? ⟨w.heap.size, 11, none⟩ = some (.slice tXa tXn tXc) ∧ wx.cell? ⟨w.heap.size, 12, none⟩ = some (.slice dYa dYn dYc) ∧ wx.cell? ⟨w.heap.size, 13, none⟩ = some (.slice iMa iMb.length iMc) := fun wx h => ⟨(b0.same h).cell 0, (b0.same h).cell 1, (b0.same h).cell 2, (b0.same h).cell 3, (b0.same h).cell 4, (b0.same h).cell 5, (b0.same h).cell 6, (b0.same h).cell 7, (b0.same h).cell 8, (b0.same h).cell 9, (b0.same h).cell 10, (b0.same h).cell 11, (b0.same h).cell 12, (b0.same h).cell 13⟩
 cases AL with
 | false =>
  simp only [Bool.false_eq_true, if_false]
  go_enter Tryz.func45, Tryz.ntmps45
  go_wp2_with (go_at_call 47; refine (hT _).mono ?_; rintro e w1 ⟨rfl, hk1⟩; obtain ⟨z0, z1, z2, z3, z4, z5, z6, z7, z8, z9, z10, z11, z12, z13⟩ := hz w1 hk1)
  go_region_with (first
   | (go_at_call 57; refine (hP _).mono ?_; rintro e wp ⟨rfl, hkp⟩; have hkq := (Kept.drew hk1).trans hkp; obtain ⟨y0, y1, y2, y3, y4, y5, y6, y7, y8, y9, y10, y11, y12, y13⟩ := hz wp hkq)
   | (go_at_call 56; refine (hS _ (hk0.trans hkq)).mono ?_; rintro e ws ⟨rfl, hks⟩))
  all_goals
   go_wp2
   go_ret
   exact ⟨rfl, (hk0.trans hkq).trans hks⟩
 | true =>
  simp only [if_true]
  go_enter Tryz.func45, Tryz.ntmps45
  go_wp2_with (go_at_call 47; refine (hT _).mono ?_; rintro e w1 ⟨rfl, hk1⟩; obtain ⟨z0, z1, z2, z3, z4, z5, z6, z7, z8, z9, z10, z11, z12, z13⟩ := hz w1 hk1)
  go_region_with (first
   | (go_at_call 57; refine (hP _).mono ?_; rintro e wp ⟨rfl, hkp⟩; have hkq := (Kept.drew hk1).trans hkp; obtain ⟨y0, y1, y2, y3, y4, y5, y6, y7, y8, y9, y10, y11, y12, y13⟩ := hz wp hkq)
   | (go_at_call 56; refine (hS _ (hk0.trans hkq)).mono ?_; rintro e ws ⟨rfl, hks⟩))
  all_goals
   go_wp2_with (go_at_call 120; refine (hF _ ((hk0.trans hkq).trans hks)).mono ?_; rintro e wf ⟨rfl, hkf⟩)
   go_ret
   exact ⟨rfl, ((hk0.trans hkq).trans hks).trans hkf⟩
theorem recI_4 (txn : Int) (prev : Int) (page : Int) (slot : Int) (bU : Bool) (bDa : Option Addr) (bDc : Nat) (bDb : List Int) (aU : Bool) (aDa : Option Addr) (aDc : Nat) (aDb : List Int) (uN : Int) (nT : Int) (tXe : TypeId) (tXa : Option Addr) (tXn tXc : Nat) (tXb : List Int) (dYe : TypeId) (dYa : Option Addr) (dYn dYc : Nat) (dYb : List Int) (iMa : Option Addr) (iMc : Nat) (iMb : List Int) (w : World) (hBb : IsB bDb) (hBa : IsB aDb) (hBi : IsB iMb) (hli : iMb.length ≤ 1099511627776) (hrb : Rd .u8 w (.slice bDa bDb.length bDc) bDb) (hra : Rd .u8 w (.slice aDa aDb.length aDc) aDb) (hri : Rd .u8 w (.slice iMa iMb.length iMc) iMb) (hrt : RdF 4 w ⟨tXe, tXa, tXn, tXc, tXb⟩) (hrd : RdF 2 w ⟨dYe, dYa, dYn, dYc, dYb⟩) (hnt : tXn ≤ 1125899906842624) (hnd : dYn ≤ 1125899906842624) :
  Calls Tryz.prog 45 #[.agg #[.int .i64 4, .int .i64 txn, .int .i64 prev, .int .i64 page, .int .i64 slot, .bool bU, .slice bDa bDb.length bDc, .bool aU, .slice aDa aDb.length aDc, .int .i64 uN, .int .i64 nT, .slice tXa tXn tXc, .slice dYa dYn dYc, .slice iMa iMb.length iMc]] w fun e w' => e = .returned (.int .i64 (if alone4 txn prev page slot bU bDb aU aDb uN nT tXb dYb iMb = true then headF txn prev else 2)) ∧ Same w w' := by
 have hT := fun wx => typeRecord_4 txn prev page slot bU bDa bDb.length bDc aU aDa aDb.length aDc uN nT tXa tXn tXc dYa dYn dYc iMa iMb.length iMc wx
 have hP := fun wx => plainRecord_4 txn prev page slot bU bDa bDb.length bDc aU aDa aDb.length aDc uN nT tXa tXn tXc dYa dYn dYc iMa iMb.length iMc wx
 have hS := fun wx (hk : Same w wx) => same_4 txn prev page slot bU bDa bDc bDb aU aDa aDc aDb uN nT tXe tXa tXn tXc tXb dYe dYa dYn dYc dYb iMa iMc iMb wx hBb hBa hBi (hrb.same hk) (hra.same hk) (hri.same hk) (hrt.same hk) (hrd.same hk) hnt hnd
 have hF : ∀ wx, Same w wx → Calls Tryz.prog 120 #[.agg #[.int .i64 txn, .int .i64 prev]] wx fun e w' => e = .returned (.int .i64 (headF txn prev)) ∧ Same wx w' := fun wx hk => headFault_any txn prev wx
 have b0 := Blk.new w #[.int .i64 4, .int .i64 txn, .int .i64 prev, .int .i64 page, .int .i64 slot, .bool bU, .slice bDa bDb.length bDc, .bool aU, .slice aDa aDb.length aDc, .int .i64 uN, .int .i64 nT, .slice tXa tXn tXc, .slice dYa dYn dYc, .slice iMa iMb.length iMc] 35
 have hk0 : Same w (w.alloc (.cells #[.int .i64 4, .int .i64 txn, .int .i64 prev, .int .i64 page, .int .i64 slot, .bool bU, .slice bDa bDb.length bDc, .bool aU, .slice aDa aDb.length aDc, .int .i64 uN, .int .i64 nT, .slice tXa tXn tXc, .slice dYa dYn dYc, .slice iMa iMb.length iMc] 35)) := (Kept.refl _ _).alloc _
 generalize alone4 txn prev page slot bU bDb aU aDb uN nT tXb dYb iMb = AL at *
 generalize headF txn prev = FA at *
 clear hrb hra hri hrt hrd hBb hBa hBi hnt hnd hli
 have hz : ∀ (wx : World), Same (w.alloc (.cells #[.int .i64 4, .int .i64 txn, .int .i64 prev, .int .i64 page, .int .i64 slot, .bool bU, .slice bDa bDb.length bDc, .bool aU, .slice aDa aDb.length aDc, .int .i64 uN, .int .i64 nT, .slice tXa tXn tXc, .slice dYa dYn dYc, .slice iMa iMb.length iMc] 35)) wx → wx.cell? ⟨w.heap.size, 0, none⟩ = some (.int .i64 4) ∧ wx.cell? ⟨w.heap.size, 1, none⟩ = some (.int .i64 txn) ∧ wx.cell? ⟨w.heap.size, 2, none⟩ = some (.int .i64 prev) ∧ wx.cell? ⟨w.heap.size, 3, none⟩ = some (.int .i64 page) ∧ wx.cell? ⟨w.heap.size, 4, none⟩ = some (.int .i64 slot) ∧ wx.cell? ⟨w.heap.size, 5, none⟩ = some (.bool bU) ∧ wx.cell? ⟨w.heap.size, 6, none⟩ = some (.slice bDa bDb.length bDc) ∧ wx.cell? ⟨w.heap.size, 7, none⟩ = some (.bool aU) ∧ wx.cell? ⟨w.heap.size, 8, none⟩ = some (.slice aDa aDb.length aDc) ∧ wx.cell? ⟨w.heap.size, 9, none⟩ = some (.int .i64 uN) ∧ wx.cell? ⟨w.heap.size, 10, none⟩ = some (.int .i64 nT) ∧ wx.cell? ⟨w.heap.size, 11, none⟩ = some (.slice tXa tXn tXc) ∧ wx.cell? ⟨w.heap.size, 12, none⟩ = some (.slice dYa dYn dYc) ∧ wx.cell? ⟨w.heap.size, 13, none⟩ = some (.slice iMa iMb.length iMc) := fun wx h => ⟨(b0.same h).cell 0, (b0.same h).cell 1, (b0.same h).cell 2, (b0.same h).cell 3, (b0.same h).cell 4, (b0.same h).cell 5, (b0.same h).cell 6, (b0.same h).cell 7, (b0.same h).cell 8, (b0.same h).cell 9, (b0.same h).cell 10, (b0.same h).cell 11, (b0.same h).cell 12, (b0.same h).cell 13⟩
 cases AL with
 | false =>
  simp only [Bool.false_eq_true, if_false]
  go_enter Tryz.func45, Tryz.ntmps45
  go_wp2_with (go_at_call 47; refine (hT _).mono ?_; rintro e w1 ⟨rfl, hk1⟩; obtain ⟨z0, z1, z2, z3, z4, z5, z6, z7, z8, z9, z10, z11, z12, z13⟩ := hz w1 hk1)
  go_region_with (first
   | (go_at_call 57; refine (hP _).mono ?_; rintro e wp ⟨rfl, hkp⟩; have hkq := (Kept.drew hk1).trans hkp; obtain ⟨y0, y1, y2, y3, y4, y5, y6, y7, y8, y9, y10, y11, y12, y13⟩ := hz wp hkq)
   | (go_at_call 56; refine (hS _ (hk0.trans hkq)).mono ?_; rintro e ws ⟨rfl, hks⟩))
  all_goals
   go_wp2
   go_ret
   exact ⟨rfl, (hk0.trans hkq).trans hks⟩
 | true =>
  simp only [if_true]
  go_enter Tryz.func45, Tryz.ntmps45
  go_wp2_with (go_at_call 47; refine (hT _).mono ?_; rintro e w1 ⟨rfl, hk1⟩; obtain ⟨z0, z1, z2, z3, z4, z5, z6, z7, z8, z9, z10, z11, z12, z13⟩ := hz w1 hk1)
  go_region_with (first
   | (go_at_call 57; refine (hP _).mono ?_; rintro e wp ⟨rfl, hkp⟩; have hkq := (Kept.drew hk1).trans hkp; obtain ⟨y0, y1, y2, y3, y4, y5, y6, y7, y8, y9, y10, y11, y12, y13⟩ := hz wp hkq)
   | (go_at_call 56; refine (hS _ (hk0.trans hkq)).mono ?_; rintro e ws ⟨rfl, hks⟩))
  all_goals
   go_wp2_with (go_at_call 120; refine (hF _ ((hk0.trans hkq).trans hks)).mono ?_; rintro e wf ⟨rfl, hkf⟩)
   go_ret
   exact ⟨rfl, ((hk0.trans hkq).trans hks).trans hkf⟩
theorem recI_5 (txn : Int) (prev : Int) (page : Int) (slot : Int) (bU : Bool) (bDa : Option Addr) (bDc : Nat) (bDb : List Int) (aU : Bool) (aDa : Option Addr) (aDc : Nat) (aDb : List Int) (uN : Int) (nT : Int) (tXe : TypeId) (tXa : Option Addr) (tXn tXc : Nat) (tXb : List Int) (dYe : TypeId) (dYa : Option Addr) (dYn dYc : Nat) (dYb : List Int) (iMa : Option Addr) (iMc : Nat) (iMb : List Int) (w : World) (hBb : IsB bDb) (hBa : IsB aDb) (hBi : IsB iMb) (hli : iMb.length ≤ 1099511627776) (hrb : Rd .u8 w (.slice bDa bDb.length bDc) bDb) (hra : Rd .u8 w (.slice aDa aDb.length aDc) aDb) (hri : Rd .u8 w (.slice iMa iMb.length iMc) iMb) (hrt : RdF 4 w ⟨tXe, tXa, tXn, tXc, tXb⟩) (hrd : RdF 2 w ⟨dYe, dYa, dYn, dYc, dYb⟩) (hnt : tXn ≤ 1125899906842624) (hnd : dYn ≤ 1125899906842624) :
  Calls Tryz.prog 45 #[.agg #[.int .i64 5, .int .i64 txn, .int .i64 prev, .int .i64 page, .int .i64 slot, .bool bU, .slice bDa bDb.length bDc, .bool aU, .slice aDa aDb.length aDc, .int .i64 uN, .int .i64 nT, .slice tXa tXn tXc, .slice dYa dYn dYc, .slice iMa iMb.length iMc]] w fun e w' => e = .returned (.int .i64 (if alone5 txn prev page slot bU bDb aU aDb uN nT tXb dYb iMb = true then headF txn prev else 2)) ∧ Same w w' := by
 have hT := fun wx => typeRecord_5 txn prev page slot bU bDa bDb.length bDc aU aDa aDb.length aDc uN nT tXa tXn tXc dYa dYn dYc iMa iMb.length iMc wx
 have hP := fun wx => plainRecord_5 txn prev page slot bU bDa bDb.length bDc aU aDa aDb.length aDc uN nT tXa tXn tXc dYa dYn dYc iMa iMb.length iMc wx
 have hS := fun wx (hk : Same w wx) => same_5 txn prev page slot bU bDa bDc bDb aU aDa aDc aDb uN nT tXe tXa tXn tXc tXb dYe dYa dYn dYc dYb iMa iMc iMb wx hBb hBa hBi (hrb.same hk) (hra.same hk) (hri.same hk) (hrt.same hk) (hrd.same hk) hnt hnd
 have hF : ∀ wx, Same w wx → Calls Tryz.prog 120 #[.agg #[.int .i64 txn, .int .i64 prev]] wx fun e w' => e = .returned (.int .i64 (headF txn prev)) ∧ Same wx w' := fun wx hk => headFault_any txn prev wx
 have b0 := Blk.new w #[.int .i64 5, .int .i64 txn, .int .i64 prev, .int .i64 page, .int .i64 slot, .bool bU, .slice bDa bDb.length bDc, .bool aU, .slice aDa aDb.length aDc, .int .i64 uN, .int .i64 nT, .slice tXa tXn tXc, .slice dYa dYn dYc, .slice iMa iMb.length iMc] 35
 have hk0 : Same w (w.alloc (.cells #[.int .i64 5, .int .i64 txn, .int .i64 prev, .int .i64 page, .int .i64 slot, .bool bU, .slice bDa bDb.length bDc, .bool aU, .slice aDa aDb.length aDc, .int .i64 uN, .int .i64 nT, .slice tXa tXn tXc, .slice dYa dYn dYc, .slice iMa iMb.length iMc] 35)) := (Kept.refl _ _).alloc _
 generalize alone5 txn prev page slot bU bDb aU aDb uN nT tXb dYb iMb = AL at *
 generalize headF txn prev = FA at *
 clear hrb hra hri hrt hrd hBb hBa hBi hnt hnd hli
 have hz : ∀ (wx : World), Same (w.alloc (.cells #[.int .i64 5, .int .i64 txn, .int .i64 prev, .int .i64 page, .int .i64 slot, .bool bU, .slice bDa bDb.length bDc, .bool aU, .slice aDa aDb.length aDc, .int .i64 uN, .int .i64 nT, .slice tXa tXn tXc, .slice dYa dYn dYc, .slice iMa iMb.length iMc] 35)) wx → wx.cell? ⟨w.heap.size, 0, none⟩ = some (.int .i64 5) ∧ wx.cell? ⟨w.heap.size, 1, none⟩ = some (.int .i64 txn) ∧ wx.cell? ⟨w.heap.size, 2, none⟩ = some (.int .i64 prev) ∧ wx.cell? ⟨w.heap.size, 3, none⟩ = some (.int .i64 page) ∧ wx.cell? ⟨w.heap.size, 4, none⟩ = some (.int .i64 slot) ∧ wx.cell? ⟨w.heap.size, 5, none⟩ = some (.bool bU) ∧ wx.cell? ⟨w.heap.size, 6, none⟩ = some (.slice bDa bDb.length bDc) ∧ wx.cell? ⟨w.heap.size, 7, none⟩ = some (.bool aU) ∧ wx.cell? ⟨w.heap.size, 8, none⟩ = some (.slice aDa aDb.length aDc) ∧ wx.cell? ⟨w.heap.size, 9, none⟩ = some (.int .i64 uN) ∧ wx.cell? ⟨w.heap.size, 10, none⟩ = some (.int .i64 nT) ∧ wx.cell? ⟨w.heap.size, 11, none⟩ = some (.slice tXa tXn tXc) ∧ wx.cell? ⟨w.heap.size, 12, none⟩ = some (.slice dYa dYn dYc) ∧ wx.cell? ⟨w.heap.size, 13, none⟩ = some (.slice iMa iMb.length iMc) := fun wx h => ⟨(b0.same h).cell 0, (b0.same h).cell 1, (b0.same h).cell 2, (b0.same h).cell 3, (b0.same h).cell 4, (b0.same h).cell 5, (b0.same h).cell 6, (b0.same h).cell 7, (b0.same h).cell 8, (b0.same h).cell 9, (b0.same h).cell 10, (b0.same h).cell 11, (b0.same h).cell 12, (b0.same h).cell 13⟩
 cases AL with
 | false =>
  simp only [Bool.false_eq_true, if_false]
  go_enter Tryz.func45, Tryz.ntmps45
  go_wp2_with (go_at_call 47; refine (hT _).mono ?_; rintro e w1 ⟨rfl, hk1⟩; obtain ⟨z0, z1, z2, z3, z4, z5, z6, z7, z8, z9, z10, z11, z12, z13⟩ := hz w1 hk1)
  go_region_with (first
   | (go_at_call 57; refine (hP _).mono ?_; rintro e wp ⟨rfl, hkp⟩; have hkq := (Kept.drew hk1).trans hkp; obtain ⟨y0, y1, y2, y3, y4, y5, y6, y7, y8, y9, y10, y11, y12, y13⟩ := hz wp hkq)
   | (go_at_call 56; refine (hS _ (hk0.trans hkq)).mono ?_; rintro e ws ⟨rfl, hks⟩))
  all_goals
   go_wp2
   go_ret
   exact ⟨rfl, (hk0.trans hkq).trans hks⟩
 | true =>
  simp only [if_true]
  go_enter Tryz.func45, Tryz.ntmps45
  go_wp2_with (go_at_call 47; refine (hT _).mono ?_; rintro e w1 ⟨rfl, hk1⟩; obtain ⟨z0, z1, z2, z3, z4, z5, z6, z7, z8, z9, z10, z11, z12, z13⟩ := hz w1 hk1)
  go_region_with (first
   | (go_at_call 57; refine (hP _).mono ?_; rintro e wp ⟨rfl, hkp⟩; have hkq := (Kept.drew hk1).trans hkp; obtain ⟨y0, y1, y2, y3, y4, y5, y6, y7, y8, y9, y10, y11, y12, y13⟩ := hz wp hkq)
   | (go_at_call 56; refine (hS _ (hk0.trans hkq)).mono ?_; rintro e ws ⟨rfl, hks⟩))
  all_goals
   go_wp2_with (go_at_call 120; refine (hF _ ((hk0.trans hkq).trans hks)).mono ?_; rintro e wf ⟨rfl, hkf⟩)
   go_ret
   exact ⟨rfl, ((hk0.trans hkq).trans hks).trans hkf⟩
theorem recI_6 (txn : Int) (prev : Int) (page : Int) (slot : Int) (bU : Bool) (bDa : Option Addr) (bDc : Nat) (bDb : List Int) (aU : Bool) (aDa : Option Addr) (aDc : Nat) (aDb : List Int) (uN : Int) (nT : Int) (tXe : TypeId) (tXa : Option Addr) (tXn tXc : Nat) (tXb : List Int) (dYe : TypeId) (dYa : Option Addr) (dYn dYc : Nat) (dYb : List Int) (iMa : Option Addr) (iMc : Nat) (iMb : List Int) (w : World) (hBb : IsB bDb) (hBa : IsB aDb) (hBi : IsB iMb) (hli : iMb.length ≤ 1099511627776) (hrb : Rd .u8 w (.slice bDa bDb.length bDc) bDb) (hra : Rd .u8 w (.slice aDa aDb.length aDc) aDb) (hri : Rd .u8 w (.slice iMa iMb.length iMc) iMb) (hrt : RdF 4 w ⟨tXe, tXa, tXn, tXc, tXb⟩) (hrd : RdF 2 w ⟨dYe, dYa, dYn, dYc, dYb⟩) (hnt : tXn ≤ 1125899906842624) (hnd : dYn ≤ 1125899906842624) :
  Calls Tryz.prog 45 #[.agg #[.int .i64 6, .int .i64 txn, .int .i64 prev, .int .i64 page, .int .i64 slot, .bool bU, .slice bDa bDb.length bDc, .bool aU, .slice aDa aDb.length aDc, .int .i64 uN, .int .i64 nT, .slice tXa tXn tXc, .slice dYa dYn dYc, .slice iMa iMb.length iMc]] w fun e w' => e = .returned (.int .i64 (if alone6 txn prev page slot bU bDb aU aDb uN nT tXb dYb iMb = true then 0 else 2)) ∧ Same w w' := by
 have hT := fun wx => typeRecord_6 txn prev page slot bU bDa bDb.length bDc aU aDa aDb.length aDc uN nT tXa tXn tXc dYa dYn dYc iMa iMb.length iMc wx
 have hP := fun wx => plainRecord_6 txn prev page slot bU bDa bDb.length bDc aU aDa aDb.length aDc uN nT tXa tXn tXc dYa dYn dYc iMa iMb.length iMc wx
 have hS := fun wx (hk : Same w wx) => same_6 txn prev page slot bU bDa bDc bDb aU aDa aDc aDb uN nT tXe tXa tXn tXc tXb dYe dYa dYn dYc dYb iMa iMc iMb wx hBb hBa hBi (hrb.same hk) (hra.same hk) (hri.same hk) (hrt.same hk) (hrd.same hk) hnt hnd
 have hF : ∀ wx, Same w wx → Calls Tryz.prog 134 #[.agg #[.int .i64 0, .int .i64 0]] wx fun e w' => e = .returned (.int .i64 (0)) ∧ Same wx w' := fun wx hk => beginFault_any wx
 have b0 := Blk.new w #[.int .i64 6, .int .i64 txn, .int .i64 prev, .int .i64 page, .int .i64 slot, .bool bU, .slice bDa bDb.length bDc, .bool aU, .slice aDa aDb.length aDc, .int .i64 uN, .int .i64 nT, .slice tXa tXn tXc, .slice dYa dYn dYc, .slice iMa iMb.length iMc] 35
 have hk0 : Same w (w.alloc (.cells #[.int .i64 6, .int .i64 txn, .int .i64 prev, .int .i64 page, .int .i64 slot, .bool bU, .slice bDa bDb.length bDc, .bool aU, .slice aDa aDb.length aDc, .int .i64 uN, .int .i64 nT, .slice tXa tXn tXc, .slice dYa dYn dYc, .slice iMa iMb.length iMc] 35)) := (Kept.refl _ _).alloc _
 generalize alone6 txn prev page slot bU bDb aU aDb uN nT tXb dYb iMb = AL at *
 clear hrb hra hri hrt hrd hBb hBa hBi hnt hnd hli
 have hz : ∀ (wx : World), Same (w.alloc (.cells #[.int .i64 6, .int .i64 txn, .int .i64 prev, .int .i64 page, .int .i64 slot, .bool bU, .slice bDa bDb.length bDc, .bool aU, .slice aDa aDb.length aDc, .int .i64 uN, .int .i64 nT, .slice tXa tXn tXc, .slice dYa dYn dYc, .slice iMa iMb.length iMc] 35)) wx → wx.cell? ⟨w.heap.size, 0, none⟩ = some (.int .i64 6) ∧ wx.cell? ⟨w.heap.size, 1, none⟩ = some (.int .i64 txn) ∧ wx.cell? ⟨w.heap.size, 2, none⟩ = some (.int .i64 prev) ∧ wx.cell? ⟨w.heap.size, 3, none⟩ = some (.int .i64 page) ∧ wx.cell? ⟨w.heap.size, 4, none⟩ = some (.int .i64 slot) ∧ wx.cell? ⟨w.heap.size, 5, none⟩ = some (.bool bU) ∧ wx.cell? ⟨w.heap.size, 6, none⟩ = some (.slice bDa bDb.length bDc) ∧ wx.cell? ⟨w.heap.size, 7, none⟩ = some (.bool aU) ∧ wx.cell? ⟨w.heap.size, 8, none⟩ = some (.slice aDa aDb.length aDc) ∧ wx.cell? ⟨w.heap.size, 9, none⟩ = some (.int .i64 uN) ∧ wx.cell? ⟨w.heap.size, 10, none⟩ = some (.int .i64 nT) ∧ wx.cell? ⟨w.heap.size, 11, none⟩ = some (.slice tXa tXn tXc) ∧ wx.cell? ⟨w.heap.size, 12, none⟩ = some (.slice dYa dYn dYc) ∧ wx.cell? ⟨w.heap.size, 13, none⟩ = some (.slice iMa iMb.length iMc) := fun wx h => ⟨(b0.same h).cell 0, (b0.same h).cell 1, (b0.same h).cell 2, (b0.same h).cell 3, (b0.same h).cell 4, (b0.same h).cell 5, (b0.same h).cell 6, (b0.same h).cell 7, (b0.same h).cell 8, (b0.same h).cell 9, (b0.same h).cell 10, (b0.same h).cell 11, (b0.same h).cell 12, (b0.same h).cell 13⟩
 cases AL with
 | false =>
  simp only [Bool.false_eq_true, if_false]
  go_enter Tryz.func45, Tryz.ntmps45
  go_wp2_with (go_at_call 47; refine (hT _).mono ?_; rintro e w1 ⟨rfl, hk1⟩; obtain ⟨z0, z1, z2, z3, z4, z5, z6, z7, z8, z9, z10, z11, z12, z13⟩ := hz w1 hk1)
  go_region_with (first
   | (go_at_call 57; refine (hP _).mono ?_; rintro e wp ⟨rfl, hkp⟩; have hkq := (Kept.drew hk1).trans hkp; obtain ⟨y0, y1, y2, y3, y4, y5, y6, y7, y8, y9, y10, y11, y12, y13⟩ := hz wp hkq)
   | (go_at_call 56; refine (hS _ (hk0.trans hkq)).mono ?_; rintro e ws ⟨rfl, hks⟩))
  all_goals
   go_wp2
   go_ret
   exact ⟨rfl, (hk0.trans hkq).trans hks⟩
 | true =>
  simp only [if_true]
  go_enter Tryz.func45, Tryz.ntmps45
  go_wp2_with (go_at_call 47; refine (hT _).mono ?_; rintro e w1 ⟨rfl, hk1⟩; obtain ⟨z0, z1, z2, z3, z4, z5, z6, z7, z8, z9, z10, z11, z12, z13⟩ := hz w1 hk1)
  go_region_with (first
   | (go_at_call 57; refine (hP _).mono ?_; rintro e wp ⟨rfl, hkp⟩; have hkq := (Kept.drew hk1).trans hkp; obtain ⟨y0, y1, y2, y3, y4, y5, y6, y7, y8, y9, y10, y11, y12, y13⟩ := hz wp hkq)
   | (go_at_call 56; refine (hS _ (hk0.trans hkq)).mono ?_; rintro e ws ⟨rfl, hks⟩))
  all_goals
   go_wp2_with (go_at_call 134; refine (hF _ ((hk0.trans hkq).trans hks)).mono ?_; rintro e wf ⟨rfl, hkf⟩)
   go_ret
   exact ⟨rfl, ((hk0.trans hkq).trans hks).trans hkf⟩
theorem recI_7 (txn : Int) (prev : Int) (page : Int) (slot : Int) (bU : Bool) (bDa : Option Addr) (bDc : Nat) (bDb : List Int) (aU : Bool) (aDa : Option Addr) (aDc : Nat) (aDb : List Int) (uN : Int) (nT : Int) (tXe : TypeId) (tXa : Option Addr) (tXn tXc : Nat) (tXb : List Int) (dYe : TypeId) (dYa : Option Addr) (dYn dYc : Nat) (dYb : List Int) (iMa : Option Addr) (iMc : Nat) (iMb : List Int) (w : World) (hBb : IsB bDb) (hBa : IsB aDb) (hBi : IsB iMb) (hli : iMb.length ≤ 1099511627776) (hrb : Rd .u8 w (.slice bDa bDb.length bDc) bDb) (hra : Rd .u8 w (.slice aDa aDb.length aDc) aDb) (hri : Rd .u8 w (.slice iMa iMb.length iMc) iMb) (hrt : RdF 4 w ⟨tXe, tXa, tXn, tXc, tXb⟩) (hrd : RdF 2 w ⟨dYe, dYa, dYn, dYc, dYb⟩) (hnt : tXn ≤ 1125899906842624) (hnd : dYn ≤ 1125899906842624) :
  Calls Tryz.prog 45 #[.agg #[.int .i64 7, .int .i64 txn, .int .i64 prev, .int .i64 page, .int .i64 slot, .bool bU, .slice bDa bDb.length bDc, .bool aU, .slice aDa aDb.length aDc, .int .i64 uN, .int .i64 nT, .slice tXa tXn tXc, .slice dYa dYn dYc, .slice iMa iMb.length iMc]] w fun e w' => e = .returned (.int .i64 (if alone7 txn prev page slot bU bDb aU aDb uN nT tXb dYb iMb = true then tabF nT tXb (tXb.length / 4) dYb (dYb.length / 2) else 2)) ∧ Same w w' := by
 have hT := fun wx => typeRecord_7 txn prev page slot bU bDa bDb.length bDc aU aDa aDb.length aDc uN nT tXa tXn tXc dYa dYn dYc iMa iMb.length iMc wx
 have hP := fun wx => plainRecord_7 txn prev page slot bU bDa bDb.length bDc aU aDa aDb.length aDc uN nT tXa tXn tXc dYa dYn dYc iMa iMb.length iMc wx
 have hS := fun wx (hk : Same w wx) => same_7 txn prev page slot bU bDa bDc bDb aU aDa aDc aDb uN nT tXe tXa tXn tXc tXb dYe dYa dYn dYc dYb iMa iMc iMb wx hBb hBa hBi (hrb.same hk) (hra.same hk) (hri.same hk) (hrt.same hk) (hrd.same hk) hnt hnd
 have hlt := hrt.2.1
 have hld := hrd.2.1
 dsimp only at hlt hld
 have e1 : tXb.length / 4 = tXn := by omega
 have e2 : dYb.length / 2 = dYn := by omega
 have e3 : tabF nT tXb (tXb.length / 4) dYb (dYb.length / 2) = tabF nT tXb tXn dYb dYn := by rw [e1, e2]
 have hF : ∀ wx, Same w wx → Calls Tryz.prog 136 #[.agg #[.int .i64 0, .int .i64 0, .int .i64 nT, .slice tXa tXn tXc, .slice dYa dYn dYc]] wx fun e w' => e = .returned (.int .i64 (tabF nT tXb (tXb.length / 4) dYb (dYb.length / 2))) ∧ Same wx w' := fun wx hk => by have h := tablesFault_any nT ⟨tXe, tXa, tXn, tXc, tXb⟩ ⟨dYe, dYa, dYn, dYc, dYb⟩ wx (hrt.same hk) (hrd.same hk); dsimp only [FR.v] at h; rw [e3]; exact h
 have b0 := Blk.new w #[.int .i64 7, .int .i64 txn, .int .i64 prev, .int .i64 page, .int .i64 slot, .bool bU, .slice bDa bDb.length bDc, .bool aU, .slice aDa aDb.length aDc, .int .i64 uN, .int .i64 nT, .slice tXa tXn tXc, .slice dYa dYn dYc, .slice iMa iMb.length iMc] 35
 have hk0 : Same w (w.alloc (.cells #[.int .i64 7, .int .i64 txn, .int .i64 prev, .int .i64 page, .int .i64 slot, .bool bU, .slice bDa bDb.length bDc, .bool aU, .slice aDa aDb.length aDc, .int .i64 uN, .int .i64 nT, .slice tXa tXn tXc, .slice dYa dYn dYc, .slice iMa iMb.length iMc] 35)) := (Kept.refl _ _).alloc _
 generalize alone7 txn prev page slot bU bDb aU aDb uN nT tXb dYb iMb = AL at *
 generalize tabF nT tXb (tXb.length / 4) dYb (dYb.length / 2) = FA at *
 clear hrb hra hri hrt hrd hBb hBa hBi hnt hnd hli hlt hld e1 e2 e3
 have hz : ∀ (wx : World), Same (w.alloc (.cells #[.int .i64 7, .int .i64 txn, .int .i64 prev, .int .i64 page, .int .i64 slot, .bool bU, .slice bDa bDb.length bDc, .bool aU, .slice aDa aDb.length aDc, .int .i64 uN, .int .i64 nT, .slice tXa tXn tXc, .slice dYa dYn dYc, .slice iMa iMb.length iMc] 35)) wx → wx.cell? ⟨w.heap.size, 0, none⟩ = some (.int .i64 7) ∧ wx.cell? ⟨w.heap.size, 1, none⟩ = some (.int .i64 txn) ∧ wx.cell? ⟨w.heap.size, 2, none⟩ = some (.int .i64 prev) ∧ wx.cell? ⟨w.heap.size, 3, none⟩ = some (.int .i64 page) ∧ wx.cell? ⟨w.heap.size, 4, none⟩ = some (.int .i64 slot) ∧ wx.cell? ⟨w.heap.size, 5, none⟩ = some (.bool bU) ∧ wx.cell? ⟨w.heap.size, 6, none⟩ = some (.slice bDa bDb.length bDc) ∧ wx.cell? ⟨w.heap.size, 7, none⟩ = some (.bool aU) ∧ wx.cell? ⟨w.heap.size, 8, none⟩ = some (.slice aDa aDb.length aDc) ∧ wx.cell? ⟨w.heap.size, 9, none⟩ = some (.int .i64 uN) ∧ wx.cell? ⟨w.heap.size, 10, none⟩ = some (.int .i64 nT) ∧ wx.cell? ⟨w.heap.size, 11, none⟩ = some (.slice tXa tXn tXc) ∧ wx.cell? ⟨w.heap.size, 12, none⟩ = some (.slice dYa dYn dYc) ∧ wx.cell? ⟨w.heap.size, 13, none⟩ = some (.slice iMa iMb.length iMc) := fun wx h => ⟨(b0.same h).cell 0, (b0.same h).cell 1, (b0.same h).cell 2, (b0.same h).cell 3, (b0.same h).cell 4, (b0.same h).cell 5, (b0.same h).cell 6, (b0.same h).cell 7, (b0.same h).cell 8, (b0.same h).cell 9, (b0.same h).cell 10, (b0.same h).cell 11, (b0.same h).cell 12, (b0.same h).cell 13⟩
 cases AL with
 | false =>
  simp only [Bool.false_eq_true, if_false]
  go_enter Tryz.func45, Tryz.ntmps45
  go_wp2_with (go_at_call 47; refine (hT _).mono ?_; rintro e w1 ⟨rfl, hk1⟩; obtain ⟨z0, z1, z2, z3, z4, z5, z6, z7, z8, z9, z10, z11, z12, z13⟩ := hz w1 hk1)
  go_region_with (first
   | (go_at_call 57; refine (hP _).mono ?_; rintro e wp ⟨rfl, hkp⟩; have hkq := (Kept.drew hk1).trans hkp; obtain ⟨y0, y1, y2, y3, y4, y5, y6, y7, y8, y9, y10, y11, y12, y13⟩ := hz wp hkq)
   | (go_at_call 56; refine (hS _ (hk0.trans hkq)).mono ?_; rintro e ws ⟨rfl, hks⟩))
  all_goals
   go_wp2
   go_ret
   exact ⟨rfl, (hk0.trans hkq).trans hks⟩
 | true =>
  simp only [if_true]
  go_enter Tryz.func45, Tryz.ntmps45
  go_wp2_with (go_at_call 47; refine (hT _).mono ?_; rintro e w1 ⟨rfl, hk1⟩; obtain ⟨z0, z1, z2, z3, z4, z5, z6, z7, z8, z9, z10, z11, z12, z13⟩ := hz w1 hk1)
  go_region_with (first
   | (go_at_call 57; refine (hP _).mono ?_; rintro e wp ⟨rfl, hkp⟩; have hkq := (Kept.drew hk1).trans hkp; obtain ⟨y0, y1, y2, y3, y4, y5, y6, y7, y8, y9, y10, y11, y12, y13⟩ := hz wp hkq)
   | (go_at_call 56; refine (hS _ (hk0.trans hkq)).mono ?_; rintro e ws ⟨rfl, hks⟩))
  all_goals
   go_wp2_with (go_at_call 136; refine (hF _ ((hk0.trans hkq).trans hks)).mono ?_; rintro e wf ⟨rfl, hkf⟩)
   go_ret
   exact ⟨rfl, ((hk0.trans hkq).trans hks).trans hkf⟩
theorem recI_8 (txn : Int) (prev : Int) (page : Int) (slot : Int) (bU : Bool) (bDa : Option Addr) (bDc : Nat) (bDb : List Int) (aU : Bool) (aDa : Option Addr) (aDc : Nat) (aDb : List Int) (uN : Int) (nT : Int) (tXe : TypeId) (tXa : Option Addr) (tXn tXc : Nat) (tXb : List Int) (dYe : TypeId) (dYa : Option Addr) (dYn dYc : Nat) (dYb : List Int) (iMa : Option Addr) (iMc : Nat) (iMb : List Int) (w : World) (hBb : IsB bDb) (hBa : IsB aDb) (hBi : IsB iMb) (hli : iMb.length ≤ 1099511627776) (hrb : Rd .u8 w (.slice bDa bDb.length bDc) bDb) (hra : Rd .u8 w (.slice aDa aDb.length aDc) aDb) (hri : Rd .u8 w (.slice iMa iMb.length iMc) iMb) (hrt : RdF 4 w ⟨tXe, tXa, tXn, tXc, tXb⟩) (hrd : RdF 2 w ⟨dYe, dYa, dYn, dYc, dYb⟩) (hnt : tXn ≤ 1125899906842624) (hnd : dYn ≤ 1125899906842624) :
  Calls Tryz.prog 45 #[.agg #[.int .i64 8, .int .i64 txn, .int .i64 prev, .int .i64 page, .int .i64 slot, .bool bU, .slice bDa bDb.length bDc, .bool aU, .slice aDa aDb.length aDc, .int .i64 uN, .int .i64 nT, .slice tXa tXn tXc, .slice dYa dYn dYc, .slice iMa iMb.length iMc]] w fun e w' => e = .returned (.int .i64 (if alone8 txn prev page slot bU bDb aU aDb uN nT tXb dYb iMb = true then imgF page iMb else 2)) ∧ Same w w' := by
 have hT := fun wx => typeRecord_8 txn prev page slot bU bDa bDb.length bDc aU aDa aDb.length aDc uN nT tXa tXn tXc dYa dYn dYc iMa iMb.length iMc wx
 have hP := fun wx => plainRecord_8 txn prev page slot bU bDa bDb.length bDc aU aDa aDb.length aDc uN nT tXa tXn tXc dYa dYn dYc iMa iMb.length iMc wx
 have hS := fun wx (hk : Same w wx) => same_8 txn prev page slot bU bDa bDc bDb aU aDa aDc aDb uN nT tXe tXa tXn tXc tXb dYe dYa dYn dYc dYb iMa iMc iMb wx hBb hBa hBi (hrb.same hk) (hra.same hk) (hri.same hk) (hrt.same hk) (hrd.same hk) hnt hnd
 have hF : ∀ wx, Same w wx → Calls Tryz.prog 140 #[.agg #[.int .i64 0, .int .i64 0, .int .i64 page, .slice iMa iMb.length iMc]] wx fun e w' => e = .returned (.int .i64 (imgF page iMb)) ∧ Same wx w' := fun wx hk => imageFault_any page iMa iMc iMb wx hBi hli (hri.same hk)
 have b0 := Blk.new w #[.int .i64 8, .int .i64 txn, .int .i64 prev, .int .i64 page, .int .i64 slot, .bool bU, .slice bDa bDb.length bDc, .bool aU, .slice aDa aDb.length aDc, .int .i64 uN, .int .i64 nT, .slice tXa tXn tXc, .slice dYa dYn dYc, .slice iMa iMb.length iMc] 35
 have hk0 : Same w (w.alloc (.cells #[.int .i64 8, .int .i64 txn, .int .i64 prev, .int .i64 page, .int .i64 slot, .bool bU, .slice bDa bDb.length bDc, .bool aU, .slice aDa aDb.length aDc, .int .i64 uN, .int .i64 nT, .slice tXa tXn tXc, .slice dYa dYn dYc, .slice iMa iMb.length iMc] 35)) := (Kept.refl _ _).alloc _
 generalize alone8 txn prev page slot bU bDb aU aDb uN nT tXb dYb iMb = AL at *
 generalize imgF page iMb = FA at *
 clear hrb hra hri hrt hrd hBb hBa hBi hnt hnd hli
 have hz : ∀ (wx : World), Same (w.alloc (.cells #[.int .i64 8, .int .i64 txn, .int .i64 prev, .int .i64 page, .int .i64 slot, .bool bU, .slice bDa bDb.length bDc, .bool aU, .slice aDa aDb.length aDc, .int .i64 uN, .int .i64 nT, .slice tXa tXn tXc, .slice dYa dYn dYc, .slice iMa iMb.length iMc] 35)) wx → wx.cell? ⟨w.heap.size, 0, none⟩ = some (.int .i64 8) ∧ wx.cell? ⟨w.heap.size, 1, none⟩ = some (.int .i64 txn) ∧ wx.cell? ⟨w.heap.size, 2, none⟩ = some (.int .i64 prev) ∧ wx.cell? ⟨w.heap.size, 3, none⟩ = some (.int .i64 page) ∧ wx.cell? ⟨w.heap.size, 4, none⟩ = some (.int .i64 slot) ∧ wx.cell? ⟨w.heap.size, 5, none⟩ = some (.bool bU) ∧ wx.cell? ⟨w.heap.size, 6, none⟩ = some (.slice bDa bDb.length bDc) ∧ wx.cell? ⟨w.heap.size, 7, none⟩ = some (.bool aU) ∧ wx.cell? ⟨w.heap.size, 8, none⟩ = some (.slice aDa aDb.length aDc) ∧ wx.cell? ⟨w.heap.size, 9, none⟩ = some (.int .i64 uN) ∧ wx.cell? ⟨w.heap.size, 10, none⟩ = some (.int .i64 nT) ∧ wx.cell? ⟨w.heap.size, 11, none⟩ = some (.slice tXa tXn tXc) ∧ wx.cell? ⟨w.heap.size, 12, none⟩ = some (.slice dYa dYn dYc) ∧ wx.cell? ⟨w.heap.size, 13, none⟩ = some (.slice iMa iMb.length iMc) := fun wx h => ⟨(b0.same h).cell 0, (b0.same h).cell 1, (b0.same h).cell 2, (b0.same h).cell 3, (b0.same h).cell 4, (b0.same h).cell 5, (b0.same h).cell 6, (b0.same h).cell 7, (b0.same h).cell 8, (b0.same h).cell 9, (b0.same h).cell 10, (b0.same h).cell 11, (b0.same h).cell 12, (b0.same h).cell 13⟩
 cases AL with
 | false =>
  simp only [Bool.false_eq_true, if_false]
  go_enter Tryz.func45, Tryz.ntmps45
  go_wp2_with (go_at_call 47; refine (hT _).mono ?_; rintro e w1 ⟨rfl, hk1⟩; obtain ⟨z0, z1, z2, z3, z4, z5, z6, z7, z8, z9, z10, z11, z12, z13⟩ := hz w1 hk1)
  go_region_with (first
   | (go_at_call 57; refine (hP _).mono ?_; rintro e wp ⟨rfl, hkp⟩; have hkq := (Kept.drew hk1).trans hkp; obtain ⟨y0, y1, y2, y3, y4, y5, y6, y7, y8, y9, y10, y11, y12, y13⟩ := hz wp hkq)
   | (go_at_call 56; refine (hS _ (hk0.trans hkq)).mono ?_; rintro e ws ⟨rfl, hks⟩))
  all_goals
   go_wp2
   go_ret
   exact ⟨rfl, (hk0.trans hkq).trans hks⟩
 | true =>
  simp only [if_true]
  go_enter Tryz.func45, Tryz.ntmps45
  go_wp2_with (go_at_call 47; refine (hT _).mono ?_; rintro e w1 ⟨rfl, hk1⟩; obtain ⟨z0, z1, z2, z3, z4, z5, z6, z7, z8, z9, z10, z11, z12, z13⟩ := hz w1 hk1)
  go_region_with (first
   | (go_at_call 57; refine (hP _).mono ?_; rintro e wp ⟨rfl, hkp⟩; have hkq := (Kept.drew hk1).trans hkp; obtain ⟨y0, y1, y2, y3, y4, y5, y6, y7, y8, y9, y10, y11, y12, y13⟩ := hz wp hkq)
   | (go_at_call 56; refine (hS _ (hk0.trans hkq)).mono ?_; rintro e ws ⟨rfl, hks⟩))
  all_goals
   go_wp2_with (go_at_call 140; refine (hF _ ((hk0.trans hkq).trans hks)).mono ?_; rintro e wf ⟨rfl, hkf⟩)
   go_ret
   exact ⟨rfl, ((hk0.trans hkq).trans hks).trans hkf⟩
def recFd (d : Int × Int × Int × Int × Int × (Bool × List Int) × (Bool × List Int) × Int × Int × List Int × List Int × List Int) : Int := recF d.1 d.2.1 d.2.2.1 d.2.2.2.1 d.2.2.2.2.1 d.2.2.2.2.2.1.1 d.2.2.2.2.2.1.2 d.2.2.2.2.2.2.1.1 d.2.2.2.2.2.2.1.2 d.2.2.2.2.2.2.2.1 d.2.2.2.2.2.2.2.2.1 d.2.2.2.2.2.2.2.2.2.1 d.2.2.2.2.2.2.2.2.2.2.1 d.2.2.2.2.2.2.2.2.2.2.2
def StLogRecord.isB (x : StLogRecord) : Prop := IsB x.before.data.bs ∧ IsB x.after.data.bs ∧ IsB x.image.bs
theorem implRec_any (x : StLogRecord) (w : World) (hB : x.isB) (hn : x.szs ≤ 1073741824) (hv : StLogRecord.rd w x) :
  Calls Tryz.prog 45 #[x.val] w fun e w' => e = .returned (.int .i64 (recFd x.dat)) ∧ Same w w' := by
 have hs := hn
 simp only [StLogRecord.szs, StPageRecord.szs] at hs
 have hlt := hv.2.2.1.2.1
 have hld := hv.2.2.2.1.2.1
 obtain ⟨kind, txn, prev, page, slot, ⟨bU, ⟨bDe, bDa, bDc, bDb⟩⟩, ⟨aU, ⟨aDe, aDa, aDc, aDb⟩⟩, uN, nT, ⟨tXe, tXa, tXn, tXc, tXb⟩, ⟨dYe, dYa, dYn, dYc, dYb⟩, ⟨iMe, iMa, iMc, iMb⟩⟩ := x
 dsimp only [StLogRecord.val, StPageRecord.val, BS.v, FR.v, recFd, StLogRecord.dat, StPageRecord.dat, StLogRecord.isB, StLogRecord.rd, StPageRecord.rd] at *
 have e1 : tXb.length / 4 = tXn := by omega
 have e2 : dYb.length / 2 = dYn := by omega
 have hli : iMb.length ≤ 1099511627776 := by omega
 have hnt : tXn ≤ 1125899906842624 := by omega
 have hnd : dYn ≤ 1125899906842624 := by omega
 unfold recF
 by_cases h1 : kind = 1
 ·subst h1
  simp only [if_true]
  exact recI_1 txn prev page slot bU bDa bDc bDb aU aDa aDc aDb uN nT tXe tXa tXn tXc tXb dYe dYa dYn dYc dYb iMa iMc iMb w hB.1 hB.2.1 hB.2.2 hli hv.1 hv.2.1 hv.2.2.2.2 hv.2.2.1 hv.2.2.2.1 hnt hnd
 rw [if_neg h1]
 by_cases h2 : kind = 2
 ·subst h2
  rw [if_pos rfl]
  exact recI_2 txn prev page slot bU bDa bDc bDb aU aDa aDc aDb uN nT tXe tXa tXn tXc tXb dYe dYa dYn dYc dYb iMa iMc iMb w hB.1 hB.2.1 hB.2.2 hli hv.1 hv.2.1 hv.2.2.2.2 hv.2.2.1 hv.2.2.2.1 hnt hnd
 rw [if_neg h2]
 by_cases h3 : kind = 3
 ·subst h3
  rw [if_pos rfl]
  exact recI_3 txn prev page slot bU bDa bDc bDb aU aDa aDc aDb uN nT tXe tXa tXn tXc tXb dYe dYa dYn dYc dYb iMa iMc iMb w hB.1 hB.2.1 hB.2.2 hli hv.1 hv.2.1 hv.2.2.2.2 hv.2.2.1 hv.2.2.2.1 hnt hnd
 rw [if_neg h3]
 by_cases h4 : kind = 4
 ·subst h4
  rw [if_pos rfl]
  exact recI_4 txn prev page slot bU bDa bDc bDb aU aDa aDc aDb uN nT tXe tXa tXn tXc tXb dYe dYa dYn dYc dYb iMa iMc iMb w hB.1 hB.2.1 hB.2.2 hli hv.1 hv.2.1 hv.2.2.2.2 hv.2.2.1 hv.2.2.2.1 hnt hnd
 rw [if_neg h4]
 by_cases h5 : kind = 5
 ·subst h5
  rw [if_pos rfl]
  exact recI_5 txn prev page slot bU bDa bDc bDb aU aDa aDc aDb uN nT tXe tXa tXn tXc tXb dYe dYa dYn dYc dYb iMa iMc iMb w hB.1 hB.2.1 hB.2.2 hli hv.1 hv.2.1 hv.2.2.2.2 hv.2.2.1 hv.2.2.2.1 hnt hnd
 rw [if_neg h5]
 by_cases h6 : kind = 6
 ·subst h6
  rw [if_pos rfl]
  exact recI_6 txn prev page slot bU bDa bDc bDb aU aDa aDc aDb uN nT tXe tXa tXn tXc tXb dYe dYa dYn dYc dYb iMa iMc iMb w hB.1 hB.2.1 hB.2.2 hli hv.1 hv.2.1 hv.2.2.2.2 hv.2.2.1 hv.2.2.2.1 hnt hnd
 rw [if_neg h6]
 by_cases h7 : kind = 7
 ·subst h7
  rw [if_pos rfl]
  exact recI_7 txn prev page slot bU bDa bDc bDb aU aDa aDc aDb uN nT tXe tXa tXn tXc tXb dYe dYa dYn dYc dYb iMa iMc iMb w hB.1 hB.2.1 hB.2.2 hli hv.1 hv.2.1 hv.2.2.2.2 hv.2.2.1 hv.2.2.2.1 hnt hnd
 rw [if_neg h7]
 by_cases h8 : kind = 8
 ·subst h8
  rw [if_pos rfl]
  exact recI_8 txn prev page slot bU bDa bDc bDb aU aDa aDc aDb uN nT tXe tXa tXn tXc tXb dYe dYa dYn dYc dYb iMa iMc iMb w hB.1 hB.2.1 hB.2.2 hli hv.1 hv.2.1 hv.2.2.2.2 hv.2.2.1 hv.2.2.2.1 hnt hnd
 rw [if_neg h8]
 exact recI_0 kind txn prev page slot bU bDa bDc bDb aU aDa aDc aDb uN nT tXe tXa tXn tXc tXb dYe dYa dYn dYc dYb iMa iMc iMb w h1 h2 h3 h4 h5 h6 h7 h8
theorem specRec_any (x : StLogRecord) (w : World) (hB : x.isB) (hn : x.szs ≤ 1073741824) (hv : StLogRecord.rd w x) :
  Calls Tryz.prog 17 #[x.val] w fun e w' => e = .returned (.int .i64 (recFd x.dat)) ∧ Same w w' := by
 have hs := hn
 simp only [StLogRecord.szs, StPageRecord.szs] at hs
 have hlt := hv.2.2.1.2.1
 have hld := hv.2.2.2.1.2.1
 obtain ⟨kind, txn, prev, page, slot, ⟨bU, ⟨bDe, bDa, bDc, bDb⟩⟩, ⟨aU, ⟨aDe, aDa, aDc, aDb⟩⟩, uN, nT, ⟨tXe, tXa, tXn, tXc, tXb⟩, ⟨dYe, dYa, dYn, dYc, dYb⟩, ⟨iMe, iMa, iMc, iMb⟩⟩ := x
 dsimp only [StLogRecord.val, StPageRecord.val, BS.v, FR.v, recFd, StLogRecord.dat, StPageRecord.dat, StLogRecord.isB, StLogRecord.rd, StPageRecord.rd] at *
 have e1 : tXb.length / 4 = tXn := by omega
 have e2 : dYb.length / 2 = dYn := by omega
 have hli : iMb.length ≤ 1099511627776 := by omega
 have hnt : tXn ≤ 1125899906842624 := by omega
 have hnd : dYn ≤ 1125899906842624 := by omega
 unfold recF
 by_cases h1 : kind = 1
 ·subst h1
  simp only [if_true]
  rw [← eqK_1 txn prev page slot uN nT bU aU bDb aDb iMb tXb dYb tXn dYn e1 e2]
  exact specT_1 txn prev page slot bU bDa bDc bDb aU aDa aDc aDb uN nT tXe tXa tXn tXc tXb dYe dYa dYn dYc dYb iMa iMc iMb w hB.1 hB.2.1 hB.2.2 hli hv.1 hv.2.1 hv.2.2.2.2 hv.2.2.1 hv.2.2.2.1 hnt hnd
 rw [if_neg h1]
 by_cases h2 : kind = 2
 ·subst h2
  rw [if_pos rfl]
  rw [← eqK_2 txn prev page slot uN nT bU aU bDb aDb iMb tXb dYb tXn dYn e1 e2]
  exact specT_2 txn prev page slot bU bDa bDc bDb aU aDa aDc aDb uN nT tXe tXa tXn tXc tXb dYe dYa dYn dYc dYb iMa iMc iMb w hB.1 hB.2.1 hB.2.2 hli hv.1 hv.2.1 hv.2.2.2.2 hv.2.2.1 hv.2.2.2.1 hnt hnd
 rw [if_neg h2]
 by_cases h3 : kind = 3
 ·subst h3
  rw [if_pos rfl]
  rw [← eqK_3 txn prev page slot uN nT bU aU bDb aDb iMb tXb dYb tXn dYn e1 e2]
  exact specT_3 txn prev page slot bU bDa bDc bDb aU aDa aDc aDb uN nT tXe tXa tXn tXc tXb dYe dYa dYn dYc dYb iMa iMc iMb w hB.1 hB.2.1 hB.2.2 hli hv.1 hv.2.1 hv.2.2.2.2 hv.2.2.1 hv.2.2.2.1 hnt hnd
 rw [if_neg h3]
 by_cases h4 : kind = 4
 ·subst h4
  rw [if_pos rfl]
  rw [← eqK_4 txn prev page slot uN nT bU aU bDb aDb iMb tXb dYb tXn dYn e1 e2]
  exact specT_4 txn prev page slot bU bDa bDc bDb aU aDa aDc aDb uN nT tXe tXa tXn tXc tXb dYe dYa dYn dYc dYb iMa iMc iMb w hB.1 hB.2.1 hB.2.2 hli hv.1 hv.2.1 hv.2.2.2.2 hv.2.2.1 hv.2.2.2.1 hnt hnd
 rw [if_neg h4]
 by_cases h5 : kind = 5
 ·subst h5
  rw [if_pos rfl]
  rw [← eqK_5 txn prev page slot uN nT bU aU bDb aDb iMb tXb dYb tXn dYn e1 e2]
  exact specT_5 txn prev page slot bU bDa bDc bDb aU aDa aDc aDb uN nT tXe tXa tXn tXc tXb dYe dYa dYn dYc dYb iMa iMc iMb w hB.1 hB.2.1 hB.2.2 hli hv.1 hv.2.1 hv.2.2.2.2 hv.2.2.1 hv.2.2.2.1 hnt hnd
 rw [if_neg h5]
 by_cases h6 : kind = 6
 ·subst h6
  rw [if_pos rfl]
  rw [← eqK_6 txn prev page slot uN nT bU aU bDb aDb iMb tXb dYb tXn dYn e1 e2]
  exact specT_6 txn prev page slot bU bDa bDc bDb aU aDa aDc aDb uN nT tXe tXa tXn tXc tXb dYe dYa dYn dYc dYb iMa iMc iMb w hB.1 hB.2.1 hB.2.2 hli hv.1 hv.2.1 hv.2.2.2.2 hv.2.2.1 hv.2.2.2.1 hnt hnd
 rw [if_neg h6]
 by_cases h7 : kind = 7
 ·subst h7
  rw [if_pos rfl]
  rw [← eqK_7 txn prev page slot uN nT bU aU bDb aDb iMb tXb dYb tXn dYn e1 e2]
  exact specT_7 txn prev page slot bU bDa bDc bDb aU aDa aDc aDb uN nT tXe tXa tXn tXc tXb dYe dYa dYn dYc dYb iMa iMc iMb w hB.1 hB.2.1 hB.2.2 hli hv.1 hv.2.1 hv.2.2.2.2 hv.2.2.1 hv.2.2.2.1 hnt hnd
 rw [if_neg h7]
 by_cases h8 : kind = 8
 ·subst h8
  rw [if_pos rfl]
  rw [← eqK_8 txn prev page slot uN nT bU aU bDb aDb iMb tXb dYb tXn dYn e1 e2]
  exact specT_8 txn prev page slot bU bDa bDc bDb aU aDa aDc aDb uN nT tXe tXa tXn tXc tXb dYe dYa dYn dYc dYb iMa iMc iMb w hB.1 hB.2.1 hB.2.2 hli hv.1 hv.2.1 hv.2.2.2.2 hv.2.2.1 hv.2.2.2.1 hnt hnd
 rw [if_neg h8]
 exact recS_0 kind txn prev page slot bU bDa bDc bDb aU aDa aDc aDb uN nT tXe tXa tXn tXc tXb dYe dYa dYn dYc dYb iMa iMc iMb w (by unfold inB; simp only [Bool.and_eq_false_iff, decide_eq_false_iff_not]; omega)
theorem StLogRecord.isB_dat {x y : StLogRecord} (h : y.dat = x.dat) (hx : x.isB) : y.isB := by
 simp only [StLogRecord.dat, StPageRecord.dat, Prod.mk.injEq] at h
 obtain ⟨_, _, _, _, _, ⟨_, h1⟩, ⟨_, h2⟩, _, _, _, _, h3⟩ := h
 unfold StLogRecord.isB at *
 rw [h1, h2, h3]
 exact hx
theorem StLogRecord.size_rd {w : World} {x : StLogRecord} (h : StLogRecord.rd w x) : x.size ≤ 4 * x.szs := by
 have h1 := h.2.2.1.2.1
 have h2 := h.2.2.2.1.2.1
 simp only [StLogRecord.size, StLogRecord.szs, StPageRecord.size, StPageRecord.szs]
 omega
end Go.Proofs.YtdgmecmkkddpeaaGreat
