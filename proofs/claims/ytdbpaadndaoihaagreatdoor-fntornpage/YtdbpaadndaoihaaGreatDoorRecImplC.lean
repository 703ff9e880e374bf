import Derived.Test.YtdbpaadndaoihaaGreatDoorG18
namespace Go.Proofs.YtdbpaadndaoihaaGreatDoor
set_option maxRecDepth 100000
set_option maxHeartbeats 16000000
set_option linter.unusedVariables false
set_option linter.unusedSimpArgs false
open Go.RowKit
theorem recI_6 (txn : Int) (prev : Int) (page : Int) (slot : Int) (bU : Bool) (bDa : Option Addr) (bDc : Nat) (bDb : List Int) (aU : Bool) (aDa : Option Addr) (aDc : Nat) (aDb : List Int) (uN : Int) (nT : Int) (tXe : TypeId) (tXa : Option Addr) (tXn tXc : Nat) (tXb : List Int) (dYe : TypeId) (dYa : Option Addr) (dYn dYc : Nat) (dYb : List Int) (iMa : Option Addr) (iMc : Nat) (iMb : List Int) (w : World) (hBb : IsB bDb) (hBa : IsB aDb) (hBi : IsB iMb) (hli : iMb.length ≤ 1099511627776) (hrb : Rd .u8 w (.slice bDa bDb.length bDc) bDb) (hra : Rd .u8 w (.slice aDa aDb.length aDc) aDb) (hri : Rd .u8 w (.slice iMa iMb.length iMc) iMb) (hrt : RdF 4 w ⟨tXe, tXa, tXn, tXc, tXb⟩) (hrd : RdF 2 w ⟨dYe, dYa, dYn, dYc, dYb⟩) (hnt : tXn ≤ 1125899906842624) (hnd : dYn ≤ 1125899906842624) :
  Calls Tryz.prog 93 #[.agg #[.int .i64 6, .int .i64 txn, .int .i64 prev, .int .i64 page, .int .i64 slot, .bool bU, .slice bDa bDb.length bDc, .bool aU, .slice aDa aDb.length aDc, .int .i64 uN, .int .i64 nT, .slice tXa tXn tXc, .slice dYa dYn dYc, .slice iMa iMb.length iMc]] w fun e w' => e = .returned (.int .i64 (if alone6 txn prev page slot bU bDb aU aDb uN nT tXb dYb iMb = true then 0 else 2)) ∧ Same w w' := by
 have hT := fun wx => typeRecord_6 txn prev page slot bU bDa bDb.length bDc aU aDa aDb.length aDc uN nT tXa tXn tXc dYa dYn dYc iMa iMb.length iMc wx
 have hP := fun wx => plainRecord_6 txn prev page slot bU bDa bDb.length bDc aU aDa aDb.length aDc uN nT tXa tXn tXc dYa dYn dYc iMa iMb.length iMc wx
 have hS := fun wx (hk : Same w wx) => same_6 txn prev page slot bU bDa bDc bDb aU aDa aDc aDb uN nT tXe tXa tXn tXc tXb dYe dYa dYn dYc dYb iMa iMc iMb wx hBb hBa hBi (hrb.same hk) (hra.same hk) (hri.same hk) (hrt.same hk) (hrd.same hk) hnt hnd
 have hF : ∀ wx, Same w wx → Calls Tryz.prog 180 #[.agg #[.int .i64 0, .int .i64 0]] wx fun e w' => e = .returned (.int .i64 (0)) ∧ Same wx w' := fun wx hk => beginFault_any wx
 have b0 := Blk.new w #[.int .i64 6, .int .i64 txn, .int .i64 prev, .int .i64 page, .int .i64 slot, .bool bU, .slice bDa bDb.length bDc, .bool aU, .slice aDa aDb.length aDc, .int .i64 uN, .int .i64 nT, .slice tXa tXn tXc, .slice dYa dYn dYc, .slice iMa iMb.length iMc] 49
 have hk0 : Same w (w.alloc (.cells #[.int .i64 6, .int .i64 txn, .int .i64 prev, .int .i64 page, .int .i64 slot, .bool bU, .slice bDa bDb.length bDc, .bool aU, .slice aDa aDb.length aDc, .int .i64 uN, .int .i64 nT, .slice tXa tXn tXc, .slice dYa dYn dYc, .slice iMa iMb.length iMc] 49)) := (Kept.refl _ _).alloc _
 generalize alone6 txn prev page slot bU bDb aU aDb uN nT tXb dYb iMb = AL at *
 clear hrb hra hri hrt hrd hBb hBa hBi hnt hnd hli
 have hz : ∀ (wx : World), Same (w.alloc (.cells #[.int .i64 6, .int .i64 txn, .int .i64 prev, .int .i64 page, .int .i64 slot, .bool bU, .slice bDa bDb.length bDc, .bool aU, .slice aDa aDb.length aDc, .int .i64 uN, .int .i64 nT, .slice tXa tXn tXc, .slice dYa dYn dYc, .slice iMa iMb.length iMc] 49)) wx → wx.cell? ⟨w.heap.size, 0, none⟩ = some (.int .i64 6) ∧ wx.cell? ⟨w.heap.size, 1, none⟩ = some (.int .i64 txn) ∧ wx.cell? ⟨w.heap.size, 2, none⟩ = some (.int .i64 prev) ∧ wx.cell? ⟨w.heap.size, 3, none⟩ = some (.int .i64 page) ∧ wx.cell? ⟨w.heap.size, 4, none⟩ = some (.int .i64 slot) ∧ wx.cell? ⟨w.heap.size, 5, none⟩ = some (.bool bU) ∧ wx.cell? ⟨w.heap.size, 6, none⟩ = some (.slice bDa bDb.length bDc) ∧ wx.cell? ⟨w.heap.size, 7, none⟩ = some (.bool aU) ∧ wx.cell? ⟨w.heap.size, 8, none⟩ = some (.slice aDa aDb.length aDc) ∧ wx.cell? ⟨w.heap.size, 9, none⟩ = some (.int .i64 uN) ∧ wx.cell? ⟨w.heap.size, 10, none⟩ = some (.int .i64 nT) ∧ wx.cell? ⟨w.heap.size, 11, none⟩ = some (.slice tXa tXn tXc) ∧ wx.cell? ⟨w.heap.size, 12, none⟩ = some (.slice dYa dYn dYc) ∧ wx.cell? ⟨w.heap.size, 13, none⟩ = some (.slice iMa iMb.length iMc) := fun wx h => ⟨(b0.same h).cell 0, (b0.same h).cell 1, (b0.same h).cell 2, (b0.same h).cell 3, (b0.same h).cell 4, (b0.same h).cell 5, (b0.same h).cell 6, (b0.same h).cell 7, (b0.same h).cell 8, (b0.same h).cell 9, (b0.same h).cell 10, (b0.same h).cell 11, (b0.same h).cell 12, (b0.same h).cell 13⟩
 cases AL with
 | false =>
  simp only [Bool.false_eq_true, if_false]
  go_enter Tryz.func93, Tryz.ntmps93
  go_wp2_with (go_at_call 95; refine (hT _).mono ?_; rintro e w1 ⟨rfl, hk1⟩; obtain ⟨z0, z1, z2, z3, z4, z5, z6, z7, z8, z9, z10, z11, z12, z13⟩ := hz w1 hk1)
  go_region_with (first
   | (go_at_call 106; refine (hP _).mono ?_; rintro e wp ⟨rfl, hkp⟩; have hkq := (Kept.drew hk1).trans hkp; obtain ⟨y0, y1, y2, y3, y4, y5, y6, y7, y8, y9, y10, y11, y12, y13⟩ := hz wp hkq)
   | (go_at_call 105; refine (hS _ (hk0.trans hkq)).mono ?_; rintro e ws ⟨rfl, hks⟩))
  all_goals
   go_wp2
   go_ret
   exact ⟨rfl, (hk0.trans hkq).trans hks⟩
 | true =>
  simp only [if_true]
  go_enter Tryz.func93, Tryz.ntmps93
  go_wp2_with (go_at_call 95; refine (hT _).mono ?_; rintro e w1 ⟨rfl, hk1⟩; obtain ⟨z0, z1, z2, z3, z4, z5, z6, z7, z8, z9, z10, z11, z12, z13⟩ := hz w1 hk1)
  go_region_with (first
   | (go_at_call 106; refine (hP _).mono ?_; rintro e wp ⟨rfl, hkp⟩; have hkq := (Kept.drew hk1).trans hkp; obtain ⟨y0, y1, y2, y3, y4, y5, y6, y7, y8, y9, y10, y11, y12, y13⟩ := hz wp hkq)
   | (go_at_call 105; refine (hS _ (hk0.trans hkq)).mono ?_; rintro e ws ⟨rfl, hks⟩))
  all_goals
   go_wp2_with (go_at_call 180; refine (hF _ ((hk0.trans hkq).trans hks)).mono ?_; rintro e wf ⟨rfl, hkf⟩)
   go_ret
   exact ⟨rfl, ((hk0.trans hkq).trans hks).trans hkf⟩
end Go.Proofs.YtdbpaadndaoihaaGreatDoor
