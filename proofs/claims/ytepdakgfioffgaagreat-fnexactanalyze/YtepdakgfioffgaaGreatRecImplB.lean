import Derived.Test.YtepdakgfioffgaaGreatG24
namespace Go.Proofs.YtepdakgfioffgaaGreat
set_option maxRecDepth 100000
set_option maxHeartbeats 16000000
set_option linter.unusedVariables false
set_option linter.unusedSimpArgs false
open Go.RowKit
theorem recI_3 (txn prev page slot : Int) (bU : Bool) (bN : Option Addr) (bO : Nat) (aY : List Int) (aU : Bool) (bH : Option Addr) (bI : Nat) (aX : List Int) (uN nT : Int) (fQ : TypeId) (b9 : Option Addr) (bp cf : Nat) (df : List Int) (fP : TypeId) (ch : Option Addr) (bo cj : Nat) (dj : List Int) (cg : Option Addr) (cm : Nat) (aZ : List Int) (w : World) (iB : IsB aY) (iz : IsB aX) (ij : IsB aZ) (jK : aZ.length ≤ 1099511627776) (fT : Rd .u8 w (.slice bN aY.length bO) aY) (fE : Rd .u8 w (.slice bH aX.length bI) aX) (gY : Rd .u8 w (.slice cg aZ.length cm) aZ) (gw : RdF 4 w ⟨fQ, b9, bp, cf, df⟩) (fG : RdF 2 w ⟨fP, ch, bo, cj, dj⟩) (fX : bp ≤ 1125899906842624) (gK : bo ≤ 1125899906842624) :
  Calls Tryz.prog 50 #[.agg #[.int .i64 3, .int .i64 txn, .int .i64 prev, .int .i64 page, .int .i64 slot, .bool bU, .slice bN aY.length bO, .bool aU, .slice bH aX.length bI, .int .i64 uN, .int .i64 nT, .slice b9 bp cf, .slice ch bo cj, .slice cg aZ.length cm]] w fun e w' => e = .returned (.int .i64 (if alone3 txn prev page slot bU aY aU aX uN nT df dj aZ = true then headF txn prev else 2)) ∧ Same w w' := by
 have hT := fun wx => typeRecord_3 txn prev page slot bU bN aY.length bO aU bH aX.length bI uN nT b9 bp cf ch bo cj cg aZ.length cm wx
 have hP := fun wx => plainRecord_3 txn prev page slot bU bN aY.length bO aU bH aX.length bI uN nT b9 bp cf ch bo cj cg aZ.length cm wx
 have hS := fun wx (hk : Same w wx) => same_3 txn prev page slot bU bN bO aY aU bH bI aX uN nT fQ b9 bp cf df fP ch bo cj dj cg cm aZ wx iB iz ij (fT.same hk) (fE.same hk) (gY.same hk) (gw.same hk) (fG.same hk) fX gK
 have hF : ∀ wx, Same w wx → Calls Tryz.prog 149 #[.agg #[.int .i64 txn, .int .i64 prev]] wx fun e w' => e = .returned (.int .i64 (headF txn prev)) ∧ Same wx w' := fun wx hk => headFault_any txn prev wx
 have b0 := Blk.new w #[.int .i64 3, .int .i64 txn, .int .i64 prev, .int .i64 page, .int .i64 slot, .bool bU, .slice bN aY.length bO, .bool aU, .slice bH aX.length bI, .int .i64 uN, .int .i64 nT, .slice b9 bp cf, .slice ch bo cj, .slice cg aZ.length cm] 49
 have ep : Same w (w.alloc (.cells #[.int .i64 3, .int .i64 txn, .int .i64 prev, .int .i64 page, .int .i64 slot, .bool bU, .slice bN aY.length bO, .bool aU, .slice bH aX.length bI, .int .i64 uN, .int .i64 nT, .slice b9 bp cf, .slice ch bo cj, .slice cg aZ.length cm] 49)) := (Kept.refl _ _).alloc _
 generalize alone3 txn prev page slot bU aY aU aX uN nT df dj aZ = AL at *
 generalize headF txn prev = FA at *
 clear fT fE gY gw fG iB iz ij fX gK jK
 have hz : ∀ (wx : World), Same (w.alloc (.cells #[.int .i64 3, .int .i64 txn, .int .i64 prev, .int .i64 page, .int .i64 slot, .bool bU, .slice bN aY.length bO, .bool aU, .slice bH aX.length bI, .int .i64 uN, .int .i64 nT, .slice b9 bp cf, .slice ch bo cj, .slice cg aZ.length cm] 49)) wx → wx.cell? ⟨w.heap.size, 0, none⟩ = some (.int .i64 3) ∧ wx.cell? ⟨w.heap.size, 1, none⟩ = some (.int .i64 txn) ∧ wx.cell? ⟨w.heap.size, 2, none⟩ = some (.int .i64 prev) ∧ wx.cell? ⟨w.heap.size, 3, none⟩ = some (.int .i64 page) ∧ wx.cell? ⟨w.heap.size, 4, none⟩ = some (.int .i64 slot) ∧ wx.cell? ⟨w.heap.size, 5, none⟩ = some (.bool bU) ∧ wx.cell? ⟨w.heap.size, 6, none⟩ = some (.slice bN aY.length bO) ∧ wx.cell? ⟨w.heap.size, 7, none⟩ = some (.bool aU) ∧ wx.cell? ⟨w.heap.size, 8, none⟩ = some (.slice bH aX.length bI) ∧ wx.cell? ⟨w.heap.size, 9, none⟩ = some (.int .i64 uN) ∧ wx.cell? ⟨w.heap.size, 10, none⟩ = some (.int .i64 nT) ∧ wx.cell? ⟨w.heap.size, 11, none⟩ = some (.slice b9 bp cf) ∧ wx.cell? ⟨w.heap.size, 12, none⟩ = some (.slice ch bo cj) ∧ wx.cell? ⟨w.heap.size, 13, none⟩ = some (.slice cg aZ.length cm) := fun wx h => ⟨(b0.same h).cell 0, (b0.same h).cell 1, (b0.same h).cell 2, (b0.same h).cell 3, (b0.same h).cell 4, (b0.same h).cell 5, (b0.same h).cell 6, (b0.same h).cell 7, (b0.same h).cell 8, (b0.same h).cell 9, (b0.same h).cell 10, (b0.same h).cell 11, (b0.same h).cell 12, (b0.same h).cell 13⟩
 cases AL with
 | false =>
  simp only [Bool.false_eq_true, if_false]
  go_enter Tryz.func50, Tryz.ntmps50
  go_wp2_with (go_at_call 73; refine (hT _).mono ?_; rintro e w1 ⟨rfl, bg⟩; obtain ⟨z0, z1, z2, z3, z4, z5, z6, z7, z8, z9, pF, pc, pp, pb⟩ := hz w1 bg)
  go_region_with (first
   | (go_at_call 75; refine (hP _).mono ?_; rintro e wp ⟨rfl, jy⟩; have fL := (Kept.drew bg).trans jy; obtain ⟨y0, y1, y2, y3, y4, y5, y6, y7, y8, y9, oO, m9, ov, pu⟩ := hz wp fL)
   | (go_at_call 74; refine (hS _ (ep.trans fL)).mono ?_; rintro e ws ⟨rfl, eR⟩))
  all_goals
   go_wp2
   go_ret
   exact ⟨rfl, (ep.trans fL).trans eR⟩
 | true =>
  simp only [if_true]
  go_enter Tryz.func50, Tryz.ntmps50
  go_wp2_with (go_at_call 73; refine (hT _).mono ?_; rintro e w1 ⟨rfl, bg⟩; obtain ⟨z0, z1, z2, z3, z4, z5, z6, z7, z8, z9, pF, pc, pp, pb⟩ := hz w1 bg)
  go_region_with (first
   | (go_at_call 75; refine (hP _).mono ?_; rintro e wp ⟨rfl, jy⟩; have fL := (Kept.drew bg).trans jy; obtain ⟨y0, y1, y2, y3, y4, y5, y6, y7, y8, y9, oO, m9, ov, pu⟩ := hz wp fL)
   | (go_at_call 74; refine (hS _ (ep.trans fL)).mono ?_; rintro e ws ⟨rfl, eR⟩))
  all_goals
   go_wp2_with (go_at_call 149; refine (hF _ ((ep.trans fL).trans eR)).mono ?_; rintro e wf ⟨rfl, pr⟩)
   go_ret
   exact ⟨rfl, ((ep.trans fL).trans eR).trans pr⟩
theorem recI_4 (txn prev page slot : Int) (bU : Bool) (bN : Option Addr) (bO : Nat) (aY : List Int) (aU : Bool) (bH : Option Addr) (bI : Nat) (aX : List Int) (uN nT : Int) (fQ : TypeId) (b9 : Option Addr) (bp cf : Nat) (df : List Int) (fP : TypeId) (ch : Option Addr) (bo cj : Nat) (dj : List Int) (cg : Option Addr) (cm : Nat) (aZ : List Int) (w : World) (iB : IsB aY) (iz : IsB aX) (ij : IsB aZ) (jK : aZ.length ≤ 1099511627776) (fT : Rd .u8 w (.slice bN aY.length bO) aY) (fE : Rd .u8 w (.slice bH aX.length bI) aX) (gY : Rd .u8 w (.slice cg aZ.length cm) aZ) (gw : RdF 4 w ⟨fQ, b9, bp, cf, df⟩) (fG : RdF 2 w ⟨fP, ch, bo, cj, dj⟩) (fX : bp ≤ 1125899906842624) (gK : bo ≤ 1125899906842624) :
  Calls Tryz.prog 50 #[.agg #[.int .i64 4, .int .i64 txn, .int .i64 prev, .int .i64 page, .int .i64 slot, .bool bU, .slice bN aY.length bO, .bool aU, .slice bH aX.length bI, .int .i64 uN, .int .i64 nT, .slice b9 bp cf, .slice ch bo cj, .slice cg aZ.length cm]] w fun e w' => e = .returned (.int .i64 (if alone4 txn prev page slot bU aY aU aX uN nT df dj aZ = true then headF txn prev else 2)) ∧ Same w w' := by
 have hT := fun wx => typeRecord_4 txn prev page slot bU bN aY.length bO aU bH aX.length bI uN nT b9 bp cf ch bo cj cg aZ.length cm wx
 have hP := fun wx => plainRecord_4 txn prev page slot bU bN aY.length bO aU bH aX.length bI uN nT b9 bp cf ch bo cj cg aZ.length cm wx
 have hS := fun wx (hk : Same w wx) => same_4 txn prev page slot bU bN bO aY aU bH bI aX uN nT fQ b9 bp cf df fP ch bo cj dj cg cm aZ wx iB iz ij (fT.same hk) (fE.same hk) (gY.same hk) (gw.same hk) (fG.same hk) fX gK
 have hF : ∀ wx, Same w wx → Calls Tryz.prog 149 #[.agg #[.int .i64 txn, .int .i64 prev]] wx fun e w' => e = .returned (.int .i64 (headF txn prev)) ∧ Same wx w' := fun wx hk => headFault_any txn prev wx
 have b0 := Blk.new w #[.int .i64 4, .int .i64 txn, .int .i64 prev, .int .i64 page, .int .i64 slot, .bool bU, .slice bN aY.length bO, .bool aU, .slice bH aX.length bI, .int .i64 uN, .int .i64 nT, .slice b9 bp cf, .slice ch bo cj, .slice cg aZ.length cm] 49
 have ep : Same w (w.alloc (.cells #[.int .i64 4, .int .i64 txn, .int .i64 prev, .int .i64 page, .int .i64 slot, .bool bU, .slice bN aY.length bO, .bool aU, .slice bH aX.length bI, .int .i64 uN, .int .i64 nT, .slice b9 bp cf, .slice ch bo cj, .slice cg aZ.length cm] 49)) := (Kept.refl _ _).alloc _
 generalize alone4 txn prev page slot bU aY aU aX uN nT df dj aZ = AL at *
 generalize headF txn prev = FA at *
 clear fT fE gY gw fG iB iz ij fX gK jK
 have hz : ∀ (wx : World), Same (w.alloc (.cells #[.int .i64 4, .int .i64 txn, .int .i64 prev, .int .i64 page, .int .i64 slot, .bool bU, .slice bN aY.length bO, .bool aU, .slice bH aX.length bI, .int .i64 uN, .int .i64 nT, .slice b9 bp cf, .slice ch bo cj, .slice cg aZ.length cm] 49)) wx → wx.cell? ⟨w.heap.size, 0, none⟩ = some (.int .i64 4) ∧ wx.cell? ⟨w.heap.size, 1, none⟩ = some (.int .i64 txn) ∧ wx.cell? ⟨w.heap.size, 2, none⟩ = some (.int .i64 prev) ∧ wx.cell? ⟨w.heap.size, 3, none⟩ = some (.int .i64 page) ∧ wx.cell? ⟨w.heap.size, 4, none⟩ = some (.int .i64 slot) ∧ wx.cell? ⟨w.heap.size, 5, none⟩ = some (.bool bU) ∧ wx.cell? ⟨w.heap.size, 6, none⟩ = some (.slice bN aY.length bO) ∧ wx.cell? ⟨w.heap.size, 7, none⟩ = some (.bool aU) ∧ wx.cell? ⟨w.heap.size, 8, none⟩ = some (.slice bH aX.length bI) ∧ wx.cell? ⟨w.heap.size, 9, none⟩ = some (.int .i64 uN) ∧ wx.cell? ⟨w.heap.size, 10, none⟩ = some (.int .i64 nT) ∧ wx.cell? ⟨w.heap.size, 11, none⟩ = some (.slice b9 bp cf) ∧ wx.cell? ⟨w.heap.size, 12, none⟩ = some (.slice ch bo cj) ∧ wx.cell? ⟨w.heap.size, 13, none⟩ = some (.slice cg aZ.length cm) := fun wx h => ⟨(b0.same h).cell 0, (b0.same h).cell 1, (b0.same h).cell 2, (b0.same h).cell 3, (b0.same h).cell 4, (b0.same h).cell 5, (b0.same h).cell 6, (b0.same h).cell 7, (b0.same h).cell 8, (b0.same h).cell 9, (b0.same h).cell 10, (b0.same h).cell 11, (b0.same h).cell 12, (b0.same h).cell 13⟩
 cases AL with
 | false =>
  simp only [Bool.false_eq_true, if_false]
  go_enter Tryz.func50, Tryz.ntmps50
  go_wp2_with (go_at_call 73; refine (hT _).mono ?_; rintro e w1 ⟨rfl, bg⟩; obtain ⟨z0, z1, z2, z3, z4, z5, z6, z7, z8, z9, pF, pc, pp, pb⟩ := hz w1 bg)
  go_region_with (first
   | (go_at_call 75; refine (hP _).mono ?_; rintro e wp ⟨rfl, jy⟩; have fL := (Kept.drew bg).trans jy; obtain ⟨y0, y1, y2, y3, y4, y5, y6, y7, y8, y9, oO, m9, ov, pu⟩ := hz wp fL)
   | (go_at_call 74; refine (hS _ (ep.trans fL)).mono ?_; rintro e ws ⟨rfl, eR⟩))
  all_goals
   go_wp2
   go_ret
   exact ⟨rfl, (ep.trans fL).trans eR⟩
 | true =>
  simp only [if_true]
  go_enter Tryz.func50, Tryz.ntmps50
  go_wp2_with (go_at_call 73; refine (hT _).mono ?_; rintro e w1 ⟨rfl, bg⟩; obtain ⟨z0, z1, z2, z3, z4, z5, z6, z7, z8, z9, pF, pc, pp, pb⟩ := hz w1 bg)
  go_region_with (first
   | (go_at_call 75; refine (hP _).mono ?_; rintro e wp ⟨rfl, jy⟩; have fL := (Kept.drew bg).trans jy; obtain ⟨y0, y1, y2, y3, y4, y5, y6, y7, y8, y9, oO, m9, ov, pu⟩ := hz wp fL)
   | (go_at_call 74; refine (hS _ (ep.trans fL)).mono ?_; rintro e ws ⟨rfl, eR⟩))
  all_goals
   go_wp2_with (go_at_call 149; refine (hF _ ((ep.trans fL).trans eR)).mono ?_; rintro e wf ⟨rfl, pr⟩)
   go_ret
   exact ⟨rfl, ((ep.trans fL).trans eR).trans pr⟩
end Go.Proofs.YtepdakgfioffgaaGreat
