import Derived.Test.YtepdakgfioffgaaGreatG24
import Derived.Test.YtepdakgfioffgaaGreatG23
import Derived.Test.YtepdakgfioffgaaGreatRecImplA
import Derived.Test.YtepdakgfioffgaaGreatRecImplB
import Derived.Test.YtepdakgfioffgaaGreatRecImplC
import Derived.Test.YtepdakgfioffgaaGreatRecImplD
import Derived.Test.YtepdakgfioffgaaGreatG16
import Derived.Test.YtepdakgfioffgaaGreatG15
import Derived.Test.YtepdakgfioffgaaGreatG14
import Derived.Test.YtepdakgfioffgaaGreatG01
namespace Go.Proofs.YtepdakgfioffgaaGreat
set_option maxRecDepth 100000
set_option maxHeartbeats 16000000
set_option linter.unusedVariables false
set_option linter.unusedSimpArgs false
open Go.RowKit
theorem recI_8 (txn prev page slot : Int) (bU : Bool) (bN : Option Addr) (bO : Nat) (aY : List Int) (aU : Bool) (bH : Option Addr) (bI : Nat) (aX : List Int) (uN nT : Int) (fQ : TypeId) (b9 : Option Addr) (bp cf : Nat) (df : List Int) (fP : TypeId) (ch : Option Addr) (bo cj : Nat) (dj : List Int) (cg : Option Addr) (cm : Nat) (aZ : List Int) (w : World) (iB : IsB aY) (iz : IsB aX) (ij : IsB aZ) (jK : aZ.length ≤ 1099511627776) (fT : Rd .u8 w (.slice bN aY.length bO) aY) (fE : Rd .u8 w (.slice bH aX.length bI) aX) (gY : Rd .u8 w (.slice cg aZ.length cm) aZ) (gw : RdF 4 w ⟨fQ, b9, bp, cf, df⟩) (fG : RdF 2 w ⟨fP, ch, bo, cj, dj⟩) (fX : bp ≤ 1125899906842624) (gK : bo ≤ 1125899906842624) :
  Calls Tryz.prog 50 #[.agg #[.int .i64 8, .int .i64 txn, .int .i64 prev, .int .i64 page, .int .i64 slot, .bool bU, .slice bN aY.length bO, .bool aU, .slice bH aX.length bI, .int .i64 uN, .int .i64 nT, .slice b9 bp cf, .slice ch bo cj, .slice cg aZ.length cm]] w fun e w' => e = .returned (.int .i64 (if alone8 txn prev page slot bU aY aU aX uN nT df dj aZ = true then imgF page aZ else 2)) ∧ Same w w' := by
 have hT := fun wx => typeRecord_8 txn prev page slot bU bN aY.length bO aU bH aX.length bI uN nT b9 bp cf ch bo cj cg aZ.length cm wx
 have hP := fun wx => plainRecord_8 txn prev page slot bU bN aY.length bO aU bH aX.length bI uN nT b9 bp cf ch bo cj cg aZ.length cm wx
 have hS := fun wx (hk : Same w wx) => same_8 txn prev page slot bU bN bO aY aU bH bI aX uN nT fQ b9 bp cf df fP ch bo cj dj cg cm aZ wx iB iz ij (fT.same hk) (fE.same hk) (gY.same hk) (gw.same hk) (fG.same hk) fX gK
 have hF : ∀ wx, Same w wx → Calls Tryz.prog 167 #[.agg #[.int .i64 0, .int .i64 0, .int .i64 page, .slice cg aZ.length cm]] wx fun e w' => e = .returned (.int .i64 (imgF page aZ)) ∧ Same wx w' := fun wx hk => imageFault_any page cg cm aZ wx ij jK (gY.same hk)
 have b0 := Blk.new w #[.int .i64 8, .int .i64 txn, .int .i64 prev, .int .i64 page, .int .i64 slot, .bool bU, .slice bN aY.length bO, .bool aU, .slice bH aX.length bI, .int .i64 uN, .int .i64 nT, .slice b9 bp cf, .slice ch bo cj, .slice cg aZ.length cm] 49
 have ep : Same w (w.alloc (.cells #[.int .i64 8, .int .i64 txn, .int .i64 prev, .int .i64 page, .int .i64 slot, .bool bU, .slice bN aY.length bO, .bool aU, .slice bH aX.length bI, .int .i64 uN, .int .i64 nT, .slice b9 bp cf, .slice ch bo cj, .slice cg aZ.length cm] 49)) := (Kept.refl _ _).alloc _
 generalize alone8 txn prev page slot bU aY aU aX uN nT df dj aZ = AL at *
 generalize imgF page aZ = FA at *
 clear fT fE gY gw fG iB iz ij fX gK jK
 have hz : ∀ (wx : World), Same (w.alloc (.cells #[.int .i64 8, .int .i64 txn, .int .i64 prev, .int .i64 page, .int .i64 slot, .bool bU, .slice bN aY.length bO, .bool aU, .slice bH aX.length bI, .int .i64 uN, .int .i64 nT, .slice b9 bp cf, .slice ch bo cj, .slice cg aZ.length cm] 49)) wx → wx.cell? ⟨w.heap.size, 0, none⟩ = some (.int .i64 8) ∧ wx.cell? ⟨w.heap.size, 1, none⟩ = some (.int .i64 txn) ∧ wx.cell? ⟨w.heap.size, 2, none⟩ = some (.int .i64 prev) ∧ wx.cell? ⟨w.heap.size, 3, none⟩ = some (.int .i64 page) ∧ wx.cell? ⟨w.heap.size, 4, none⟩ = some (.int .i64 slot) ∧ wx.cell? ⟨w.heap.size, 5, none⟩ = some (.bool bU) ∧ wx.cell? ⟨w.heap.size, 6, none⟩ = some (.slice bN aY.length bO) ∧ wx.cell? ⟨w.heap.size, 7, none⟩ = some (.bool aU) ∧ wx.cell? ⟨w.heap.size, 8, none⟩ = some (.slice bH aX.length bI) ∧ wx.cell? ⟨w.heap.size, 9, none⟩ = some (.int .i64 uN) ∧ wx.cell? ⟨w.heap.size, 10, none⟩ = some (.int .i64 nT) ∧ wx.cell? ⟨w.heap.size, 11, none⟩ = some (.slice b9 bp cf) ∧ wx.cell? ⟨w.heap.size, 12, none⟩ = some (.slice ch bo cj) ∧ wx.cell? ⟨w.heap.size, 13, none⟩ = some (.slice cg aZ.length cm) := fun wx h => ⟨(b0.same h).cell 0, (b0.same h).cell 1, (b0.same h).cell 2, (b0.same h).cell 3, (b0.same h).cell 4, (b0.same h).cell 5, (b0.same h).cell 6, (b0.same h).cell 7, (b0.same h).cell 8, (b0.same h).cell 9, (b0.same h).cell 10, (b0.same h).cell 11, (b0.same h).cell 12, (b0.same h).cell 13⟩
 cases AL with
 | false =>
  simp only [Bool.false_eq_true, if_false]
  go_enter Tryz.func50, Tryz.ntmps50
  go_wp2_with (go_at_call 73; refine (hT _).mono ?_; rintro e w1 ⟨rfl, bg⟩; obtain ⟨z0, z1, z2, z3, z4, z5, z6, z7, z8, z9, pF, pc, pp, pb⟩ := hz w1 bg)
  go_region_with (first
   | (go_at_call 75; refine (hP _).mono ?_; rintro e wp ⟨rfl, jy⟩; have fL := (Kept.drew bg).trans jy; obtain ⟨y0, y1, y2, y3, y4, y5, y6, y7, y8, y9, oO, m9, ov, pu⟩ := hz wp fL)
   | (go_at_call 74; refine (hS _ (ep.trans fL)).mono ?_; rintro e ws ⟨rfl, eR⟩))
  all_goals
   go_wp2
   go_ret
   exact ⟨rfl, (ep.trans fL).trans eR⟩
 | true =>
  simp only [if_true]
  go_enter Tryz.func50, Tryz.ntmps50
  go_wp2_with (go_at_call 73; refine (hT _).mono ?_; rintro e w1 ⟨rfl, bg⟩; obtain ⟨z0, z1, z2, z3, z4, z5, z6, z7, z8, z9, pF, pc, pp, pb⟩ := hz w1 bg)
  go_region_with (first
   | (go_at_call 75; refine (hP _).mono ?_; rintro e wp ⟨rfl, jy⟩; have fL := (Kept.drew bg).trans jy; obtain ⟨y0, y1, y2, y3, y4, y5, y6, y7, y8, y9, oO, m9, ov, pu⟩ := hz wp fL)
   | (go_at_call 74; refine (hS _ (ep.trans fL)).mono ?_; rintro e ws ⟨rfl, eR⟩))
  all_goals
   go_wp2_with (go_at_call 167; refine (hF _ ((ep.trans fL).trans eR)).mono ?_; rintro e wf ⟨rfl, pr⟩)
   go_ret
   exact ⟨rfl, ((ep.trans fL).trans eR).trans pr⟩
def recFd (d : Int × Int × Int × Int × Int × (Bool × List Int) × (Bool × List Int) × Int × Int × List Int × List Int × List Int) : Int := recF d.1 d.2.1 d.2.2.1 d.2.2.2.1 d.2.2.2.2.1 d.2.2.2.2.2.1.1 d.2.2.2.2.2.1.2 d.2.2.2.2.2.2.1.1 d.2.2.2.2.2.2.1.2 d.2.2.2.2.2.2.2.1 d.2.2.2.2.2.2.2.2.1 d.2.2.2.2.2.2.2.2.2.1 d.2.2.2.2.2.2.2.2.2.2.1 d.2.2.2.2.2.2.2.2.2.2.2
def StLogRecord.isB (x : StLogRecord) : Prop := IsB x.before.data.bs ∧ IsB x.after.data.bs ∧ IsB x.image.bs
theorem implRec_any (x : StLogRecord) (w : World) (hB : x.isB) (hn : x.szs ≤ 1073741824) (hv : StLogRecord.rd w x) :
  Calls Tryz.prog 50 #[x.val] w fun e w' => e = .returned (.int .i64 (recFd x.dat)) ∧ Same w w' := by
 have hs := hn
 simp only [StLogRecord.szs, StPageRecord.szs] at hs
 have dh := hv.2.2.1.2.1
 have ly := hv.2.2.2.1.2.1
 obtain ⟨kind, txn, prev, page, slot, ⟨bU, ⟨RH, bN, bO, aY⟩⟩, ⟨aU, ⟨R5, bH, bI, aX⟩⟩, uN, nT, ⟨fQ, b9, bp, cf, df⟩, ⟨fP, ch, bo, cj, dj⟩, ⟨Uk, cg, cm, aZ⟩⟩ := x
 dsimp only [StLogRecord.val, StPageRecord.val, BS.v, FR.v, recFd, StLogRecord.dat, StPageRecord.dat, StLogRecord.isB, StLogRecord.rd, StPageRecord.rd] at *
 have e1 : df.length / 4 = bp := by omega
 have e2 : dj.length / 2 = bo := by omega
 have jK : aZ.length ≤ 1099511627776 := by omega
 have fX : bp ≤ 1125899906842624 := by omega
 have gK : bo ≤ 1125899906842624 := by omega
 unfold recF
 by_cases h1 : kind = 1
 ·subst h1
  simp only [if_true]
  exact recI_1 txn prev page slot bU bN bO aY aU bH bI aX uN nT fQ b9 bp cf df fP ch bo cj dj cg cm aZ w hB.1 hB.2.1 hB.2.2 jK hv.1 hv.2.1 hv.2.2.2.2 hv.2.2.1 hv.2.2.2.1 fX gK
 rw [if_neg h1]
 by_cases h2 : kind = 2
 ·subst h2
  rw [if_pos rfl]
  exact recI_2 txn prev page slot bU bN bO aY aU bH bI aX uN nT fQ b9 bp cf df fP ch bo cj dj cg cm aZ w hB.1 hB.2.1 hB.2.2 jK hv.1 hv.2.1 hv.2.2.2.2 hv.2.2.1 hv.2.2.2.1 fX gK
 rw [if_neg h2]
 by_cases h3 : kind = 3
 ·subst h3
  rw [if_pos rfl]
  exact recI_3 txn prev page slot bU bN bO aY aU bH bI aX uN nT fQ b9 bp cf df fP ch bo cj dj cg cm aZ w hB.1 hB.2.1 hB.2.2 jK hv.1 hv.2.1 hv.2.2.2.2 hv.2.2.1 hv.2.2.2.1 fX gK
 rw [if_neg h3]
 by_cases h4 : kind = 4
 ·subst h4
  rw [if_pos rfl]
  exact recI_4 txn prev page slot bU bN bO aY aU bH bI aX uN nT fQ b9 bp cf df fP ch bo cj dj cg cm aZ w hB.1 hB.2.1 hB.2.2 jK hv.1 hv.2.1 hv.2.2.2.2 hv.2.2.1 hv.2.2.2.1 fX gK
 rw [if_neg h4]
 by_cases h5 : kind = 5
 ·subst h5
  rw [if_pos rfl]
  exact recI_5 txn prev page slot bU bN bO aY aU bH bI aX uN nT fQ b9 bp cf df fP ch bo cj dj cg cm aZ w hB.1 hB.2.1 hB.2.2 jK hv.1 hv.2.1 hv.2.2.2.2 hv.2.2.1 hv.2.2.2.1 fX gK
 rw [if_neg h5]
 by_cases h6 : kind = 6
 ·subst h6
  rw [if_pos rfl]
  exact recI_6 txn prev page slot bU bN bO aY aU bH bI aX uN nT fQ b9 bp cf df fP ch bo cj dj cg cm aZ w hB.1 hB.2.1 hB.2.2 jK hv.1 hv.2.1 hv.2.2.2.2 hv.2.2.1 hv.2.2.2.1 fX gK
 rw [if_neg h6]
 by_cases h7 : kind = 7
 ·subst h7
  rw [if_pos rfl]
  exact recI_7 txn prev page slot bU bN bO aY aU bH bI aX uN nT fQ b9 bp cf df fP ch bo cj dj cg cm aZ w hB.1 hB.2.1 hB.2.2 jK hv.1 hv.2.1 hv.2.2.2.2 hv.2.2.1 hv.2.2.2.1 fX gK
 rw [if_neg h7]
 by_cases h8 : kind = 8
 ·subst h8
  rw [if_pos rfl]
  exact recI_8 txn prev page slot bU bN bO aY aU bH bI aX uN nT fQ b9 bp cf df fP ch bo cj dj cg cm aZ w hB.1 hB.2.1 hB.2.2 jK hv.1 hv.2.1 hv.2.2.2.2 hv.2.2.1 hv.2.2.2.1 fX gK
 rw [if_neg h8]
 exact recI_0 kind txn prev page slot bU bN bO aY aU bH bI aX uN nT fQ b9 bp cf df fP ch bo cj dj cg cm aZ w h1 h2 h3 h4 h5 h6 h7 h8
theorem specRec_any (x : StLogRecord) (w : World) (hB : x.isB) (hn : x.szs ≤ 1073741824) (hv : StLogRecord.rd w x) :
  Calls Tryz.prog 17 #[x.val] w fun e w' => e = .returned (.int .i64 (recFd x.dat)) ∧ Same w w' := by
 have hs := hn
 simp only [StLogRecord.szs, StPageRecord.szs] at hs
 have dh := hv.2.2.1.2.1
 have ly := hv.2.2.2.1.2.1
 obtain ⟨kind, txn, prev, page, slot, ⟨bU, ⟨RH, bN, bO, aY⟩⟩, ⟨aU, ⟨R5, bH, bI, aX⟩⟩, uN, nT, ⟨fQ, b9, bp, cf, df⟩, ⟨fP, ch, bo, cj, dj⟩, ⟨Uk, cg, cm, aZ⟩⟩ := x
 dsimp only [StLogRecord.val, StPageRecord.val, BS.v, FR.v, recFd, StLogRecord.dat, StPageRecord.dat, StLogRecord.isB, StLogRecord.rd, StPageRecord.rd] at *
 have e1 : df.length / 4 = bp := by omega
 have e2 : dj.length / 2 = bo := by omega
 have jK : aZ.length ≤ 1099511627776 := by omega
 have fX : bp ≤ 1125899906842624 := by omega
 have gK : bo ≤ 1125899906842624 := by omega
 unfold recF
 by_cases h1 : kind = 1
 ·subst h1
  simp only [if_true]
  rw [← eqK_1 txn prev page slot uN nT bU aU aY aX aZ df dj bp bo e1 e2]
  exact specT_1 txn prev page slot bU bN bO aY aU bH bI aX uN nT fQ b9 bp cf df fP ch bo cj dj cg cm aZ w hB.1 hB.2.1 hB.2.2 jK hv.1 hv.2.1 hv.2.2.2.2 hv.2.2.1 hv.2.2.2.1 fX gK
 rw [if_neg h1]
 by_cases h2 : kind = 2
 ·subst h2
  rw [if_pos rfl]
  rw [← eqK_2 txn prev page slot uN nT bU aU aY aX aZ df dj bp bo e1 e2]
  exact specT_2 txn prev page slot bU bN bO aY aU bH bI aX uN nT fQ b9 bp cf df fP ch bo cj dj cg cm aZ w hB.1 hB.2.1 hB.2.2 jK hv.1 hv.2.1 hv.2.2.2.2 hv.2.2.1 hv.2.2.2.1 fX gK
 rw [if_neg h2]
 by_cases h3 : kind = 3
 ·subst h3
  rw [if_pos rfl]
  rw [← eqK_3 txn prev page slot uN nT bU aU aY aX aZ df dj bp bo e1 e2]
  exact specT_3 txn prev page slot bU bN bO aY aU bH bI aX uN nT fQ b9 bp cf df fP ch bo cj dj cg cm aZ w hB.1 hB.2.1 hB.2.2 jK hv.1 hv.2.1 hv.2.2.2.2 hv.2.2.1 hv.2.2.2.1 fX gK
 rw [if_neg h3]
 by_cases h4 : kind = 4
 ·subst h4
  rw [if_pos rfl]
  rw [← eqK_4 txn prev page slot uN nT bU aU aY aX aZ df dj bp bo e1 e2]
  exact specT_4 txn prev page slot bU bN bO aY aU bH bI aX uN nT fQ b9 bp cf df fP ch bo cj dj cg cm aZ w hB.1 hB.2.1 hB.2.2 jK hv.1 hv.2.1 hv.2.2.2.2 hv.2.2.1 hv.2.2.2.1 fX gK
 rw [if_neg h4]
 by_cases h5 : kind = 5
 ·subst h5
  rw [if_pos rfl]
  rw [← eqK_5 txn prev page slot uN nT bU aU aY aX aZ df dj bp bo e1 e2]
  exact specT_5 txn prev page slot bU bN bO aY aU bH bI aX uN nT fQ b9 bp cf df fP ch bo cj dj cg cm aZ w hB.1 hB.2.1 hB.2.2 jK hv.1 hv.2.1 hv.2.2.2.2 hv.2.2.1 hv.2.2.2.1 fX gK
 rw [if_neg h5]
 by_cases h6 : kind = 6
 ·subst h6
  rw [if_pos rfl]
  rw [← eqK_6 txn prev page slot uN nT bU aU aY aX aZ df dj bp bo e1 e2]
  exact specT_6 txn prev page slot bU bN bO aY aU bH bI aX uN nT fQ b9 bp cf df fP ch bo cj dj cg cm aZ w hB.1 hB.2.1 hB.2.2 jK hv.1 hv.2.1 hv.2.2.2.2 hv.2.2.1 hv.2.2.2.1 fX gK
 rw [if_neg h6]
 by_cases h7 : kind = 7
 ·subst h7
  rw [if_pos rfl]
  rw [← eqK_7 txn prev page slot uN nT bU aU aY aX aZ df dj bp bo e1 e2]
  exact specT_7 txn prev page slot bU bN bO aY aU bH bI aX uN nT fQ b9 bp cf df fP ch bo cj dj cg cm aZ w hB.1 hB.2.1 hB.2.2 jK hv.1 hv.2.1 hv.2.2.2.2 hv.2.2.1 hv.2.2.2.1 fX gK
 rw [if_neg h7]
 by_cases h8 : kind = 8
 ·subst h8
  rw [if_pos rfl]
  rw [← eqK_8 txn prev page slot uN nT bU aU aY aX aZ df dj bp bo e1 e2]
  exact specT_8 txn prev page slot bU bN bO aY aU bH bI aX uN nT fQ b9 bp cf df fP ch bo cj dj cg cm aZ w hB.1 hB.2.1 hB.2.2 jK hv.1 hv.2.1 hv.2.2.2.2 hv.2.2.1 hv.2.2.2.1 fX gK
 rw [if_neg h8]
 exact recS_0 kind txn prev page slot bU bN bO aY aU bH bI aX uN nT fQ b9 bp cf df fP ch bo cj dj cg cm aZ w (by unfold inB; simp only [Bool.and_eq_false_iff, decide_eq_false_iff_not]; omega)
def strayD (p : StLogFrame) : Bool := decide (p.lsn < 512) || (decide (1099511627776 < p.lsn) || decide (recFd p.record.dat ≠ 0))
theorem stray_any (p : StLogFrame) (w : World) (hB : p.record.isB) (hn : p.record.szs ≤ 1073741824) (hv : StLogRecord.rd w p.record) :
  Calls Tryz.prog 25 #[frV p] w fun e w' => e = .returned (.bool (strayD p)) ∧ Same w w' := by
 unfold strayD frV
 obtain ⟨hb, hk⟩ := newBox w (kFr.cells p) 51
 have kf := fun wx qZ => implRec_any p.record wx hB hn (hv.same qZ)
 have qK : p.record.val = .agg (recCells p.record).toArray := rfl
 rw [qK] at kf
 have c0 : (w.alloc (.cells (kFr.cells p).toArray 51)).cell? ⟨w.heap.size, 0, none⟩ = some (.int .i64 p.lsn) := by rw [hb.cell]; rfl
 have AG : (w.alloc (.cells (kFr.cells p).toArray 51)).rangeAt w.heap.size 2 (recCells p.record) := fun j v hj => by
  rw [hb.cell, ← hj]
  have : j < 14 := by have := (List.getElem?_eq_some_iff.1 hj).1; simpa [recCells] using this
  rw [Nat.add_comm]
  simp [kFr, StLogFrame.cells, recCells]
 obtain ⟨cs, dY⟩ : ∃ cs, recCells p.record = cs := ⟨_, rfl⟩
 have j7 : cs.length = 14 := by rw [← dY]; rfl
 obtain ⟨ds, lR⟩ : ∃ ds, kFr.cells p = ds := ⟨_, rfl⟩
 obtain ⟨R, hR⟩ : ∃ R, recFd p.record.dat = R := ⟨_, rfl⟩
 obtain ⟨l, hl⟩ : ∃ l, p.lsn = l := ⟨_, rfl⟩
 rw [dY, hR] at kf
 rw [dY, lR] at AG
 rw [hl, lR] at c0
 rw [lR] at hk ⊢
 rw [hl, hR]
 have gW := hid AG
 have HI : Hid ((Tryz.prog.info? 49).map (·.size) = some cs.length) := by unfold Hid; rw [j7]; kernel_rfl
 have HK := hid hk
 clear AG hk hb qK dY lR hR hl j7 hB hn hv
 by_cases h1 : l < 512
 ·go_enter Tryz.func25, Tryz.ntmps25
  go_wp2
  go_ret
  exact ⟨by simp [h1], HK.out⟩
 ·by_cases h2 : 1099511627776 < l
  ·go_enter Tryz.func25, Tryz.ntmps25
   go_wp2
   go_ret
   exact ⟨by simp [h2], HK.out⟩
  ·have k1 := kf _ HK.out
   clear kf
   go_enter Tryz.func25, Tryz.ntmps25
   go_wp2_with (refine BigFrame.wpList_want (by rfl) (fun K hK => wp_load_mid 49 _ rfl w.heap.size 2 rfl cs _ gW.out Tryz.underlying49 rfl HI.out (hK _ _ ?_)))
   refine k1.mono ?_
   rintro e w1 ⟨rfl, hk⟩
   have bq := hid (HK.out.trans hk)
   clear hk k1
   by_cases h3 : R = 0
   ·go_wp2
    go_ret
    exact ⟨by simp [h1, h2, h3], bq.out⟩
   ·have Od : (R == 0) = false := by simp [h3]
    go_wp2
    go_ret
    exact ⟨by simp [h1, h2, h3], bq.out⟩
theorem enters_stf : EntersU 25 := fun args wx => by simp [callFunc, go_sem, Tryz.func25, Tryz.f25]
theorem anyF_no {f : StLogFrame → Bool} {ps : List StLogFrame} (h : ∀ (k : Nat) (hk : k < ps.length), f ps[k] = false) : ps.any f = false := by
 rw [List.any_eq_false]
 intro x hx
 obtain ⟨k, hk, rfl⟩ := List.getElem_of_mem hx
 rw [h k hk]
 simp
theorem indexS_any (va : Option Addr) (vc L : Nat) (ps : List StLogFrame) (w : World) (hL : ps.length = L) (rU : ∀ p ∈ ps, p.record.isB ∧ p.record.szs ≤ 1073741824) (hv : RdFr w (.slice va L vc) ps) :
  Calls Tryz.prog 49 #[.slice va L vc, .func (.func 25) #[] #[]] w fun e w' => ∃ i : Int, e = .returned (.int .i64 i) ∧ Hid (decide (0 ≤ i) = ps.any strayD) ∧ Same w w' := by
 have hm : ps.length ≤ maxLen := hv.row.max
 unfold maxLen at hm
 rw [hL] at hm
 have HV := hid hv
 have HL := hid hL
 have mU := hid rU
 clear hv hL rU
 have DF : ∀ (args : Array Value) (wx : World), (callFunc 25 args).run Tryz.prog wx = .ok (.enter 25 args) wx := enters_stf
 go_enter Tryz.func49, Tryz.ntmps49
 go_wp2_with fail
 go_loopw [8] (fun i wr => ∃ k : Nat, k ≤ L ∧ i = .int .i64 k ∧ Hid (∀ (j : Nat) (hj : j < ps.length), j < k → strayD ps[j] = false) ∧ Hid (Same w wr)) (fun i _ => L - (intOf i).toNat)
 case atStart => exact ⟨0, Nat.zero_le _, rfl, fun j hj h => by omega, Kept.refl _ _⟩
 case round =>
  obtain ⟨k, hk, rfl, HA, HK⟩ := hrel
  by_cases dh : k < L
  ·obtain ⟨b, off, ha, hc⟩ := RdFr.cs HL.out HV.out (show 0 < L by omega)
   subst ha
   have lD : k < ps.length := by rw [HL.out]; omega
   have zx := (hc.same HK.out).row k lD
   obtain ⟨o1, o2⟩ := mU.out ps[k] (List.getElem_mem lD)
   have kf := stray_any ps[k] wr o1 o2 ((HV.out.same HK.out).data ps[k] (List.getElem_mem lD))
   dsimp only [frV] at kf
   obtain ⟨cs, dY⟩ : ∃ cs, kFr.cells ps[k] = cs := ⟨_, rfl⟩
   have j7 : cs.length = 16 := by rw [← dY]; exact kFr.len _
   rw [dY] at zx kf
   have gW := hid zx
   have HI : Hid ((Tryz.prog.info? 51).map (·.size) = some cs.length) := by unfold Hid; rw [j7]; kernel_rfl
   have jj : (k : Int) < (L : Int) := by omega
   clear dY j7 zx hc o1 o2
   cases hb : strayD ps[k] with
   | true =>
    rw [hb] at kf
    have HE : Hid (ps.any strayD = true) := List.any_eq_true.2 ⟨_, List.getElem_mem lD, hb⟩
    clear HA hb
    go_wp2_with (refine wpList_load_mid rfl 51 _ rfl b (off + k * 16) rfl cs _ gW.out Tryz.underlying51 rfl HI.out ?_)
    refine kf.mono ?_
    rintro e w1 ⟨rfl, bg⟩
    have bq := hid (HK.out.trans bg)
    go_wp2
    go_ret
    exact ⟨(k : Int), rfl, by rw [HE.out]; exact decide_eq_true (by omega), bq.out⟩
   | false =>
    rw [hb] at kf
    have fJ : Hid (∀ (j : Nat) (hj : j < ps.length), j < k + 1 → strayD ps[j] = false) := fun j hj h => by
     by_cases EQ : j < k
     ·exact HA.out j hj EQ
     ·obtain rfl : j = k := by omega
      exact hb
    clear HA hb
    go_wp2_with (refine wpList_load_mid rfl 51 _ rfl b (off + k * 16) rfl cs _ gW.out Tryz.underlying51 rfl HI.out ?_)
    refine kf.mono ?_
    rintro e w1 ⟨rfl, bg⟩
    have bq := hid (HK.out.trans bg)
    clear bg
    go_wp2
    go_roundw
    case rel => exact ⟨k + 1, by omega, by go_num, fJ, bq⟩
    case measure => simp [intOf]; omega
  ·go_wp2
   go_ret
   exact ⟨-1, rfl, by rw [anyF_no (f := strayD) (fun i hi => HA.out i hi (by have := HL.out; omega))]; rfl, HK.out⟩
theorem containsS_any (va : Option Addr) (vc L : Nat) (ps : List StLogFrame) (w : World) (hL : ps.length = L) (rU : ∀ p ∈ ps, p.record.isB ∧ p.record.szs ≤ 1073741824) (hv : RdFr w (.slice va L vc) ps) :
  Calls Tryz.prog 24 #[.slice va L vc, .func (.func 25) #[] #[]] w fun e w' => e = .returned (.bool (ps.any strayD)) ∧ Same w w' := by
 have k0 := indexS_any va vc L ps w hL rU hv
 clear hv hL rU
 go_enter Tryz.func24, Tryz.ntmps24
 go_wp2_with fail
 refine k0.mono ?_
 rintro e w1 ⟨i, rfl, hi, bg⟩
 go_wp2
 go_ret
 exact ⟨by rw [← hi.out]; rfl, bg⟩
theorem rec_tab {txn prev page slot un nt : Int} {bu au : Bool} {bb ab tx dy im : List Int} (h : recF 7 txn prev page slot bu bb au ab un nt tx dy im = 0) : (1 ≤ nt ∧ nt ≤ 2147483648) ∧ allTxns tx (tx.length / 4) = true ∧ allDirty dy (dy.length / 2) = true := by
 unfold recF at h
 rw [if_neg (by omega), if_neg (by omega), if_neg (by omega), if_neg (by omega), if_neg (by omega), if_neg (by omega), if_pos rfl] at h
 split at h
 ·unfold tabF at h
  split at h
  ·rename_i h1
   simp only [Bool.and_eq_true] at h1
   exact ⟨⟨of_decide_eq_true h1.1.1.1, of_decide_eq_true h1.1.1.2⟩, h1.1.2, h1.2⟩
  ·omega
 ·omega
abbrev FD := Int × Int × (Int × Int × Int × Int × Int × (Bool × List Int) × (Bool × List Int) × Int × Int × List Int × List Int × List Int)
def duo : List Int → List (Int × Int)
 | a :: b :: r => (a, b) :: duo r
 | _ => []
theorem flat2_duo : ∀ (n : Nat) (bs : List Int), bs.length = n * 2 → flat2 (duo bs) = bs
 | 0, bs, h => by
  obtain rfl : bs = [] := List.length_eq_zero_iff.1 (by omega)
  rfl
 | n + 1, bs, h => by
  match bs, h with
  | a :: b :: r, h => simp only [duo, flat2, flat2_duo n r (by simp at h; omega)]
  | [a], h => simp at h; omega
  | [], h => simp at h
def d6 (d : FD) : F6 := (d.1, d.2.2.1, d.2.2.2.1, d.2.2.2.2.1, d.2.2.2.2.2.1, d.2.2.2.2.2.2.2.2.2.1)
def d1 (d : FD) : F5 := (d.1, d.2.2.1, d.2.2.2.1, d.2.2.2.2.1, d.2.2.2.2.2.2.2.2.2.1)
def dStray (d : FD) : Bool := decide (d.1 < 512) || (decide (1099511627776 < d.1) || decide (recFd d.2.2 ≠ 0))
def dTab (d : FD) : AzS := ⟨d.2.2.2.2.2.2.2.2.2.2.1, quad d.2.2.2.2.2.2.2.2.2.2.2.1, duo d.2.2.2.2.2.2.2.2.2.2.2.2.1, []⟩
theorem d6_dat (p : StLogFrame) : d6 p.dat = f6 p := rfl
theorem d1_dat (p : StLogFrame) : d1 p.dat = f5 p := rfl
theorem dStray_dat (p : StLogFrame) : dStray p.dat = strayD p := rfl
theorem fs6_dat (ps : List StLogFrame) : (datFr ps).map d6 = fs6 ps := by simp [datFr, fs6, List.map_map, Function.comp_def, d6_dat]
theorem fs5_dat (ps : List StLogFrame) : (datFr ps).map d1 = fs5 ps := by simp [datFr, fs5, List.map_map, Function.comp_def, d1_dat]
theorem stray_dat (ps : List StLogFrame) : (datFr ps).any dStray = ps.any strayD := by simp [datFr, List.any_map, Function.comp_def, dStray_dat]
abbrev AzR := Int × Int × Int × Int × List Int × List Int × List Int
def azBad (c : Int) : AzR := (c, 0, 0, 0, [], [], [])
def azAns (ds : List FD) (en c : Int) : AzR :=
 match bgAt (ds.map d6) c with
 | none => azBad 1
 | some k =>
  if (ds.any dStray || nbg fAfter (ds.map d1)) = true then azBad 2
  else
   match azF (dTab (ds.getD (k + 1) zFr.dat)) (((ds.map d6).take (kpN (ds.map d6) (k + 2) ds.length)).drop (k + 2)) with
   | none => azBad 2
   | some s => (0, (kpN (ds.map d6) (k + 2) ds.length : Nat), if kpN (ds.map d6) (k + 2) ds.length < ds.length then (ds.getD (kpN (ds.map d6) (k + 2) ds.length) zFr.dat).1 else en, s.nx, flat4 s.tx, flat2 s.dy, s.im)
theorem dTab_ok {p : StLogFrame} (hs : strayD p = false) (hk : p.record.kind = 7) (h4 : ∃ n, p.record.txns.bs.length = n * 4) (h2 : ∃ n, p.record.dirty.bs.length = n * 2) : AzOk (dTab p.dat) := by
 unfold strayD at hs
 simp only [Bool.or_eq_false_iff, decide_eq_false_iff_not, Decidable.not_not] at hs
 have h := hs.2.2
 unfold recFd at h
 have qZ : p.record.dat.1 = 7 := hk
 rw [qZ] at h
 obtain ⟨_, ht, hd⟩ := rec_tab h
 obtain ⟨n, hn⟩ := h4
 obtain ⟨m, hm⟩ := h2
 have e4 := flat4_quad n _ hn
 have e2 := flat2_duo m _ hm
 have l4 : (quad p.record.txns.bs).length = n := quad_length n _ hn
 have l2 : (duo p.record.dirty.bs).length = m := by have := flat2_length (duo p.record.dirty.bs); rw [e2, hm] at this; omega
 have zu : allTxns p.record.txns.bs (p.record.txns.bs.length / 4) = true := ht
 have yC : allDirty p.record.dirty.bs (p.record.dirty.bs.length / 2) = true := hd
 rw [hn, Nat.mul_div_cancel _ (by omega)] at zu
 rw [hm, Nat.mul_div_cancel _ (by omega)] at yC
 have ut := txns_up (ls := quad p.record.txns.bs) (by rw [e4, l4]; exact zu)
 have ud := dirty_up (ls := duo p.record.dirty.bs) (by rw [e2, l2]; exact yC)
 exact ⟨ut.1, ud, List.Pairwise.nil, ut.2⟩
structure GF (f : F6) : Prop where
 kind : 1 ≤ f.2.1 ∧ f.2.1 ≤ 8
 txn : f.2.1 ≤ 5 → 1 ≤ f.2.2.1 ∧ f.2.2.1 ≤ 2147483647
 page : f.2.1 ≤ 2 ∨ f.2.1 = 8 → 0 ≤ f.2.2.2.2.1 ∧ f.2.2.2.2.1 ≤ 15
theorem place_page {page slot : Int} (h : placeF page slot = 0) : 0 ≤ page ∧ page ≤ 15 := by
 unfold placeF at h
 cases e : isPageB page with
 | true => unfold isPageB at e; simp at e; omega
 | false => simp [e] at h
theorem img_page {page : Int} {im : List Int} (h : imgF page im = 0) : 0 ≤ page ∧ page ≤ 15 := by
 unfold imgF at h
 cases e : isPageB page with
 | true => unfold isPageB at e; simp at e; omega
 | false => simp [e] at h
theorem orF_zero2 {a b c : Int} (h : orF a b c = 0) : b = 0 := by
 unfold orF at h
 split at h
 ·omega
 ·split at h <;> omega
theorem rec_page {kind txn prev page slot un nt : Int} {bu au : Bool} {bb ab tx dy im : List Int} (h : recF kind txn prev page slot bu bb au ab un nt tx dy im = 0) (hk : kind ≤ 2 ∨ kind = 8) : 0 ≤ page ∧ page ≤ 15 := by
 have h0 := rec_kind h
 unfold recF at h
 split at h
 ·split at h
  ·exact place_page (orF_zero2 h)
  ·omega
 split at h
 ·split at h
  ·exact place_page (orF_zero2 h)
  ·omega
 split at h
 ·omega
 split at h
 ·omega
 split at h
 ·omega
 split at h
 ·omega
 split at h
 ·omega
 split at h
 ·split at h
  ·exact img_page h
  ·omega
 ·omega
theorem stray_rec {p : StLogFrame} (h : strayD p = false) : recFd p.record.dat = 0 := by
 unfold strayD at h
 simp only [Bool.or_eq_false_iff, decide_eq_false_iff_not, Decidable.not_not] at h
 exact h.2.2
theorem stray_GF {p : StLogFrame} (h : strayD p = false) : GF (f6 p) := by
 have h1 := stray_rec h
 unfold recFd at h1
 exact ⟨rec_kind h1, rec_txn h1, rec_page h1⟩
structure AzB (s : AzS) : Prop where
 tx : ∀ x ∈ s.tx, 1 ≤ kQ x ∧ kQ x ≤ 2147483647
 dy : ∀ x ∈ s.dy, 0 ≤ kD x ∧ kD x ≤ 15
 im : ∀ x ∈ s.im, 0 ≤ kI x ∧ kI x ≤ 15
theorem Up.len16 {α : Type} {key : α → Int} {l : List α} (h : Up key l) (hb : ∀ x ∈ l, 0 ≤ key x ∧ key x ≤ 15) : l.length ≤ 16 := by
 have hs : ∀ (i : Nat) (hi : i < l.length), (i : Int) ≤ key l[i] := by
  intro i
  induction i with
  | zero => intro hi; exact (hb _ (List.getElem_mem hi)).1
  | succ i ih =>
   intro hi
   have h1 := ih (by omega)
   have h2 := List.pairwise_iff_getElem.1 h i (i + 1) (by omega) hi (by omega)
   omega
 rcases Nat.lt_or_ge 16 l.length with h1 | h1
 ·have h2 := hs 16 h1
  have h3 := (hb _ (List.getElem_mem h1)).2
  omega
 ·exact h1
theorem mem_setK {α : Type} {key : α → Int} {k : Int} {g : α → α} {l : List α} {x : α} (h : x ∈ setK key k g l) : ∃ y ∈ l, x = y ∨ x = g y := by
 unfold setK at h
 obtain ⟨y, hy, rfl⟩ := List.mem_map.1 h
 refine ⟨y, hy, ?_⟩
 split
 ·exact .inr rfl
 ·exact .inl rfl
theorem mem_addD {e x : Int × Int} {l : List (Int × Int)} (h : x ∈ addD e l) : x = e ∨ x ∈ l := by
 unfold addD at h
 split at h
 ·exact .inr h
 ·exact insK_mem.1 h
theorem mem_addI {e x : Int} {l : List Int} (h : x ∈ addI e l) : x = e ∨ x ∈ l := by
 unfold addI at h
 split at h
 ·exact .inr h
 ·exact insK_mem.1 h
theorem azT_b {s s' : AzS} {f : F6} (hb : AzB s) (hf : GF f) (ht : azT s f = some s') : AzB s' := by
 obtain ⟨h1, h2, h3⟩ := hb
 have hk := hf.kind
 unfold azT at ht
 split at ht
 ·rename_i e8
  cases ht
  exact ⟨h1, h2, fun x hx => by rcases mem_addI hx with rfl | hx; (exact hf.page (.inr e8)); exact h3 x hx⟩
 split at ht
 ·cases ht; exact ⟨h1, h2, h3⟩
 rename_i E9 UU
 have RG := hf.txn (by omega)
 split at ht
 ·split at ht
  ·cases ht
  ·cases ht
   refine ⟨?_, ?_, h3⟩
   ·dsimp only
    split
    ·exact fun x hx => h1 x (List.mem_filter.1 hx).1
    ·intro x hx
     obtain ⟨y, hy, rfl | rfl⟩ := mem_setK hx
     ·exact h1 _ hy
     ·exact h1 y hy
   ·dsimp only
    split
    ·rename_i Rm
     exact fun x hx => by rcases mem_addD hx with rfl | hx; (exact hf.page (.inl Rm)); exact h2 x hx
    ·exact h2
 ·split at ht
  ·cases ht
  ·rename_i hc
   cases ht
   refine ⟨fun x hx => ?_, fun x hx => ?_, h3⟩
   ·rcases insK_mem.1 hx with rfl | hx
    ·exact RG
    ·exact h1 x hx
   ·rcases mem_addD hx with rfl | hx
    ·exact hf.page (.inl (by omega))
    ·exact h2 x hx
theorem azF_b {s s' : AzS} {fs : List F6} (hb : AzB s) (hf : ∀ f ∈ fs, GF f) (ht : azF s fs = some s') : AzB s' := by
 induction fs generalizing s with
 | nil => simp only [azF] at ht; cases ht; exact hb
 | cons g fs ih =>
  simp only [azF] at ht
  cases e : azT s g with
  | none => rw [e] at ht; simp at ht
  | some s1 => rw [e] at ht; exact ih (azT_b hb (hf g List.mem_cons_self) e) (fun x hx => hf x (List.mem_cons_of_mem _ hx)) ht
theorem dTab_b {p : StLogFrame} (hs : strayD p = false) (hk : p.record.kind = 7) (h4 : ∃ n, p.record.txns.bs.length = n * 4) (h2 : ∃ n, p.record.dirty.bs.length = n * 2) : AzB (dTab p.dat) := by
 have h := stray_rec hs
 unfold recFd at h
 have qZ : p.record.dat.1 = 7 := hk
 rw [qZ] at h
 obtain ⟨_, ht, hd⟩ := rec_tab h
 obtain ⟨n, hn⟩ := h4
 obtain ⟨m, hm⟩ := h2
 have e4 := flat4_quad n _ hn
 have e2 := flat2_duo m _ hm
 have l4 : (quad p.record.txns.bs).length = n := quad_length n _ hn
 have l2 : (duo p.record.dirty.bs).length = m := by have := flat2_length (duo p.record.dirty.bs); rw [e2, hm] at this; omega
 have zu : allTxns p.record.txns.bs (p.record.txns.bs.length / 4) = true := ht
 have yC : allDirty p.record.dirty.bs (p.record.dirty.bs.length / 2) = true := hd
 rw [hn, Nat.mul_div_cancel _ (by omega)] at zu
 rw [hm, Nat.mul_div_cancel _ (by omega)] at yC
 refine ⟨fun x hx => ?_, fun x hx => ?_, fun x hx => by simp [dTab] at hx⟩
 ·have pQ : x ∈ quad p.record.txns.bs := hx
  obtain ⟨k, hk, rfl⟩ := List.getElem_of_mem pQ
  unfold allTxns at zu
  simp only [Bool.and_eq_true, decide_eq_true_eq, List.all_eq_true, List.mem_range] at zu
  have h1 := zu.2 k (by omega)
  have h3 := (flat4_at (quad p.record.txns.bs) k hk).1
  rw [e4, getD_at hk] at h3
  unfold atTxns oneTxns at h1
  rw [h3] at h1
  simp [isTxnB] at h1
  show 1 ≤ ((quad p.record.txns.bs)[k]).1 ∧ ((quad p.record.txns.bs)[k]).1 ≤ 2147483647
  omega
 ·have pQ : x ∈ duo p.record.dirty.bs := hx
  obtain ⟨k, hk, rfl⟩ := List.getElem_of_mem pQ
  unfold allDirty at yC
  simp only [Bool.and_eq_true, decide_eq_true_eq, List.all_eq_true, List.mem_range] at yC
  have h1 := yC.2 k (by omega)
  have h3 := (flat2_at (duo p.record.dirty.bs) k hk).1
  rw [e2, getD_kD hk] at h3
  unfold atDirty oneDirty at h1
  rw [h3] at h1
  simp [isPageB] at h1
  show 0 ≤ ((duo p.record.dirty.bs)[k]).1 ∧ ((duo p.record.dirty.bs)[k]).1 ≤ 15
  omega
theorem azT_img {s : AzS} {f : F6} (h : f.2.1 = 8) : azT s f = some { s with im := addI f.2.2.2.2.1 s.im } := by unfold azT; rw [if_pos h]
theorem azT_ck {s : AzS} {f : F6} (h : f.2.1 = 6 ∨ f.2.1 = 7) : azT s f = some s := by unfold azT; rw [if_neg (by omega), if_pos (by omega)]
theorem azT_miss {s : AzS} {f : F6} (h5 : f.2.1 ≤ 5) (hn : ∀ x ∈ s.tx, kQ x ≠ f.2.2.1) (hc : 2 < f.2.1 ∨ 8 ≤ s.tx.length) : azT s f = none := by
 have hg : getK kQ f.2.2.1 s.tx = none := getK_none.2 hn
 unfold azT
 rw [if_neg (by omega), if_neg (by omega), hg]
 dsimp only
 rw [if_pos]
 rcases hc with h | h
 ·exact .inl h
 ·exact .inr (.inl h)
def azV (s : AzS) (f : F6) (pre post : List Q4) (q : Q4) : Option AzS :=
 if q.2.2.1 ≠ f.2.2.2.1 ∨ (f.2.1 = 2 ∧ f.1 ≤ f.2.2.2.2.2) then none
 else some ⟨max s.nx (f.2.2.1 + 1), if f.2.1 = 5 then pre ++ post else pre ++ azU f.2.1 f.1 f.2.2.2.2.2 q :: post, if f.2.1 ≤ 2 then addD (f.2.2.2.2.1, f.1) s.dy else s.dy, s.im⟩
theorem azT_hit {s : AzS} {f : F6} {pre post : List Q4} {q : Q4} (h5 : f.2.1 ≤ 5) (hu : Up kQ s.tx) (e : s.tx = pre ++ q :: post) (hp : ∀ x ∈ pre, kQ x ≠ f.2.2.1) (hq : kQ q = f.2.2.1) : azT s f = azV s f pre post q := by
 have hg : getK kQ f.2.2.1 s.tx = some q := by rw [e]; exact getK_mid hp hq
 rw [e] at hu
 unfold azT azV
 rw [if_neg (by omega), if_neg (by omega), hg]
 dsimp only
 split
 ·rfl
 ·rw [e, delK_mid hu hp hq, setK_mid hu hp hq]
theorem ins_split {tx : List Q4} {u : Q4} {pre post : List Q4} {q : Q4} (hn : ∀ x ∈ tx, kQ x ≠ kQ u) (e : insK kQ u tx = pre ++ q :: post) (hp : ∀ x ∈ pre, kQ x ≠ kQ u) (hq : kQ q = kQ u) : q = u ∧ ∀ v, kQ v = kQ u → insK kQ v tx = pre ++ v :: post := by
 induction tx generalizing pre with
 | nil =>
  have e : [u] = pre ++ q :: post := e
  cases pre with
  | nil =>
   injection e with e1 e2
   subst e1 e2
   exact ⟨rfl, fun v hv => rfl⟩
  | cons a pre =>
   have := congrArg List.length e
   simp at this
 | cons x tx ih =>
  unfold insK at e
  split at e
  ·rename_i dh
   cases pre with
   | nil =>
    injection e with e1 e2
    subst e1
    refine ⟨rfl, fun v hv => ?_⟩
    unfold insK
    rw [if_pos (by rw [hv]; exact dh), e2]
    rfl
   | cons a pre =>
    injection e with e1 e2
    exact absurd (by rw [← e1]) (hp a List.mem_cons_self)
  ·rename_i dh
   cases pre with
   | nil =>
    injection e with e1 e2
    exact absurd (by rw [e1]; exact hq) (hn x List.mem_cons_self)
   | cons a pre =>
    injection e with e1 e2
    obtain ⟨h1, h2⟩ := ih (fun y hy => hn y (List.mem_cons_of_mem _ hy)) e2 (fun y hy => hp y (List.mem_cons_of_mem _ hy))
    refine ⟨h1, fun v hv => ?_⟩
    unfold insK
    rw [if_neg (by rw [hv]; exact dh), h2 v hv, e1]
    rfl
theorem azT_new {s : AzS} {f : F6} {pre post : List Q4} {q : Q4} (hk : f.2.1 ≤ 2) (h1 : 1 ≤ f.2.1) (hn : ∀ x ∈ s.tx, kQ x ≠ f.2.2.1) (h8 : s.tx.length < 8) (e : insK kQ (f.2.2.1, 1, 0, 0) s.tx = pre ++ q :: post) (hp : ∀ x ∈ pre, kQ x ≠ f.2.2.1) (hq : kQ q = f.2.2.1) : azT s f = azV s f pre post q := by
 have hg : getK kQ f.2.2.1 s.tx = none := getK_none.2 hn
 obtain ⟨rfl, h2⟩ := ins_split (u := (f.2.2.1, 1, 0, 0)) hn e hp hq
 unfold azT azV
 rw [if_neg (by omega), if_neg (by omega), hg]
 dsimp only
 rw [h2 (azU f.2.1 f.1 f.2.2.2.2.2 (f.2.2.1, 1, 0, 0)) rfl]
 by_cases hc : (0 : Int) ≠ f.2.2.2.1 ∨ (f.2.1 = 2 ∧ f.1 ≤ f.2.2.2.2.2)
 ·rw [if_pos hc, if_pos (.inr (.inr (by rcases hc with h | h; (exact .inl fun e => h e.symm); exact .inr h)))]
 ·have QW : ¬ (2 < f.2.1 ∨ 8 ≤ s.tx.length ∨ f.2.2.2.1 ≠ 0 ∨ (f.2.1 = 2 ∧ f.1 ≤ f.2.2.2.2.2)) := by
   rintro (h | h | h | h)
   ·omega
   ·omega
   ·exact hc (.inl fun e => h e.symm)
   ·exact hc (.inr h)
  rw [if_neg hc, if_neg QW, if_neg (by omega), if_pos hk]
theorem bgAt_is {fs : List F6} {c : Int} {k : Nat} (h : bgAt fs c = some k) : k + 1 < fs.length ∧ (fs.getD (k + 1) (0, 0, 0, 0, 0, 0)).2.1 = 7 := by
 have h1 := List.find?_some h
 unfold bgIs at h1
 simp only [Bool.and_eq_true, decide_eq_true_eq] at h1
 exact ⟨h1.1.1.1, h1.2⟩
theorem bgR_none {fs : List F6} {c : Int} (h : bgAt fs c = none) : bgR fs c = -1 := by unfold bgR; rw [h]
theorem bgR_some {fs : List F6} {c : Int} {k : Nat} (h : bgAt fs c = some k) : bgR fs c = k := by unfold bgR; rw [h]
section
variable {ps : List StLogFrame} {en c : Int} {k n : Nat}
theorem azAns_1 (h : bgAt (fs6 ps) c = none) : azAns (datFr ps) en c = azBad 1 := by unfold azAns; rw [fs6_dat, h]
theorem azAns_2 (h : bgAt (fs6 ps) c = some k) (hb : (ps.any strayD || nbg fAfter (fs5 ps)) = true) : azAns (datFr ps) en c = azBad 2 := by
 unfold azAns
 rw [fs6_dat, h]
 dsimp only
 rw [stray_dat, fs5_dat, if_pos hb]
theorem dat_getD (m : Nat) : (datFr ps).getD m zFr.dat = (ps.getD m zFr).dat := by
 unfold datFr
 rw [List.getD_eq_getElem?_getD, List.getD_eq_getElem?_getD, List.getElem?_map]
 cases ps[m]? <;> rfl
theorem azAns_3 (h : bgAt (fs6 ps) c = some k) (hb : (ps.any strayD || nbg fAfter (fs5 ps)) = false) (hn : kpN (fs6 ps) (k + 2) ps.length = n) (hz : azF (dTab (ps.getD (k + 1) zFr).dat) (((fs6 ps).take n).drop (k + 2)) = none) : azAns (datFr ps) en c = azBad 2 := by
 unfold azAns
 rw [fs6_dat, h]
 dsimp only
 rw [stray_dat, fs5_dat, hb, if_neg Bool.false_ne_true, datFr_length, dat_getD, hn, hz]
theorem azAns_4 (h : bgAt (fs6 ps) c = some k) (hb : (ps.any strayD || nbg fAfter (fs5 ps)) = false) (hn : kpN (fs6 ps) (k + 2) ps.length = n) {s : AzS} (hz : azF (dTab (ps.getD (k + 1) zFr).dat) (((fs6 ps).take n).drop (k + 2)) = some s) : azAns (datFr ps) en c = (0, (n : Int), if n < ps.length then (ps.getD n zFr).lsn else en, s.nx, flat4 s.tx, flat2 s.dy, s.im) := by
 unfold azAns
 rw [fs6_dat, h]
 dsimp only
 rw [stray_dat, fs5_dat, hb, if_neg Bool.false_ne_true, datFr_length, dat_getD, hn, hz]
 dsimp only
 rw [dat_getD]
 rfl
end
theorem drop_take_snoc {α : Type} {l : List α} {a j : Nat} {d : α} (h1 : a ≤ j) (h2 : j < l.length) : (l.take (j + 1)).drop a = (l.take j).drop a ++ [l.getD j d] := by
 rw [List.take_succ_eq_append_getElem h2, List.drop_append_of_le_length (by rw [List.length_take]; omega), List.getD_eq_getElem?_getD, List.getElem?_eq_getElem h2]
 rfl
theorem drop_take_self {α : Type} {l : List α} {a : Nat} : (l.take a).drop a = [] := by rw [List.drop_eq_nil_iff, List.length_take]; omega
theorem good_part {ps : List StLogFrame} {a j : Nat} (h : ∀ (m : Nat) (hm : m < ps.length), strayD ps[m] = false) : ∀ f ∈ ((fs6 ps).take j).drop a, GF f := fun f hf => by
 have h1 := List.mem_of_mem_take (List.mem_of_mem_drop hf)
 unfold fs6 at h1
 obtain ⟨p, hp, rfl⟩ := List.mem_map.1 h1
 obtain ⟨m, hm, rfl⟩ := List.getElem_of_mem hp
 exact stray_GF (h m hm)
theorem azF_stop {ps : List StLogFrame} {S0 s : AzS} {a j n : Nat} (h1 : a ≤ j) (h2 : j < n) (hn : n ≤ ps.length) (hs : azF S0 (((fs6 ps).take j).drop a) = some s) (hj : j < ps.length) (ht : azT s (f6 ps[j]) = none) : azF S0 (((fs6 ps).take n).drop a) = none := by
 have hl := fs6_length ps
 have e : ((fs6 ps).take n).drop a = ((fs6 ps).take (j + 1)).drop a ++ ((fs6 ps).take n).drop (j + 1) := by
  have e1 : (fs6 ps).take n = (fs6 ps).take (j + 1) ++ ((fs6 ps).take n).drop (j + 1) := by
   conv => lhs; rw [← List.take_append_drop (j + 1) ((fs6 ps).take n)]
   rw [List.take_take, Nat.min_eq_left (by omega)]
  conv => lhs; rw [e1]
  rw [List.drop_append_of_le_length (by rw [List.length_take]; omega)]
 rw [e]
 apply azF_none
 rw [drop_take_snoc (d := (0, 0, 0, 0, 0, 0)) h1 (by omega), azF_snoc, hs]
 rw [fs6_at ps j hj]
 exact ht
theorem azF_on {ps : List StLogFrame} {S0 s s' : AzS} {a j : Nat} (h1 : a ≤ j) (hs : azF S0 (((fs6 ps).take j).drop a) = some s) (hj : j < ps.length) (ht : azT s (f6 ps[j]) = some s') : azF S0 (((fs6 ps).take (j + 1)).drop a) = some s' := by
 have hl := fs6_length ps
 rw [drop_take_snoc (d := (0, 0, 0, 0, 0, 0)) h1 (by omega), azF_snoc, hs]
 rw [fs6_at ps j hj]
 exact ht
theorem FR.own_ints {w : World} {x : FR} (h : OwnL w (x.rows 1)) : Own 0 x.e .i64 w x.v x.bs := by
 have h1 := FR.own_one h
 have h2 : x.n = x.bs.length := by have := FR.own_len h; omega
 rw [h2] at h1
 exact h1
theorem eqInt64SF_own (x y : FR) (w : World) (hn : (x.bs.length : Int) ≤ 1125899906842624) (hd : x.bs = y.bs) (ha : OwnL w (x.rows 1)) (hb : OwnL w (y.rows 1)) :
  Calls Tryz.prog 34 #[x.v, y.v] w fun e w' => e = .returned (.bool true) ∧ Same w w' := by
 have h1 := FR.own_ints ha
 have h2 := FR.own_ints hb
 rw [← hd] at h2
 refine (eqInt64S_own 0 x.v y.v x.bs w (by omega) h1 h2).mono ?_
 rintro e w' ⟨rfl, n, rfl⟩
 exact ⟨rfl, (Kept.refl _ _).drewN _⟩
theorem RdF.ints {w : World} {x : FR} (h : RdF 1 w x) (h0 : x.n ≠ 0) : Rd .i64 w x.v x.bs := by
 obtain ⟨h1, h2, h3⟩ := h
 have hl : x.n = x.bs.length := by omega
 rcases h3 with h3 | ⟨b, off, e, hc, hx⟩
 ·exact absurd h3 h0
 ·refine ⟨by omega, .inr ⟨b, off, x.c, ?_, by omega, fun i hi => hx i (by omega)⟩⟩
  simp only [FR.v, e, hl]
theorem Rd.flat {w : World} {v : Value} {bs : List Int} (h : Rd .i64 w v bs) : ∃ a c, v = .slice a bs.length c ∧ RdF 1 w ⟨0, a, bs.length, c, bs⟩ := by
 rcases h.2 with ⟨rfl, a, c, rfl, _⟩ | ⟨b, off, c, rfl, hc, hx⟩
 ·exact ⟨a, c, rfl, Nat.zero_le _, rfl, .inl rfl⟩
 ·exact ⟨_, c, rfl, h.1, (Nat.mul_one _).symm, .inr ⟨b, off, rfl, hc, fun i hi => hx i (by simpa using hi)⟩⟩
end Go.Proofs.YtepdakgfioffgaaGreat
