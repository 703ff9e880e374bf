import Derived.Test.YtkdohacgkjpopaaGreatG21
import Derived.Test.YtkdohacgkjpopaaGreatG20
import Derived.Test.YtkdohacgkjpopaaGreatRecImplA
import Derived.Test.YtkdohacgkjpopaaGreatRecImplB
import Derived.Test.YtkdohacgkjpopaaGreatRecImplC
import Derived.Test.YtkdohacgkjpopaaGreatRecImplD
import Derived.Test.YtkdohacgkjpopaaGreatG00
namespace Go.Proofs.YtkdohacgkjpopaaGreat
set_option maxRecDepth 100000
set_option maxHeartbeats 16000000
set_option linter.unusedVariables false
set_option linter.unusedSimpArgs false
open Go.RowKit Go.ChangeShapes Go.WideShapes Go.ChangeAt
theorem recI_8 (txn : Int) (prev : Int) (page : Int) (slot : Int) (bU : Bool) (bDa : Option Addr) (bDc : Nat) (bDb : List Int) (aU : Bool) (aDa : Option Addr) (aDc : Nat) (aDb : List Int) (uN : Int) (nT : Int) (tXe : TypeId) (tXa : Option Addr) (tXn tXc : Nat) (tXb : List Int) (dYe : TypeId) (dYa : Option Addr) (dYn dYc : Nat) (dYb : List Int) (iMa : Option Addr) (iMc : Nat) (iMb : List Int) (w : World) (hBb : IsB bDb) (hBa : IsB aDb) (hBi : IsB iMb) (hli : iMb.length ≤ 1099511627776) (hrb : Rd .u8 w (.slice bDa bDb.length bDc) bDb) (hra : Rd .u8 w (.slice aDa aDb.length aDc) aDb) (hri : Rd .u8 w (.slice iMa iMb.length iMc) iMb) (hrt : RdF 4 w ⟨tXe, tXa, tXn, tXc, tXb⟩) (hrd : RdF 2 w ⟨dYe, dYa, dYn, dYc, dYb⟩) (hnt : tXn ≤ 1125899906842624) (hnd : dYn ≤ 1125899906842624) :
  Calls Tryz.prog 69 #[.agg #[.int .i64 8, .int .i64 txn, .int .i64 prev, .int .i64 page, .int .i64 slot, .bool bU, .slice bDa bDb.length bDc, .bool aU, .slice aDa aDb.length aDc, .int .i64 uN, .int .i64 nT, .slice tXa tXn tXc, .slice dYa dYn dYc, .slice iMa iMb.length iMc]] w fun e w' => e = .returned (.int .i64 (if alone8 txn prev page slot bU bDb aU aDb uN nT tXb dYb iMb = true then imgF page iMb else 2)) ∧ Same w w' := by
 have hT := fun wx => typeRecord_8 txn prev page slot bU bDa bDb.length bDc aU aDa aDb.length aDc uN nT tXa tXn tXc dYa dYn dYc iMa iMb.length iMc wx
 have hP := fun wx => plainRecord_8 txn prev page slot bU bDa bDb.length bDc aU aDa aDb.length aDc uN nT tXa tXn tXc dYa dYn dYc iMa iMb.length iMc wx
 have hS := fun wx (hk : Same w wx) => same_8 txn prev page slot bU bDa bDc bDb aU aDa aDc aDb uN nT tXe tXa tXn tXc tXb dYe dYa dYn dYc dYb iMa iMc iMb wx hBb hBa hBi (hrb.same hk) (hra.same hk) (hri.same hk) (hrt.same hk) (hrd.same hk) hnt hnd
 have hF : ∀ wx, Same w wx → Calls Tryz.prog 158 #[.agg #[.int .i64 0, .int .i64 0, .int .i64 page, .slice iMa iMb.length iMc]] wx fun e w' => e = .returned (.int .i64 (imgF page iMb)) ∧ Same wx w' := fun wx hk => imageFault_any page iMa iMc iMb wx hBi hli (hri.same hk)
 have b0 := Blk.new w #[.int .i64 8, .int .i64 txn, .int .i64 prev, .int .i64 page, .int .i64 slot, .bool bU, .slice bDa bDb.length bDc, .bool aU, .slice aDa aDb.length aDc, .int .i64 uN, .int .i64 nT, .slice tXa tXn tXc, .slice dYa dYn dYc, .slice iMa iMb.length iMc] 42
 have hk0 : Same w (w.alloc (.cells #[.int .i64 8, .int .i64 txn, .int .i64 prev, .int .i64 page, .int .i64 slot, .bool bU, .slice bDa bDb.length bDc, .bool aU, .slice aDa aDb.length aDc, .int .i64 uN, .int .i64 nT, .slice tXa tXn tXc, .slice dYa dYn dYc, .slice iMa iMb.length iMc] 42)) := (Kept.refl _ _).alloc _
 generalize alone8 txn prev page slot bU bDb aU aDb uN nT tXb dYb iMb = AL at *
 generalize imgF page iMb = FA at *
 clear hrb hra hri hrt hrd hBb hBa hBi hnt hnd hli
 have hz : ∀ (wx : World), Same (w.alloc (.cells #[.int .i64 8, .int .i64 txn, .int .i64 prev, .int .i64 page, .int .i64 slot, .bool bU, .slice bDa bDb.length bDc, .bool aU, .slice aDa aDb.length aDc, .int .i64 uN, .int .i64 nT, .slice tXa tXn tXc, .slice dYa dYn dYc, .slice iMa iMb.length iMc] 42)) wx → wx.cell? ⟨w.heap.size, 0, none⟩ = some (.int .i64 8) ∧ wx.cell? ⟨w.heap.size, 1, none⟩ = some (.int .i64 txn) ∧ wx.cell? ⟨w.heap.size, 2, none⟩ = some (.int .i64 prev) ∧ wx.cell? ⟨w.heap.size, 3, none⟩ = some (.int .i64 page) ∧ wx.cell? ⟨w.heap.size, 4, none⟩ = some (.int .i64 slot) ∧ wx.cell? ⟨w.heap.size, 5, none⟩ = some (.bool bU) ∧ wx.cell? ⟨w.heap.size, 6, none⟩ = some (.slice bDa bDb.length bDc) ∧ wx.cell? ⟨w.heap.size, 7, none⟩ = some (.bool aU) ∧ wx.cell? ⟨w.heap.size, 8, none⟩ = some (.slice aDa aDb.length aDc) ∧ wx.cell? ⟨w.heap.size, 9, none⟩ = some (.int .i64 uN) ∧ wx.cell? ⟨w.heap.size, 10, none⟩ = some (.int .i64 nT) ∧ wx.cell? ⟨w.heap.size, 11, none⟩ = some (.slice tXa tXn tXc) ∧ wx.cell? ⟨w.heap.size, 12, none⟩ = some (.slice dYa dYn dYc) ∧ wx.cell? ⟨w.heap.size, 13, none⟩ = some (.slice iMa iMb.length iMc) := fun wx h => ⟨(b0.same h).cell 0, (b0.same h).cell 1, (b0.same h).cell 2, (b0.same h).cell 3, (b0.same h).cell 4, (b0.same h).cell 5, (b0.same h).cell 6, (b0.same h).cell 7, (b0.same h).cell 8, (b0.same h).cell 9, (b0.same h).cell 10, (b0.same h).cell 11, (b0.same h).cell 12, (b0.same h).cell 13⟩
 cases AL with
 | false =>
  simp only [Bool.false_eq_true, if_false]
  go_enter Tryz.func69, Tryz.ntmps69
  go_wp2_with (go_at_call 71; refine (hT _).mono ?_; rintro e w1 ⟨rfl, hk1⟩; obtain ⟨z0, z1, z2, z3, z4, z5, z6, z7, z8, z9, z10, z11, z12, z13⟩ := hz w1 hk1)
  go_region_with (first
   | (go_at_call 76; refine (hP _).mono ?_; rintro e wp ⟨rfl, hkp⟩; have hkq := (Kept.drew hk1).trans hkp; obtain ⟨y0, y1, y2, y3, y4, y5, y6, y7, y8, y9, y10, y11, y12, y13⟩ := hz wp hkq)
   | (go_at_call 75; refine (hS _ (hk0.trans hkq)).mono ?_; rintro e ws ⟨rfl, hks⟩))
  all_goals
   go_wp2
   go_ret
   exact ⟨rfl, (hk0.trans hkq).trans hks⟩
 | true =>
  simp only [if_true]
  go_enter Tryz.func69, Tryz.ntmps69
  go_wp2_with (go_at_call 71; refine (hT _).mono ?_; rintro e w1 ⟨rfl, hk1⟩; obtain ⟨z0, z1, z2, z3, z4, z5, z6, z7, z8, z9, z10, z11, z12, z13⟩ := hz w1 hk1)
  go_region_with (first
   | (go_at_call 76; refine (hP _).mono ?_; rintro e wp ⟨rfl, hkp⟩; have hkq := (Kept.drew hk1).trans hkp; obtain ⟨y0, y1, y2, y3, y4, y5, y6, y7, y8, y9, y10, y11, y12, y13⟩ := hz wp hkq)
   | (go_at_call 75; refine (hS _ (hk0.trans hkq)).mono ?_; rintro e ws ⟨rfl, hks⟩))
  all_goals
   go_wp2_with (go_at_call 158; refine (hF _ ((hk0.trans hkq).trans hks)).mono ?_; rintro e wf ⟨rfl, hkf⟩)
   go_ret
   exact ⟨rfl, ((hk0.trans hkq).trans hks).trans hkf⟩
def recFd (d : Int × Int × Int × Int × Int × (Bool × List Int) × (Bool × List Int) × Int × Int × List Int × List Int × List Int) : Int := recF d.1 d.2.1 d.2.2.1 d.2.2.2.1 d.2.2.2.2.1 d.2.2.2.2.2.1.1 d.2.2.2.2.2.1.2 d.2.2.2.2.2.2.1.1 d.2.2.2.2.2.2.1.2 d.2.2.2.2.2.2.2.1 d.2.2.2.2.2.2.2.2.1 d.2.2.2.2.2.2.2.2.2.1 d.2.2.2.2.2.2.2.2.2.2.1 d.2.2.2.2.2.2.2.2.2.2.2
def StLogRecord.isB (x : StLogRecord) : Prop := IsB x.before.data.bs ∧ IsB x.after.data.bs ∧ IsB x.image.bs
theorem implRec_any (x : StLogRecord) (w : World) (hB : x.isB) (hn : x.szs ≤ 1073741824) (hv : StLogRecord.rd w x) :
  Calls Tryz.prog 69 #[x.val] w fun e w' => e = .returned (.int .i64 (recFd x.dat)) ∧ Same w w' := by
 have hs := hn
 simp only [StLogRecord.szs, StPageRecord.szs] at hs
 have hlt := hv.2.2.1.2.1
 have hld := hv.2.2.2.1.2.1
 obtain ⟨kind, txn, prev, page, slot, ⟨bU, ⟨bDe, bDa, bDc, bDb⟩⟩, ⟨aU, ⟨aDe, aDa, aDc, aDb⟩⟩, uN, nT, ⟨tXe, tXa, tXn, tXc, tXb⟩, ⟨dYe, dYa, dYn, dYc, dYb⟩, ⟨iMe, iMa, iMc, iMb⟩⟩ := x
 dsimp only [StLogRecord.val, StPageRecord.val, BS.v, FR.v, recFd, StLogRecord.dat, StPageRecord.dat, StLogRecord.isB, StLogRecord.rd, StPageRecord.rd] at *
 have e1 : tXb.length / 4 = tXn := by omega
 have e2 : dYb.length / 2 = dYn := by omega
 have hli : iMb.length ≤ 1099511627776 := by omega
 have hnt : tXn ≤ 1125899906842624 := by omega
 have hnd : dYn ≤ 1125899906842624 := by omega
 unfold recF
 by_cases h1 : kind = 1
 ·subst h1
  simp only [if_true]
  exact recI_1 txn prev page slot bU bDa bDc bDb aU aDa aDc aDb uN nT tXe tXa tXn tXc tXb dYe dYa dYn dYc dYb iMa iMc iMb w hB.1 hB.2.1 hB.2.2 hli hv.1 hv.2.1 hv.2.2.2.2 hv.2.2.1 hv.2.2.2.1 hnt hnd
 rw [if_neg h1]
 by_cases h2 : kind = 2
 ·subst h2
  rw [if_pos rfl]
  exact recI_2 txn prev page slot bU bDa bDc bDb aU aDa aDc aDb uN nT tXe tXa tXn tXc tXb dYe dYa dYn dYc dYb iMa iMc iMb w hB.1 hB.2.1 hB.2.2 hli hv.1 hv.2.1 hv.2.2.2.2 hv.2.2.1 hv.2.2.2.1 hnt hnd
 rw [if_neg h2]
 by_cases h3 : kind = 3
 ·subst h3
  rw [if_pos rfl]
  exact recI_3 txn prev page slot bU bDa bDc bDb aU aDa aDc aDb uN nT tXe tXa tXn tXc tXb dYe dYa dYn dYc dYb iMa iMc iMb w hB.1 hB.2.1 hB.2.2 hli hv.1 hv.2.1 hv.2.2.2.2 hv.2.2.1 hv.2.2.2.1 hnt hnd
 rw [if_neg h3]
 by_cases h4 : kind = 4
 ·subst h4
  rw [if_pos rfl]
  exact recI_4 txn prev page slot bU bDa bDc bDb aU aDa aDc aDb uN nT tXe tXa tXn tXc tXb dYe dYa dYn dYc dYb iMa iMc iMb w hB.1 hB.2.1 hB.2.2 hli hv.1 hv.2.1 hv.2.2.2.2 hv.2.2.1 hv.2.2.2.1 hnt hnd
 rw [if_neg h4]
 by_cases h5 : kind = 5
 ·subst h5
  rw [if_pos rfl]
  exact recI_5 txn prev page slot bU bDa bDc bDb aU aDa aDc aDb uN nT tXe tXa tXn tXc tXb dYe dYa dYn dYc dYb iMa iMc iMb w hB.1 hB.2.1 hB.2.2 hli hv.1 hv.2.1 hv.2.2.2.2 hv.2.2.1 hv.2.2.2.1 hnt hnd
 rw [if_neg h5]
 by_cases h6 : kind = 6
 ·subst h6
  rw [if_pos rfl]
  exact recI_6 txn prev page slot bU bDa bDc bDb aU aDa aDc aDb uN nT tXe tXa tXn tXc tXb dYe dYa dYn dYc dYb iMa iMc iMb w hB.1 hB.2.1 hB.2.2 hli hv.1 hv.2.1 hv.2.2.2.2 hv.2.2.1 hv.2.2.2.1 hnt hnd
 rw [if_neg h6]
 by_cases h7 : kind = 7
 ·subst h7
  rw [if_pos rfl]
  exact recI_7 txn prev page slot bU bDa bDc bDb aU aDa aDc aDb uN nT tXe tXa tXn tXc tXb dYe dYa dYn dYc dYb iMa iMc iMb w hB.1 hB.2.1 hB.2.2 hli hv.1 hv.2.1 hv.2.2.2.2 hv.2.2.1 hv.2.2.2.1 hnt hnd
 rw [if_neg h7]
 by_cases h8 : kind = 8
 ·subst h8
  rw [if_pos rfl]
  exact recI_8 txn prev page slot bU bDa bDc bDb aU aDa aDc aDb uN nT tXe tXa tXn tXc tXb dYe dYa dYn dYc dYb iMa iMc iMb w hB.1 hB.2.1 hB.2.2 hli hv.1 hv.2.1 hv.2.2.2.2 hv.2.2.1 hv.2.2.2.1 hnt hnd
 rw [if_neg h8]
 exact recI_0 kind txn prev page slot bU bDa bDc bDb aU aDa aDc aDb uN nT tXe tXa tXn tXc tXb dYe dYa dYn dYc dYb iMa iMc iMb w h1 h2 h3 h4 h5 h6 h7 h8
theorem specRec_any (x : StLogRecord) (w : World) (hB : x.isB) (hn : x.szs ≤ 1073741824) (hv : StLogRecord.rd w x) :
  Calls Tryz.prog 22 #[x.val] w fun e w' => e = .returned (.int .i64 (recFd x.dat)) ∧ Same w w' := by
 have hs := hn
 simp only [StLogRecord.szs, StPageRecord.szs] at hs
 have hlt := hv.2.2.1.2.1
 have hld := hv.2.2.2.1.2.1
 obtain ⟨kind, txn, prev, page, slot, ⟨bU, ⟨bDe, bDa, bDc, bDb⟩⟩, ⟨aU, ⟨aDe, aDa, aDc, aDb⟩⟩, uN, nT, ⟨tXe, tXa, tXn, tXc, tXb⟩, ⟨dYe, dYa, dYn, dYc, dYb⟩, ⟨iMe, iMa, iMc, iMb⟩⟩ := x
 dsimp only [StLogRecord.val, StPageRecord.val, BS.v, FR.v, recFd, StLogRecord.dat, StPageRecord.dat, StLogRecord.isB, StLogRecord.rd, StPageRecord.rd] at *
 have e1 : tXb.length / 4 = tXn := by omega
 have e2 : dYb.length / 2 = dYn := by omega
 have hli : iMb.length ≤ 1099511627776 := by omega
 have hnt : tXn ≤ 1125899906842624 := by omega
 have hnd : dYn ≤ 1125899906842624 := by omega
 unfold recF
 by_cases h1 : kind = 1
 ·subst h1
  simp only [if_true]
  rw [← eqK_1 txn prev page slot uN nT bU aU bDb aDb iMb tXb dYb tXn dYn e1 e2]
  exact specT_1 txn prev page slot bU bDa bDc bDb aU aDa aDc aDb uN nT tXe tXa tXn tXc tXb dYe dYa dYn dYc dYb iMa iMc iMb w hB.1 hB.2.1 hB.2.2 hli hv.1 hv.2.1 hv.2.2.2.2 hv.2.2.1 hv.2.2.2.1 hnt hnd
 rw [if_neg h1]
 by_cases h2 : kind = 2
 ·subst h2
  rw [if_pos rfl]
  rw [← eqK_2 txn prev page slot uN nT bU aU bDb aDb iMb tXb dYb tXn dYn e1 e2]
  exact specT_2 txn prev page slot bU bDa bDc bDb aU aDa aDc aDb uN nT tXe tXa tXn tXc tXb dYe dYa dYn dYc dYb iMa iMc iMb w hB.1 hB.2.1 hB.2.2 hli hv.1 hv.2.1 hv.2.2.2.2 hv.2.2.1 hv.2.2.2.1 hnt hnd
 rw [if_neg h2]
 by_cases h3 : kind = 3
 ·subst h3
  rw [if_pos rfl]
  rw [← eqK_3 txn prev page slot uN nT bU aU bDb aDb iMb tXb dYb tXn dYn e1 e2]
  exact specT_3 txn prev page slot bU bDa bDc bDb aU aDa aDc aDb uN nT tXe tXa tXn tXc tXb dYe dYa dYn dYc dYb iMa iMc iMb w hB.1 hB.2.1 hB.2.2 hli hv.1 hv.2.1 hv.2.2.2.2 hv.2.2.1 hv.2.2.2.1 hnt hnd
 rw [if_neg h3]
 by_cases h4 : kind = 4
 ·subst h4
  rw [if_pos rfl]
  rw [← eqK_4 txn prev page slot uN nT bU aU bDb aDb iMb tXb dYb tXn dYn e1 e2]
  exact specT_4 txn prev page slot bU bDa bDc bDb aU aDa aDc aDb uN nT tXe tXa tXn tXc tXb dYe dYa dYn dYc dYb iMa iMc iMb w hB.1 hB.2.1 hB.2.2 hli hv.1 hv.2.1 hv.2.2.2.2 hv.2.2.1 hv.2.2.2.1 hnt hnd
 rw [if_neg h4]
 by_cases h5 : kind = 5
 ·subst h5
  rw [if_pos rfl]
  rw [← eqK_5 txn prev page slot uN nT bU aU bDb aDb iMb tXb dYb tXn dYn e1 e2]
  exact specT_5 txn prev page slot bU bDa bDc bDb aU aDa aDc aDb uN nT tXe tXa tXn tXc tXb dYe dYa dYn dYc dYb iMa iMc iMb w hB.1 hB.2.1 hB.2.2 hli hv.1 hv.2.1 hv.2.2.2.2 hv.2.2.1 hv.2.2.2.1 hnt hnd
 rw [if_neg h5]
 by_cases h6 : kind = 6
 ·subst h6
  rw [if_pos rfl]
  rw [← eqK_6 txn prev page slot uN nT bU aU bDb aDb iMb tXb dYb tXn dYn e1 e2]
  exact specT_6 txn prev page slot bU bDa bDc bDb aU aDa aDc aDb uN nT tXe tXa tXn tXc tXb dYe dYa dYn dYc dYb iMa iMc iMb w hB.1 hB.2.1 hB.2.2 hli hv.1 hv.2.1 hv.2.2.2.2 hv.2.2.1 hv.2.2.2.1 hnt hnd
 rw [if_neg h6]
 by_cases h7 : kind = 7
 ·subst h7
  rw [if_pos rfl]
  rw [← eqK_7 txn prev page slot uN nT bU aU bDb aDb iMb tXb dYb tXn dYn e1 e2]
  exact specT_7 txn prev page slot bU bDa bDc bDb aU aDa aDc aDb uN nT tXe tXa tXn tXc tXb dYe dYa dYn dYc dYb iMa iMc iMb w hB.1 hB.2.1 hB.2.2 hli hv.1 hv.2.1 hv.2.2.2.2 hv.2.2.1 hv.2.2.2.1 hnt hnd
 rw [if_neg h7]
 by_cases h8 : kind = 8
 ·subst h8
  rw [if_pos rfl]
  rw [← eqK_8 txn prev page slot uN nT bU aU bDb aDb iMb tXb dYb tXn dYn e1 e2]
  exact specT_8 txn prev page slot bU bDa bDc bDb aU aDa aDc aDb uN nT tXe tXa tXn tXc tXb dYe dYa dYn dYc dYb iMa iMc iMb w hB.1 hB.2.1 hB.2.2 hli hv.1 hv.2.1 hv.2.2.2.2 hv.2.2.1 hv.2.2.2.1 hnt hnd
 rw [if_neg h8]
 exact recS_0 kind txn prev page slot bU bDa bDc bDb aU aDa aDc aDb uN nT tXe tXa tXn tXc tXb dYe dYa dYn dYc dYb iMa iMc iMb w (by unfold inB; simp only [Bool.and_eq_false_iff, decide_eq_false_iff_not]; omega)
theorem StLogRecord.isB_dat {x y : StLogRecord} (h : y.dat = x.dat) (hx : x.isB) : y.isB := by
 simp only [StLogRecord.dat, StPageRecord.dat, Prod.mk.injEq] at h
 obtain ⟨_, _, _, _, _, ⟨_, h1⟩, ⟨_, h2⟩, _, _, _, _, h3⟩ := h
 unfold StLogRecord.isB at *
 rw [h1, h2, h3]
 exact hx
theorem StLogRecord.size_rd {w : World} {x : StLogRecord} (h : StLogRecord.rd w x) : x.size ≤ 4 * x.szs := by
 have h1 := h.2.2.1.2.1
 have h2 := h.2.2.2.1.2.1
 simp only [StLogRecord.size, StLogRecord.szs, StPageRecord.size, StPageRecord.szs]
 omega
theorem flat_length (f : Nat → List Int) (m : Nat) : ∀ n, (∀ i, i < n → (f i).length = m) → ((List.range n).flatMap f).length = n * m
 | 0, _ => by simp
 | n + 1, h => by
  rw [List.range_succ, List.flatMap_append, List.length_append, flat_length f m n (fun i hi => h i (by omega))]
  simp [h n (by omega), Nat.succ_mul]
theorem flat_at (f : Nat → List Int) (m : Nat) : ∀ n, 0 < m → (∀ i, i < n → (f i).length = m) → ∀ i, i < n * m → ((List.range n).flatMap f).getD i 0 = (f (i / m)).getD (i % m) 0
 | 0, _, _, i, hi => by simp at hi
 | n + 1, hm, h, i, hi => by
  rw [List.range_succ, List.flatMap_append]
  have hl := flat_length f m n (fun i hi => h i (by omega))
  by_cases h1 : i < n * m
  ·have h2 := flat_at f m n hm (fun i hi => h i (by omega)) i h1
   rw [← h2]
   simp only [List.getD]
   rw [List.getElem?_append_left (by omega)]
  ·have h3 : i < n * m + m := by rw [Nat.succ_mul] at hi; exact hi
   have hd : i / m = n := by
    rw [Nat.div_eq_iff hm]
    constructor <;> omega
   have hmod : i % m = i - n * m := by
    have := Nat.div_add_mod i m
    rw [hd, Nat.mul_comm] at this
    omega
   rw [hd, hmod]
   simp only [List.getD]
   rw [List.getElem?_append_right (by omega), hl]
   simp
section
variable {H : Type} {enc : TypeId × Value → H} {w : World} {base : Nat} {spare : Nat → Bool} {held : Bool}
theorem read_flat {t e : TypeId} {m : Nat} (hm0 : 0 < m) (ht : Tryz.prog.underlying t = some (.slice e)) (hc : Tryz.prog.cellsOf e = m)
  (he : ∀ (n : Nat) (cs : List Value) (x : DataW H × List MemPlace), DataW.trod enc Tryz.prog w base spare held n e cs = some x → ∃ ns : List Int, cs = vals .i64 ns ∧ ns.length = m)
  {fuel : Nat} {v : Value} {x : DataW H × List MemPlace} (h : DataW.trod enc Tryz.prog w base spare held fuel t [v] = some x) : ∃ y : FR, v = y.v ∧ RdF m w y := by
 rcases Deep.open_slice ht h with ⟨hcs, _⟩ | ⟨a, len, cap, m', n, D, Pl, hcs, hb, hl, hm, hmm, _, hx⟩
 ·simp at hcs
  subst hcs
  exact ⟨⟨0, none, 0, 0, []⟩, rfl, Nat.zero_le _, by simp, .inl rfl⟩
 ·simp at hcs
  subst hcs
  have hlm : len ≤ m' := by rw [hmm]; split <;> omega
  have each : ∀ i, i < len → ∃ ns : List Int, ns.length = m ∧ ∀ j, j < m → w.cell? ((a.add (i * m)).add j) = some (.int .i64 (ns.getD j 0)) := fun i hi => by
   obtain ⟨cs', h1, h2⟩ := hx i (by omega)
   rw [hc] at h1
   obtain ⟨_, hlen, hcell⟩ := World.cells?_some h1
   obtain ⟨ns, rfl, hns⟩ := he _ _ _ h2
   refine ⟨ns, hns, fun j hj => ?_⟩
   have := hcell j (by omega)
   rw [this, vals_at _ _ _ (by omega)]
  obtain ⟨f, hf⟩ := Deep.choose_lt each
  by_cases h0 : len = 0
  ·subst h0
   exact ⟨⟨0, some a, 0, cap, []⟩, rfl, Nat.zero_le _, by simp, .inl rfl⟩
  ·have ha : ∃ b off, a = ⟨b, off, none⟩ := by
    have h1 := (hf 0 (by omega)).2 0 hm0
    rw [Nat.zero_mul] at h1
    have e0 : a.add 0 = a := by cases a; simp [Addr.add]
    rw [e0] at h1
    exact addr_form (a := a) h1
   obtain ⟨b, off, rfl⟩ := ha
   refine ⟨⟨0, some ⟨b, off, none⟩, len, cap, (List.range len).flatMap f⟩, rfl, by dsimp only; omega, ?_, .inr ⟨b, off, rfl, hl, fun i hi => ?_⟩⟩
   ·dsimp only
    exact flat_length f m len (fun i hi => (hf i hi).1)
   ·dsimp only at hi ⊢
    have hdiv : i / m < len := (Nat.div_lt_iff_lt_mul hm0).2 hi
    have h1 := (hf (i / m) hdiv).2 (i % m) (Nat.mod_lt _ hm0)
    rw [add_none, add_none] at h1
    rw [flat_at f m len hm0 (fun i hi => (hf i hi).1) i hi]
    have e : off + i = off + i / m * m + i % m := by
     have := Nat.div_add_mod i m
     rw [Nat.mul_comm] at this
     omega
    rw [e]
    exact h1
theorem ints_cells {e : TypeId} {fs : Array Field} (m : Nat) (hs : Tryz.prog.underlying e = some (.struct fs)) (hsz : fs.size = m) (hc : Tryz.prog.cellsOf e = m)
  (hf : ∀ (i : Nat) (f : Field), fs[i]? = some f → f.type = 2 ∧ f.offset = i) (n : Nat) (cs : List Value) (x : DataW H × List MemPlace) (h : DataW.trod enc Tryz.prog w base spare held n e cs = some x) :
  ∃ ns : List Int, cs = vals .i64 ns ∧ ns.length = m := by
 obtain ⟨xs, k, _, _, hl, hxl, hg⟩ := DataW.trod_struct hs h
 have each : ∀ i, i < m → ∃ z : Int, cs[i]? = some (.int .i64 z) := fun i hi => by
  have hi' : i < fs.size := by omega
  obtain ⟨h1, h2⟩ := hf i fs[i] (by simp [hi'])
  have h3 := hg i fs[i] (by simp [hi'])
  rw [h1, h2, show Tryz.prog.cellsOf 2 = 1 from by kernel_rfl] at h3
  have h4 : xs[i]? = some xs[i] := by simp [hxl, hi']
  rw [h4] at h3
  obtain ⟨z, hz, _, _⟩ := DataW.trod_int Tryz.underlying2 h3
  refine ⟨z, ?_⟩
  have h5 := congrArg (fun l => l[0]?) hz
  simpa [List.getElem?_take, List.getElem?_drop] using h5
 obtain ⟨g, hg2⟩ := Deep.choose_lt each
 refine ⟨(List.range m).map g, ?_, by simp⟩
 apply List.ext_getElem?
 intro i
 by_cases hi : i < m
 ·rw [hg2 i hi]
  simp [vals, hi]
 ·rw [List.getElem?_eq_none (by rw [hl, hc]; omega), List.getElem?_eq_none (by simp [vals]; omega)]
theorem array14 {cs : Array Value} (h : cs.size = 14) : ∃ c0 c1 c2 c3 c4 c5 c6 c7 c8 c9 c10 c11 c12 c13, cs = #[c0, c1, c2, c3, c4, c5, c6, c7, c8, c9, c10, c11, c12, c13] := by
 obtain ⟨l⟩ := cs
 match l, h with
 | [c0, c1, c2, c3, c4, c5, c6, c7, c8, c9, c10, c11, c12, c13], _ => exact ⟨c0, c1, c2, c3, c4, c5, c6, c7, c8, c9, c10, c11, c12, c13, rfl⟩
theorem read_slotRecord {n : Nat} {c0 c1 : Value} {x : DataW H × List MemPlace} (h : DataW.trod enc Tryz.prog w base spare held n 26 [c0, c1] = some x) :
  ∃ y : StPageRecord, c0 = .bool y.used ∧ c1 = y.data.v ∧ StPageRecord.rd w y ∧ IsB y.data.bs := by
 obtain ⟨y0, y1, k, _, _, h0, h1⟩ := trod_struct2 Tryz.underlying26 h
 have h0' : DataW.trod enc Tryz.prog w base spare held k 4 [c0] = some y0 := h0
 have h1' : DataW.trod enc Tryz.prog w base spare held k 22 [c1] = some y1 := h1
 obtain ⟨b, hb, _⟩ := DataW.trod_bool Tryz.underlying4 h0'
 obtain ⟨bs, hbs, hB⟩ := read_intsB Tryz.underlying22 Tryz.underlying5 (by kernel_rfl) h1'
 obtain ⟨a, c, rfl⟩ := hbs.form
 simp at hb
 exact ⟨⟨b, ⟨0, a, c, bs⟩⟩, hb, rfl, hbs, fun x hx => by have := hB x hx; exact ⟨this.1, this.2⟩⟩
theorem open_logRecord {r : Reach} {b0 : Nat} {v : Value} {d : DataW H} {p : List MemPlace} (hv : Value.okWide Tryz.prog w r b0 30 v) (h : DataW.Trod enc Tryz.prog w base spare held 30 v d p) :
  ∃ x : StLogRecord, v = x.val ∧ StLogRecord.rd w x ∧ x.isB := by
 obtain ⟨cs, rfl, hsz⟩ := okWide_struct Tryz.underlying30 hv
 obtain ⟨c0, c1, c2, c3, c4, c5, c6, c7, c8, c9, c10, c11, c12, c13, rfl⟩ := array14 (hsz.trans (by kernel_rfl))
 obtain ⟨fuel, hf⟩ := h
 obtain ⟨xs, n, _, _, _, hxl, hg⟩ := DataW.trod_struct Tryz.underlying30 hf
 have g0 : ∃ x, DataW.trod enc Tryz.prog w base spare held n 2 [c0] = some x := ⟨xs[0]'(by rw [hxl]; decide), by have h := hg 0 _ rfl; rw [List.getElem?_eq_getElem (by rw [hxl]; decide)] at h; exact h⟩
 obtain ⟨x0, g0⟩ := g0
 obtain ⟨z0, e0, _, _⟩ := DataW.trod_int Tryz.underlying2 g0
 simp at e0
 subst e0
 have g1 : ∃ x, DataW.trod enc Tryz.prog w base spare held n 2 [c1] = some x := ⟨xs[1]'(by rw [hxl]; decide), by have h := hg 1 _ rfl; rw [List.getElem?_eq_getElem (by rw [hxl]; decide)] at h; exact h⟩
 obtain ⟨x1, g1⟩ := g1
 obtain ⟨z1, e1, _, _⟩ := DataW.trod_int Tryz.underlying2 g1
 simp at e1
 subst e1
 have g2 : ∃ x, DataW.trod enc Tryz.prog w base spare held n 2 [c2] = some x := ⟨xs[2]'(by rw [hxl]; decide), by have h := hg 2 _ rfl; rw [List.getElem?_eq_getElem (by rw [hxl]; decide)] at h; exact h⟩
 obtain ⟨x2, g2⟩ := g2
 obtain ⟨z2, e2, _, _⟩ := DataW.trod_int Tryz.underlying2 g2
 simp at e2
 subst e2
 have g3 : ∃ x, DataW.trod enc Tryz.prog w base spare held n 2 [c3] = some x := ⟨xs[3]'(by rw [hxl]; decide), by have h := hg 3 _ rfl; rw [List.getElem?_eq_getElem (by rw [hxl]; decide)] at h; exact h⟩
 obtain ⟨x3, g3⟩ := g3
 obtain ⟨z3, e3, _, _⟩ := DataW.trod_int Tryz.underlying2 g3
 simp at e3
 subst e3
 have g4 : ∃ x, DataW.trod enc Tryz.prog w base spare held n 2 [c4] = some x := ⟨xs[4]'(by rw [hxl]; decide), by have h := hg 4 _ rfl; rw [List.getElem?_eq_getElem (by rw [hxl]; decide)] at h; exact h⟩
 obtain ⟨x4, g4⟩ := g4
 obtain ⟨z4, e4, _, _⟩ := DataW.trod_int Tryz.underlying2 g4
 simp at e4
 subst e4
 have g5 : ∃ x, DataW.trod enc Tryz.prog w base spare held n 26 [c5, c6] = some x := ⟨xs[5]'(by rw [hxl]; decide), by have h := hg 5 _ rfl; rw [List.getElem?_eq_getElem (by rw [hxl]; decide)] at h; exact h⟩
 obtain ⟨x5, g5⟩ := g5
 obtain ⟨y5, rfl, rfl, r5, B5⟩ := read_slotRecord g5
 have g6 : ∃ x, DataW.trod enc Tryz.prog w base spare held n 26 [c7, c8] = some x := ⟨xs[6]'(by rw [hxl]; decide), by have h := hg 6 _ rfl; rw [List.getElem?_eq_getElem (by rw [hxl]; decide)] at h; exact h⟩
 obtain ⟨x6, g6⟩ := g6
 obtain ⟨y6, rfl, rfl, r6, B6⟩ := read_slotRecord g6
 have g7 : ∃ x, DataW.trod enc Tryz.prog w base spare held n 2 [c9] = some x := ⟨xs[7]'(by rw [hxl]; decide), by have h := hg 7 _ rfl; rw [List.getElem?_eq_getElem (by rw [hxl]; decide)] at h; exact h⟩
 obtain ⟨x7, g7⟩ := g7
 obtain ⟨z7, e7, _, _⟩ := DataW.trod_int Tryz.underlying2 g7
 simp at e7
 subst e7
 have g8 : ∃ x, DataW.trod enc Tryz.prog w base spare held n 2 [c10] = some x := ⟨xs[8]'(by rw [hxl]; decide), by have h := hg 8 _ rfl; rw [List.getElem?_eq_getElem (by rw [hxl]; decide)] at h; exact h⟩
 obtain ⟨x8, g8⟩ := g8
 obtain ⟨z8, e8, _, _⟩ := DataW.trod_int Tryz.underlying2 g8
 simp at e8
 subst e8
 have g9 : ∃ x, DataW.trod enc Tryz.prog w base spare held n 27 [c11] = some x := ⟨xs[9]'(by rw [hxl]; decide), by have h := hg 9 _ rfl; rw [List.getElem?_eq_getElem (by rw [hxl]; decide)] at h; exact h⟩
 obtain ⟨x9, g9⟩ := g9
 obtain ⟨y9, rfl, r9⟩ := read_flat (m := 4) (by decide) Tryz.underlying27 (by kernel_rfl) (ints_cells 4 Tryz.underlying82 rfl (by kernel_rfl) (fun i f hi => by
  match i, hi with
  | 0, hi => simp at hi; subst hi; exact ⟨rfl, rfl⟩
  | 1, hi => simp at hi; subst hi; exact ⟨rfl, rfl⟩
  | 2, hi => simp at hi; subst hi; exact ⟨rfl, rfl⟩
  | 3, hi => simp at hi; subst hi; exact ⟨rfl, rfl⟩
  | j + 4, hi => simp at hi)) g9
 have g10 : ∃ x, DataW.trod enc Tryz.prog w base spare held n 28 [c12] = some x := ⟨xs[10]'(by rw [hxl]; decide), by have h := hg 10 _ rfl; rw [List.getElem?_eq_getElem (by rw [hxl]; decide)] at h; exact h⟩
 obtain ⟨x10, g10⟩ := g10
 obtain ⟨y10, rfl, r10⟩ := read_flat (m := 2) (by decide) Tryz.underlying28 (by kernel_rfl) (ints_cells 2 Tryz.underlying86 rfl (by kernel_rfl) (fun i f hi => by
  match i, hi with
  | 0, hi => simp at hi; subst hi; exact ⟨rfl, rfl⟩
  | 1, hi => simp at hi; subst hi; exact ⟨rfl, rfl⟩
  | j + 2, hi => simp at hi)) g10
 have g11 : ∃ x, DataW.trod enc Tryz.prog w base spare held n 22 [c13] = some x := ⟨xs[11]'(by rw [hxl]; decide), by have h := hg 11 _ rfl; rw [List.getElem?_eq_getElem (by rw [hxl]; decide)] at h; exact h⟩
 obtain ⟨x11, g11⟩ := g11
 obtain ⟨b11, r11, B11⟩ := read_intsB Tryz.underlying22 Tryz.underlying5 (by kernel_rfl) g11
 obtain ⟨a11, k11, rfl⟩ := r11.form
 exact ⟨⟨z0, z1, z2, z3, z4, y5, y6, z7, z8, y9, y10, ⟨0, a11, k11, b11⟩⟩, rfl, ⟨r5, r6, r9, r10, r11⟩, B5, B6, fun x hx => by have := B11 x hx; exact ⟨this.1, this.2⟩⟩
end
end Go.Proofs.YtkdohacgkjpopaaGreat
