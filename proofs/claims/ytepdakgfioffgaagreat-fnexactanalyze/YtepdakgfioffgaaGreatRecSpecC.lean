import Derived.Test.YtepdakgfioffgaaGreatTyLogRecord
namespace Go.Proofs.YtepdakgfioffgaaGreat
set_option maxRecDepth 100000
set_option maxHeartbeats 16000000
set_option linter.unusedVariables false
set_option linter.unusedSimpArgs false
open Go.RowKit
theorem recS_6 (txn prev page slot : Int) (af : Bool) (aj : Option Addr) (ah ag : Nat) (ay : Bool) (aB : Option Addr) (az aA : Nat) (uN nT : Int) (bi : Option Addr) (aW bh : Nat) (aI : Option Addr) (aC aH : Nat) (aE : Option Addr) (av aD : Nat) (w : World) (EX b2 b5 b6 : Bool) (PF : Int) (jt : ∀ wx, Same w wx → Calls Tryz.prog 16 #[.int .i64 6, .int .i64 1, .int .i64 8] wx fun e w' => e = .returned (.bool true) ∧ Same wx w') (hex : ∀ wx, Same w wx → Calls Tryz.prog 44 #[.agg #[.int .i64 6, .int .i64 txn, .int .i64 prev, .int .i64 page, .int .i64 slot, .bool af, .slice aj ah ag, .bool ay, .slice aB az aA, .int .i64 uN, .int .i64 nT, .slice bi aW bh, .slice aI aC aH, .slice aE av aD]] wx fun e w' => e = .returned (.bool EX) ∧ Same wx w') (js : ∀ wx, Same w wx → Calls Tryz.prog 16 #[.int .i64 prev, .int .i64 0, .int .i64 1099511627776] wx fun e w' => e = .returned (.bool b2) ∧ Same wx w') (kE : ∀ wx, Same w wx → Calls Tryz.prog 45 #[.agg #[.bool af, .slice aj ah ag]] wx fun e w' => e = .returned (.bool b5) ∧ Same wx w') (kK : ∀ wx, Same w wx → Calls Tryz.prog 45 #[.agg #[.bool ay, .slice aB az aA]] wx fun e w' => e = .returned (.bool b6) ∧ Same wx w') :
  Calls Tryz.prog 17 #[.agg #[.int .i64 6, .int .i64 txn, .int .i64 prev, .int .i64 page, .int .i64 slot, .bool af, .slice aj ah ag, .bool ay, .slice aB az aA, .int .i64 uN, .int .i64 nT, .slice bi aW bh, .slice aI aC aH, .slice aE av aD]] w fun e w' => e = .returned (.int .i64 (if EX = true then 2 else (if b2 = false then 4 else (if b5 = false then 6 else (if b6 = false then 6 else (0)))))) ∧ Same w w' := by
 obtain ⟨bk, cv⟩ := new1 w [.int .i64 6, .int .i64 txn, .int .i64 prev, .int .i64 page, .int .i64 slot, .bool af, .slice aj ah ag, .bool ay, .slice aB az aA, .int .i64 uN, .int .i64 nT, .slice bi aW bh, .slice aI aC aH, .slice aE av aD] 49
 go_enter Tryz.func17, Tryz.ntmps17
 go_wp2_with fail
 refine (jt _ bk.out).mono ?_
 rintro e w1 ⟨rfl, hk⟩
 have bq := hid (bk.out.trans hk)
 have bG := hid (cv.out.same hk)
 clear hk bk cv
 obtain ⟨d0, d1, d2, d3, d4, d5, d6, d7, d8, d9, eh, eo, er, ec⟩ := bG.out.all14
 go_wp2_with fail
 refine (hex _ bq.out).mono ?_
 rintro e w2 ⟨rfl, hk⟩
 clear d0 d1 d2 d3 d4 d5 d6 d7 d8 d9 eh eo er ec
 have cw := hid (bq.out.trans hk)
 have cx := hid (bG.out.same hk)
 clear hk bq bG
 obtain ⟨d0, d1, d2, d3, d4, d5, d6, d7, d8, d9, eh, eo, er, ec⟩ := cx.out.all14
 cases EX with
 | true =>
  go_wp2
  go_ret
  exact ⟨by first | rfl | simp, cw.out⟩
 | false =>
  go_wp2_with fail
  refine (js _ cw.out).mono ?_
  rintro e w3 ⟨rfl, hk⟩
  clear d0 d1 d2 d3 d4 d5 d6 d7 d8 d9 eh eo er ec
  have dZ := hid (cw.out.trans hk)
  have gv := hid (cx.out.same hk)
  clear hk cw cx
  obtain ⟨d0, d1, d2, d3, d4, d5, d6, d7, d8, d9, eh, eo, er, ec⟩ := gv.out.all14
  cases b2 with
  | false =>
   go_wp2
   go_ret
   exact ⟨by first | rfl | simp, dZ.out⟩
  | true =>
   go_wp2_with fail
   refine (kE _ dZ.out).mono ?_
   rintro e w4 ⟨rfl, hk⟩
   clear d0 d1 d2 d3 d4 d5 d6 d7 d8 d9 eh eo er ec
   have fA := hid (dZ.out.trans hk)
   have i5 := hid (gv.out.same hk)
   clear hk dZ gv
   obtain ⟨d0, d1, d2, d3, d4, d5, d6, d7, d8, d9, eh, eo, er, ec⟩ := i5.out.all14
   cases b5 with
   | false =>
    go_wp2
    go_ret
    exact ⟨by first | rfl | simp, fA.out⟩
   | true =>
    go_wp2_with fail
    refine (kK _ fA.out).mono ?_
    rintro e w5 ⟨rfl, hk⟩
    clear d0 d1 d2 d3 d4 d5 d6 d7 d8 d9 eh eo er ec
    have fM := hid (fA.out.trans hk)
    have jQ := hid (i5.out.same hk)
    clear hk fA i5
    obtain ⟨d0, d1, d2, d3, d4, d5, d6, d7, d8, d9, eh, eo, er, ec⟩ := jQ.out.all14
    cases b6 with
    | false =>
     go_wp2
     go_ret
     exact ⟨by first | rfl | simp, fM.out⟩
    | true =>
     go_wp2
     go_ret
     exact ⟨by first | rfl | simp, fM.out⟩
theorem recS_7 (txn prev page slot : Int) (af : Bool) (aj : Option Addr) (ah ag : Nat) (ay : Bool) (aB : Option Addr) (az aA : Nat) (uN nT : Int) (bi : Option Addr) (aW bh : Nat) (aI : Option Addr) (aC aH : Nat) (aE : Option Addr) (av aD : Nat) (w : World) (EX b2 b5 b6 b8 : Bool) (PF : Int) (jt : ∀ wx, Same w wx → Calls Tryz.prog 16 #[.int .i64 7, .int .i64 1, .int .i64 8] wx fun e w' => e = .returned (.bool true) ∧ Same wx w') (hex : ∀ wx, Same w wx → Calls Tryz.prog 44 #[.agg #[.int .i64 7, .int .i64 txn, .int .i64 prev, .int .i64 page, .int .i64 slot, .bool af, .slice aj ah ag, .bool ay, .slice aB az aA, .int .i64 uN, .int .i64 nT, .slice bi aW bh, .slice aI aC aH, .slice aE av aD]] wx fun e w' => e = .returned (.bool EX) ∧ Same wx w') (js : ∀ wx, Same w wx → Calls Tryz.prog 16 #[.int .i64 prev, .int .i64 0, .int .i64 1099511627776] wx fun e w' => e = .returned (.bool b2) ∧ Same wx w') (kE : ∀ wx, Same w wx → Calls Tryz.prog 45 #[.agg #[.bool af, .slice aj ah ag]] wx fun e w' => e = .returned (.bool b5) ∧ Same wx w') (kK : ∀ wx, Same w wx → Calls Tryz.prog 45 #[.agg #[.bool ay, .slice aB az aA]] wx fun e w' => e = .returned (.bool b6) ∧ Same wx w') (KI : ∀ wx, Same w wx → Calls Tryz.prog 46 #[.agg #[.int .i64 7, .int .i64 txn, .int .i64 prev, .int .i64 page, .int .i64 slot, .bool af, .slice aj ah ag, .bool ay, .slice aB az aA, .int .i64 uN, .int .i64 nT, .slice bi aW bh, .slice aI aC aH, .slice aE av aD]] wx fun e w' => e = .returned (.bool b8) ∧ Same wx w') :
  Calls Tryz.prog 17 #[.agg #[.int .i64 7, .int .i64 txn, .int .i64 prev, .int .i64 page, .int .i64 slot, .bool af, .slice aj ah ag, .bool ay, .slice aB az aA, .int .i64 uN, .int .i64 nT, .slice bi aW bh, .slice aI aC aH, .slice aE av aD]] w fun e w' => e = .returned (.int .i64 (if EX = true then 2 else (if b2 = false then 4 else (if b5 = false then 6 else (if b6 = false then 6 else (if b8 = false then 8 else (0))))))) ∧ Same w w' := by
 obtain ⟨bk, cv⟩ := new1 w [.int .i64 7, .int .i64 txn, .int .i64 prev, .int .i64 page, .int .i64 slot, .bool af, .slice aj ah ag, .bool ay, .slice aB az aA, .int .i64 uN, .int .i64 nT, .slice bi aW bh, .slice aI aC aH, .slice aE av aD] 49
 go_enter Tryz.func17, Tryz.ntmps17
 go_wp2_with fail
 refine (jt _ bk.out).mono ?_
 rintro e w1 ⟨rfl, hk⟩
 have bq := hid (bk.out.trans hk)
 have bG := hid (cv.out.same hk)
 clear hk bk cv
 obtain ⟨d0, d1, d2, d3, d4, d5, d6, d7, d8, d9, eh, eo, er, ec⟩ := bG.out.all14
 go_wp2_with fail
 refine (hex _ bq.out).mono ?_
 rintro e w2 ⟨rfl, hk⟩
 clear d0 d1 d2 d3 d4 d5 d6 d7 d8 d9 eh eo er ec
 have cw := hid (bq.out.trans hk)
 have cx := hid (bG.out.same hk)
 clear hk bq bG
 obtain ⟨d0, d1, d2, d3, d4, d5, d6, d7, d8, d9, eh, eo, er, ec⟩ := cx.out.all14
 cases EX with
 | true =>
  go_wp2
  go_ret
  exact ⟨by first | rfl | simp, cw.out⟩
 | false =>
  go_wp2_with fail
  refine (js _ cw.out).mono ?_
  rintro e w3 ⟨rfl, hk⟩
  clear d0 d1 d2 d3 d4 d5 d6 d7 d8 d9 eh eo er ec
  have dZ := hid (cw.out.trans hk)
  have gv := hid (cx.out.same hk)
  clear hk cw cx
  obtain ⟨d0, d1, d2, d3, d4, d5, d6, d7, d8, d9, eh, eo, er, ec⟩ := gv.out.all14
  cases b2 with
  | false =>
   go_wp2
   go_ret
   exact ⟨by first | rfl | simp, dZ.out⟩
  | true =>
   go_wp2_with fail
   refine (kE _ dZ.out).mono ?_
   rintro e w4 ⟨rfl, hk⟩
   clear d0 d1 d2 d3 d4 d5 d6 d7 d8 d9 eh eo er ec
   have fA := hid (dZ.out.trans hk)
   have i5 := hid (gv.out.same hk)
   clear hk dZ gv
   obtain ⟨d0, d1, d2, d3, d4, d5, d6, d7, d8, d9, eh, eo, er, ec⟩ := i5.out.all14
   cases b5 with
   | false =>
    go_wp2
    go_ret
    exact ⟨by first | rfl | simp, fA.out⟩
   | true =>
    go_wp2_with fail
    refine (kK _ fA.out).mono ?_
    rintro e w5 ⟨rfl, hk⟩
    clear d0 d1 d2 d3 d4 d5 d6 d7 d8 d9 eh eo er ec
    have fM := hid (fA.out.trans hk)
    have jQ := hid (i5.out.same hk)
    clear hk fA i5
    obtain ⟨d0, d1, d2, d3, d4, d5, d6, d7, d8, d9, eh, eo, er, ec⟩ := jQ.out.all14
    cases b6 with
    | false =>
     go_wp2
     go_ret
     exact ⟨by first | rfl | simp, fM.out⟩
    | true =>
     go_wp2_with fail
     refine (KI _ fM.out).mono ?_
     rintro e w6 ⟨rfl, hk⟩
     clear d0 d1 d2 d3 d4 d5 d6 d7 d8 d9 eh eo er ec
     have jd := hid (fM.out.trans hk)
     have nf := hid (jQ.out.same hk)
     clear hk fM jQ
     obtain ⟨d0, d1, d2, d3, d4, d5, d6, d7, d8, d9, eh, eo, er, ec⟩ := nf.out.all14
     cases b8 with
     | false =>
      go_wp2
      go_ret
      exact ⟨by first | rfl | simp, jd.out⟩
     | true =>
      go_wp2
      go_ret
      exact ⟨by first | rfl | simp, jd.out⟩
theorem recS_8 (txn prev page slot : Int) (af : Bool) (aj : Option Addr) (ah ag : Nat) (ay : Bool) (aB : Option Addr) (az aA : Nat) (uN nT : Int) (bi : Option Addr) (aW bh : Nat) (aI : Option Addr) (aC aH : Nat) (aE : Option Addr) (av aD : Nat) (w : World) (EX b2 b3 b5 b6 : Bool) (PF : Int) (jt : ∀ wx, Same w wx → Calls Tryz.prog 16 #[.int .i64 8, .int .i64 1, .int .i64 8] wx fun e w' => e = .returned (.bool true) ∧ Same wx w') (hex : ∀ wx, Same w wx → Calls Tryz.prog 44 #[.agg #[.int .i64 8, .int .i64 txn, .int .i64 prev, .int .i64 page, .int .i64 slot, .bool af, .slice aj ah ag, .bool ay, .slice aB az aA, .int .i64 uN, .int .i64 nT, .slice bi aW bh, .slice aI aC aH, .slice aE av aD]] wx fun e w' => e = .returned (.bool EX) ∧ Same wx w') (js : ∀ wx, Same w wx → Calls Tryz.prog 16 #[.int .i64 prev, .int .i64 0, .int .i64 1099511627776] wx fun e w' => e = .returned (.bool b2) ∧ Same wx w') (ou : ∀ wx, Same w wx → Calls Tryz.prog 16 #[.int .i64 page, .int .i64 0, .int .i64 15] wx fun e w' => e = .returned (.bool b3) ∧ Same wx w') (kE : ∀ wx, Same w wx → Calls Tryz.prog 45 #[.agg #[.bool af, .slice aj ah ag]] wx fun e w' => e = .returned (.bool b5) ∧ Same wx w') (kK : ∀ wx, Same w wx → Calls Tryz.prog 45 #[.agg #[.bool ay, .slice aB az aA]] wx fun e w' => e = .returned (.bool b6) ∧ Same wx w') (TT : ∀ wx, Same w wx → Calls Tryz.prog 47 #[.slice aE av aD, .int .i64 page] wx fun e w' => e = .returned (.int .i64 PF) ∧ Same wx w') :
  Calls Tryz.prog 17 #[.agg #[.int .i64 8, .int .i64 txn, .int .i64 prev, .int .i64 page, .int .i64 slot, .bool af, .slice aj ah ag, .bool ay, .slice aB az aA, .int .i64 uN, .int .i64 nT, .slice bi aW bh, .slice aI aC aH, .slice aE av aD]] w fun e w' => e = .returned (.int .i64 (if EX = true then 2 else (if b2 = false then 4 else (if b3 = false then 5 else (if b5 = false then 6 else (if b6 = false then 6 else (if PF ≠ 0 then 9 else (0)))))))) ∧ Same w w' := by
 obtain ⟨bk, cv⟩ := new1 w [.int .i64 8, .int .i64 txn, .int .i64 prev, .int .i64 page, .int .i64 slot, .bool af, .slice aj ah ag, .bool ay, .slice aB az aA, .int .i64 uN, .int .i64 nT, .slice bi aW bh, .slice aI aC aH, .slice aE av aD] 49
 go_enter Tryz.func17, Tryz.ntmps17
 go_wp2_with fail
 refine (jt _ bk.out).mono ?_
 rintro e w1 ⟨rfl, hk⟩
 have bq := hid (bk.out.trans hk)
 have bG := hid (cv.out.same hk)
 clear hk bk cv
 obtain ⟨d0, d1, d2, d3, d4, d5, d6, d7, d8, d9, eh, eo, er, ec⟩ := bG.out.all14
 go_wp2_with fail
 refine (hex _ bq.out).mono ?_
 rintro e w2 ⟨rfl, hk⟩
 clear d0 d1 d2 d3 d4 d5 d6 d7 d8 d9 eh eo er ec
 have cw := hid (bq.out.trans hk)
 have cx := hid (bG.out.same hk)
 clear hk bq bG
 obtain ⟨d0, d1, d2, d3, d4, d5, d6, d7, d8, d9, eh, eo, er, ec⟩ := cx.out.all14
 cases EX with
 | true =>
  go_wp2
  go_ret
  exact ⟨by first | rfl | simp, cw.out⟩
 | false =>
  go_wp2_with fail
  refine (js _ cw.out).mono ?_
  rintro e w3 ⟨rfl, hk⟩
  clear d0 d1 d2 d3 d4 d5 d6 d7 d8 d9 eh eo er ec
  have dZ := hid (cw.out.trans hk)
  have gv := hid (cx.out.same hk)
  clear hk cw cx
  obtain ⟨d0, d1, d2, d3, d4, d5, d6, d7, d8, d9, eh, eo, er, ec⟩ := gv.out.all14
  cases b2 with
  | false =>
   go_wp2
   go_ret
   exact ⟨by first | rfl | simp, dZ.out⟩
  | true =>
   go_wp2_with fail
   refine (ou _ dZ.out).mono ?_
   rintro e w4 ⟨rfl, hk⟩
   clear d0 d1 d2 d3 d4 d5 d6 d7 d8 d9 eh eo er ec
   have fA := hid (dZ.out.trans hk)
   have i5 := hid (gv.out.same hk)
   clear hk dZ gv
   obtain ⟨d0, d1, d2, d3, d4, d5, d6, d7, d8, d9, eh, eo, er, ec⟩ := i5.out.all14
   cases b3 with
   | false =>
    go_wp2
    go_ret
    exact ⟨by first | rfl | simp, fA.out⟩
   | true =>
    go_wp2_with fail
    refine (kE _ fA.out).mono ?_
    rintro e w5 ⟨rfl, hk⟩
    clear d0 d1 d2 d3 d4 d5 d6 d7 d8 d9 eh eo er ec
    have fM := hid (fA.out.trans hk)
    have jQ := hid (i5.out.same hk)
    clear hk fA i5
    obtain ⟨d0, d1, d2, d3, d4, d5, d6, d7, d8, d9, eh, eo, er, ec⟩ := jQ.out.all14
    cases b5 with
    | false =>
     go_wp2
     go_ret
     exact ⟨by first | rfl | simp, fM.out⟩
    | true =>
     go_wp2_with fail
     refine (kK _ fM.out).mono ?_
     rintro e w6 ⟨rfl, hk⟩
     clear d0 d1 d2 d3 d4 d5 d6 d7 d8 d9 eh eo er ec
     have jd := hid (fM.out.trans hk)
     have nf := hid (jQ.out.same hk)
     clear hk fM jQ
     obtain ⟨d0, d1, d2, d3, d4, d5, d6, d7, d8, d9, eh, eo, er, ec⟩ := nf.out.all14
     cases b6 with
     | false =>
      go_wp2
      go_ret
      exact ⟨by first | rfl | simp, jd.out⟩
     | true =>
      go_wp2_with fail
      refine (TT _ jd.out).mono ?_
      rintro e w7 ⟨rfl, hk⟩
      clear d0 d1 d2 d3 d4 d5 d6 d7 d8 d9 eh eo er ec
      have fy := hid (jd.out.trans hk)
      have nu := hid (nf.out.same hk)
      clear hk jd nf
      obtain ⟨d0, d1, d2, d3, d4, d5, d6, d7, d8, d9, eh, eo, er, ec⟩ := nu.out.all14
      by_cases hz : PF = 0
      ·subst hz
       go_wp2
       go_ret
       exact ⟨rfl, fy.out⟩
      ·go_wp2
       go_ret
       exact ⟨by simp [hz], fy.out⟩
end Go.Proofs.YtepdakgfioffgaaGreat
