import Derived.Test.YtaojjcnmififoaaGreatG01
namespace Go.Proofs.YtaojjcnmififoaaGreat
set_option maxRecDepth 100000
set_option maxHeartbeats 16000000
set_option linter.unusedVariables false
set_option linter.unusedSimpArgs false
open Go.RowKit
theorem jfF (txn prev page slot : Int) (af : Bool) (ah : Option Addr) (ai ag : Nat) (ak : Bool) (ao : Option Addr) (ap al : Nat) (uN nT : Int) (aL : Option Addr) (aI aK : Nat) (aD : Option Addr) (av aF : Nat) (ax : Option Addr) (aj ay : Nat) (w : World) (EX b2 b5 b6 : Bool) (PF : Int) (fh : ∀ wx, Same w wx → Calls Tryz.prog 35 #[.int .i64 6, .int .i64 1, .int .i64 8] wx fun e w' => e = .returned (.bool true) ∧ Same wx w') (hex : ∀ wx, Same w wx → Calls Tryz.prog 75 #[.agg #[.int .i64 6, .int .i64 txn, .int .i64 prev, .int .i64 page, .int .i64 slot, .bool af, .slice ah ai ag, .bool ak, .slice ao ap al, .int .i64 uN, .int .i64 nT, .slice aL aI aK, .slice aD av aF, .slice ax aj ay]] wx fun e w' => e = .returned (.bool EX) ∧ Same wx w') (ff : ∀ wx, Same w wx → Calls Tryz.prog 35 #[.int .i64 prev, .int .i64 0, .int .i64 1099511627776] wx fun e w' => e = .returned (.bool b2) ∧ Same wx w') (gN : ∀ wx, Same w wx → Calls Tryz.prog 76 #[.agg #[.bool af, .slice ah ai ag]] wx fun e w' => e = .returned (.bool b5) ∧ Same wx w') (gQ : ∀ wx, Same w wx → Calls Tryz.prog 76 #[.agg #[.bool ak, .slice ao ap al]] wx fun e w' => e = .returned (.bool b6) ∧ Same wx w') :
  Calls Tryz.prog 64 #[.agg #[.int .i64 6, .int .i64 txn, .int .i64 prev, .int .i64 page, .int .i64 slot, .bool af, .slice ah ai ag, .bool ak, .slice ao ap al, .int .i64 uN, .int .i64 nT, .slice aL aI aK, .slice aD av aF, .slice ax aj ay]] w fun e w' => e = .returned (.int .i64 (if EX = true then 2 else (if b2 = false then 4 else (if b5 = false then 6 else (if b6 = false then 6 else (0)))))) ∧ Same w w' := by
 obtain ⟨aJ, bm⟩ := new1 w [.int .i64 6, .int .i64 txn, .int .i64 prev, .int .i64 page, .int .i64 slot, .bool af, .slice ah ai ag, .bool ak, .slice ao ap al, .int .i64 uN, .int .i64 nT, .slice aL aI aK, .slice aD av aF, .slice ax aj ay] 50
 go_enter Tryz.func64, Tryz.ntmps64
 go_wp2_with fail
 refine (fh _ aJ.out).mono ?_
 rintro e w1 ⟨rfl, hk⟩
 have aM := hid (aJ.out.trans hk)
 have bf := hid (bm.out.same hk)
 clear hk aJ bm
 obtain ⟨d0, d1, d2, d3, d4, d5, d6, d7, d8, d9, cD, cw, cA, cC⟩ := bf.out.all14
 go_wp2_with fail
 refine (hex _ aM.out).mono ?_
 rintro e w2 ⟨rfl, hk⟩
 clear d0 d1 d2 d3 d4 d5 d6 d7 d8 d9 cD cw cA cC
 have aY := hid (aM.out.trans hk)
 have cm := hid (bf.out.same hk)
 clear hk aM bf
 obtain ⟨d0, d1, d2, d3, d4, d5, d6, d7, d8, d9, cD, cw, cA, cC⟩ := cm.out.all14
 cases EX with
 | true =>
  go_wp2
  go_ret
  exact ⟨by first | rfl | simp, aY.out⟩
 | false =>
  go_wp2_with fail
  refine (ff _ aY.out).mono ?_
  rintro e w3 ⟨rfl, hk⟩
  clear d0 d1 d2 d3 d4 d5 d6 d7 d8 d9 cD cw cA cC
  have dt := hid (aY.out.trans hk)
  have fo := hid (cm.out.same hk)
  clear hk aY cm
  obtain ⟨d0, d1, d2, d3, d4, d5, d6, d7, d8, d9, cD, cw, cA, cC⟩ := fo.out.all14
  cases b2 with
  | false =>
   go_wp2
   go_ret
   exact ⟨by first | rfl | simp, dt.out⟩
  | true =>
   go_wp2_with fail
   refine (gN _ dt.out).mono ?_
   rintro e w4 ⟨rfl, hk⟩
   clear d0 d1 d2 d3 d4 d5 d6 d7 d8 d9 cD cw cA cC
   have cu := hid (dt.out.trans hk)
   have fV := hid (fo.out.same hk)
   clear hk dt fo
   obtain ⟨d0, d1, d2, d3, d4, d5, d6, d7, d8, d9, cD, cw, cA, cC⟩ := fV.out.all14
   cases b5 with
   | false =>
    go_wp2
    go_ret
    exact ⟨by first | rfl | simp, cu.out⟩
   | true =>
    go_wp2_with fail
    refine (gQ _ cu.out).mono ?_
    rintro e w5 ⟨rfl, hk⟩
    clear d0 d1 d2 d3 d4 d5 d6 d7 d8 d9 cD cw cA cC
    have dp := hid (cu.out.trans hk)
    have fH := hid (fV.out.same hk)
    clear hk cu fV
    obtain ⟨d0, d1, d2, d3, d4, d5, d6, d7, d8, d9, cD, cw, cA, cC⟩ := fH.out.all14
    cases b6 with
    | false =>
     go_wp2
     go_ret
     exact ⟨by first | rfl | simp, dp.out⟩
    | true =>
     go_wp2
     go_ret
     exact ⟨by first | rfl | simp, dp.out⟩
theorem jfG (txn prev page slot : Int) (af : Bool) (ah : Option Addr) (ai ag : Nat) (ak : Bool) (ao : Option Addr) (ap al : Nat) (uN nT : Int) (aL : Option Addr) (aI aK : Nat) (aD : Option Addr) (av aF : Nat) (ax : Option Addr) (aj ay : Nat) (w : World) (EX b2 b5 b6 b8 : Bool) (PF : Int) (fh : ∀ wx, Same w wx → Calls Tryz.prog 35 #[.int .i64 7, .int .i64 1, .int .i64 8] wx fun e w' => e = .returned (.bool true) ∧ Same wx w') (hex : ∀ wx, Same w wx → Calls Tryz.prog 75 #[.agg #[.int .i64 7, .int .i64 txn, .int .i64 prev, .int .i64 page, .int .i64 slot, .bool af, .slice ah ai ag, .bool ak, .slice ao ap al, .int .i64 uN, .int .i64 nT, .slice aL aI aK, .slice aD av aF, .slice ax aj ay]] wx fun e w' => e = .returned (.bool EX) ∧ Same wx w') (ff : ∀ wx, Same w wx → Calls Tryz.prog 35 #[.int .i64 prev, .int .i64 0, .int .i64 1099511627776] wx fun e w' => e = .returned (.bool b2) ∧ Same wx w') (gN : ∀ wx, Same w wx → Calls Tryz.prog 76 #[.agg #[.bool af, .slice ah ai ag]] wx fun e w' => e = .returned (.bool b5) ∧ Same wx w') (gQ : ∀ wx, Same w wx → Calls Tryz.prog 76 #[.agg #[.bool ak, .slice ao ap al]] wx fun e w' => e = .returned (.bool b6) ∧ Same wx w') (G5 : ∀ wx, Same w wx → Calls Tryz.prog 77 #[.agg #[.int .i64 7, .int .i64 txn, .int .i64 prev, .int .i64 page, .int .i64 slot, .bool af, .slice ah ai ag, .bool ak, .slice ao ap al, .int .i64 uN, .int .i64 nT, .slice aL aI aK, .slice aD av aF, .slice ax aj ay]] wx fun e w' => e = .returned (.bool b8) ∧ Same wx w') :
  Calls Tryz.prog 64 #[.agg #[.int .i64 7, .int .i64 txn, .int .i64 prev, .int .i64 page, .int .i64 slot, .bool af, .slice ah ai ag, .bool ak, .slice ao ap al, .int .i64 uN, .int .i64 nT, .slice aL aI aK, .slice aD av aF, .slice ax aj ay]] w fun e w' => e = .returned (.int .i64 (if EX = true then 2 else (if b2 = false then 4 else (if b5 = false then 6 else (if b6 = false then 6 else (if b8 = false then 8 else (0))))))) ∧ Same w w' := by
 obtain ⟨aJ, bm⟩ := new1 w [.int .i64 7, .int .i64 txn, .int .i64 prev, .int .i64 page, .int .i64 slot, .bool af, .slice ah ai ag, .bool ak, .slice ao ap al, .int .i64 uN, .int .i64 nT, .slice aL aI aK, .slice aD av aF, .slice ax aj ay] 50
 go_enter Tryz.func64, Tryz.ntmps64
 go_wp2_with fail
 refine (fh _ aJ.out).mono ?_
 rintro e w1 ⟨rfl, hk⟩
 have aM := hid (aJ.out.trans hk)
 have bf := hid (bm.out.same hk)
 clear hk aJ bm
 obtain ⟨d0, d1, d2, d3, d4, d5, d6, d7, d8, d9, cD, cw, cA, cC⟩ := bf.out.all14
 go_wp2_with fail
 refine (hex _ aM.out).mono ?_
 rintro e w2 ⟨rfl, hk⟩
 clear d0 d1 d2 d3 d4 d5 d6 d7 d8 d9 cD cw cA cC
 have aY := hid (aM.out.trans hk)
 have cm := hid (bf.out.same hk)
 clear hk aM bf
 obtain ⟨d0, d1, d2, d3, d4, d5, d6, d7, d8, d9, cD, cw, cA, cC⟩ := cm.out.all14
 cases EX with
 | true =>
  go_wp2
  go_ret
  exact ⟨by first | rfl | simp, aY.out⟩
 | false =>
  go_wp2_with fail
  refine (ff _ aY.out).mono ?_
  rintro e w3 ⟨rfl, hk⟩
  clear d0 d1 d2 d3 d4 d5 d6 d7 d8 d9 cD cw cA cC
  have dt := hid (aY.out.trans hk)
  have fo := hid (cm.out.same hk)
  clear hk aY cm
  obtain ⟨d0, d1, d2, d3, d4, d5, d6, d7, d8, d9, cD, cw, cA, cC⟩ := fo.out.all14
  cases b2 with
  | false =>
   go_wp2
   go_ret
   exact ⟨by first | rfl | simp, dt.out⟩
  | true =>
   go_wp2_with fail
   refine (gN _ dt.out).mono ?_
   rintro e w4 ⟨rfl, hk⟩
   clear d0 d1 d2 d3 d4 d5 d6 d7 d8 d9 cD cw cA cC
   have cu := hid (dt.out.trans hk)
   have fV := hid (fo.out.same hk)
   clear hk dt fo
   obtain ⟨d0, d1, d2, d3, d4, d5, d6, d7, d8, d9, cD, cw, cA, cC⟩ := fV.out.all14
   cases b5 with
   | false =>
    go_wp2
    go_ret
    exact ⟨by first | rfl | simp, cu.out⟩
   | true =>
    go_wp2_with fail
    refine (gQ _ cu.out).mono ?_
    rintro e w5 ⟨rfl, hk⟩
    clear d0 d1 d2 d3 d4 d5 d6 d7 d8 d9 cD cw cA cC
    have dp := hid (cu.out.trans hk)
    have fH := hid (fV.out.same hk)
    clear hk cu fV
    obtain ⟨d0, d1, d2, d3, d4, d5, d6, d7, d8, d9, cD, cw, cA, cC⟩ := fH.out.all14
    cases b6 with
    | false =>
     go_wp2
     go_ret
     exact ⟨by first | rfl | simp, dp.out⟩
    | true =>
     go_wp2_with fail
     refine (G5 _ dp.out).mono ?_
     rintro e w6 ⟨rfl, hk⟩
     clear d0 d1 d2 d3 d4 d5 d6 d7 d8 d9 cD cw cA cC
     have eh := hid (dp.out.trans hk)
     have ki := hid (fH.out.same hk)
     clear hk dp fH
     obtain ⟨d0, d1, d2, d3, d4, d5, d6, d7, d8, d9, cD, cw, cA, cC⟩ := ki.out.all14
     cases b8 with
     | false =>
      go_wp2
      go_ret
      exact ⟨by first | rfl | simp, eh.out⟩
     | true =>
      go_wp2
      go_ret
      exact ⟨by first | rfl | simp, eh.out⟩
theorem jfH (txn prev page slot : Int) (af : Bool) (ah : Option Addr) (ai ag : Nat) (ak : Bool) (ao : Option Addr) (ap al : Nat) (uN nT : Int) (aL : Option Addr) (aI aK : Nat) (aD : Option Addr) (av aF : Nat) (ax : Option Addr) (aj ay : Nat) (w : World) (EX b2 b3 b5 b6 : Bool) (PF : Int) (fh : ∀ wx, Same w wx → Calls Tryz.prog 35 #[.int .i64 8, .int .i64 1, .int .i64 8] wx fun e w' => e = .returned (.bool true) ∧ Same wx w') (hex : ∀ wx, Same w wx → Calls Tryz.prog 75 #[.agg #[.int .i64 8, .int .i64 txn, .int .i64 prev, .int .i64 page, .int .i64 slot, .bool af, .slice ah ai ag, .bool ak, .slice ao ap al, .int .i64 uN, .int .i64 nT, .slice aL aI aK, .slice aD av aF, .slice ax aj ay]] wx fun e w' => e = .returned (.bool EX) ∧ Same wx w') (ff : ∀ wx, Same w wx → Calls Tryz.prog 35 #[.int .i64 prev, .int .i64 0, .int .i64 1099511627776] wx fun e w' => e = .returned (.bool b2) ∧ Same wx w') (kX : ∀ wx, Same w wx → Calls Tryz.prog 35 #[.int .i64 page, .int .i64 0, .int .i64 15] wx fun e w' => e = .returned (.bool b3) ∧ Same wx w') (gN : ∀ wx, Same w wx → Calls Tryz.prog 76 #[.agg #[.bool af, .slice ah ai ag]] wx fun e w' => e = .returned (.bool b5) ∧ Same wx w') (gQ : ∀ wx, Same w wx → Calls Tryz.prog 76 #[.agg #[.bool ak, .slice ao ap al]] wx fun e w' => e = .returned (.bool b6) ∧ Same wx w') (EQ : ∀ wx, Same w wx → Calls Tryz.prog 78 #[.slice ax aj ay, .int .i64 page] wx fun e w' => e = .returned (.int .i64 PF) ∧ Same wx w') :
  Calls Tryz.prog 64 #[.agg #[.int .i64 8, .int .i64 txn, .int .i64 prev, .int .i64 page, .int .i64 slot, .bool af, .slice ah ai ag, .bool ak, .slice ao ap al, .int .i64 uN, .int .i64 nT, .slice aL aI aK, .slice aD av aF, .slice ax aj ay]] w fun e w' => e = .returned (.int .i64 (if EX = true then 2 else (if b2 = false then 4 else (if b3 = false then 5 else (if b5 = false then 6 else (if b6 = false then 6 else (if PF ≠ 0 then 9 else (0)))))))) ∧ Same w w' := by
 obtain ⟨aJ, bm⟩ := new1 w [.int .i64 8, .int .i64 txn, .int .i64 prev, .int .i64 page, .int .i64 slot, .bool af, .slice ah ai ag, .bool ak, .slice ao ap al, .int .i64 uN, .int .i64 nT, .slice aL aI aK, .slice aD av aF, .slice ax aj ay] 50
 go_enter Tryz.func64, Tryz.ntmps64
 go_wp2_with fail
 refine (fh _ aJ.out).mono ?_
 rintro e w1 ⟨rfl, hk⟩
 have aM := hid (aJ.out.trans hk)
 have bf := hid (bm.out.same hk)
 clear hk aJ bm
 obtain ⟨d0, d1, d2, d3, d4, d5, d6, d7, d8, d9, cD, cw, cA, cC⟩ := bf.out.all14
 go_wp2_with fail
 refine (hex _ aM.out).mono ?_
 rintro e w2 ⟨rfl, hk⟩
 clear d0 d1 d2 d3 d4 d5 d6 d7 d8 d9 cD cw cA cC
 have aY := hid (aM.out.trans hk)
 have cm := hid (bf.out.same hk)
 clear hk aM bf
 obtain ⟨d0, d1, d2, d3, d4, d5, d6, d7, d8, d9, cD, cw, cA, cC⟩ := cm.out.all14
 cases EX with
 | true =>
  go_wp2
  go_ret
  exact ⟨by first | rfl | simp, aY.out⟩
 | false =>
  go_wp2_with fail
  refine (ff _ aY.out).mono ?_
  rintro e w3 ⟨rfl, hk⟩
  clear d0 d1 d2 d3 d4 d5 d6 d7 d8 d9 cD cw cA cC
  have dt := hid (aY.out.trans hk)
  have fo := hid (cm.out.same hk)
  clear hk aY cm
  obtain ⟨d0, d1, d2, d3, d4, d5, d6, d7, d8, d9, cD, cw, cA, cC⟩ := fo.out.all14
  cases b2 with
  | false =>
   go_wp2
   go_ret
   exact ⟨by first | rfl | simp, dt.out⟩
  | true =>
   go_wp2_with fail
   refine (kX _ dt.out).mono ?_
   rintro e w4 ⟨rfl, hk⟩
   clear d0 d1 d2 d3 d4 d5 d6 d7 d8 d9 cD cw cA cC
   have cu := hid (dt.out.trans hk)
   have fV := hid (fo.out.same hk)
   clear hk dt fo
   obtain ⟨d0, d1, d2, d3, d4, d5, d6, d7, d8, d9, cD, cw, cA, cC⟩ := fV.out.all14
   cases b3 with
   | false =>
    go_wp2
    go_ret
    exact ⟨by first | rfl | simp, cu.out⟩
   | true =>
    go_wp2_with fail
    refine (gN _ cu.out).mono ?_
    rintro e w5 ⟨rfl, hk⟩
    clear d0 d1 d2 d3 d4 d5 d6 d7 d8 d9 cD cw cA cC
    have dp := hid (cu.out.trans hk)
    have fH := hid (fV.out.same hk)
    clear hk cu fV
    obtain ⟨d0, d1, d2, d3, d4, d5, d6, d7, d8, d9, cD, cw, cA, cC⟩ := fH.out.all14
    cases b5 with
    | false =>
     go_wp2
     go_ret
     exact ⟨by first | rfl | simp, dp.out⟩
    | true =>
     go_wp2_with fail
     refine (gQ _ dp.out).mono ?_
     rintro e w6 ⟨rfl, hk⟩
     clear d0 d1 d2 d3 d4 d5 d6 d7 d8 d9 cD cw cA cC
     have eh := hid (dp.out.trans hk)
     have ki := hid (fH.out.same hk)
     clear hk dp fH
     obtain ⟨d0, d1, d2, d3, d4, d5, d6, d7, d8, d9, cD, cw, cA, cC⟩ := ki.out.all14
     cases b6 with
     | false =>
      go_wp2
      go_ret
      exact ⟨by first | rfl | simp, eh.out⟩
     | true =>
      go_wp2_with fail
      refine (EQ _ eh.out).mono ?_
      rintro e w7 ⟨rfl, hk⟩
      clear d0 d1 d2 d3 d4 d5 d6 d7 d8 d9 cD cw cA cC
      have dd := hid (eh.out.trans hk)
      have jU := hid (ki.out.same hk)
      clear hk eh ki
      obtain ⟨d0, d1, d2, d3, d4, d5, d6, d7, d8, d9, cD, cw, cA, cC⟩ := jU.out.all14
      by_cases hz : PF = 0
      ·subst hz
       go_wp2
       go_ret
       exact ⟨rfl, dd.out⟩
      ·go_wp2
       go_ret
       exact ⟨by simp [hz], dd.out⟩
end Go.Proofs.YtaojjcnmififoaaGreat
