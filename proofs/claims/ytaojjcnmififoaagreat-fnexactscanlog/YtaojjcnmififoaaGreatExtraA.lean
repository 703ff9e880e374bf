import Derived.Test.YtaojjcnmififoaaGreatG01
namespace Go.Proofs.YtaojjcnmififoaaGreat
set_option maxRecDepth 100000
set_option maxHeartbeats 16000000
set_option linter.unusedVariables false
set_option linter.unusedSimpArgs false
open Go.RowKit
theorem jd9 (txn prev page slot : Int) (af : Bool) (ah : Option Addr) (ai ag : Nat) (ak : Bool) (ao : Option Addr) (ap al : Nat) (uN nT : Int) (aL : Option Addr) (aI aK : Nat) (aD : Option Addr) (av aF : Nat) (ax : Option Addr) (aj ay : Nat) (w : World)  (eM : aI ≤ maxLen) (ek : av ≤ maxLen) (ei : aj ≤ maxLen) :
  Calls Tryz.prog 75 #[.agg #[.int .i64 1, .int .i64 txn, .int .i64 prev, .int .i64 page, .int .i64 slot, .bool af, .slice ah ai ag, .bool ak, .slice ao ap al, .int .i64 uN, .int .i64 nT, .slice aL aI aK, .slice aD av aF, .slice ax aj ay]] w fun e w' => e = .returned (.bool (!(decide (0 = uN) && decide (0 = nT) && decide (aI = 0) && decide (av = 0) && decide (aj = 0)))) ∧ Same w w' := by
 unfold maxLen at eM ek ei
 by_cases quN : 0 = uN
 case neg =>
  rw [decide_eq_false quN]
  simp only [Bool.false_and, Bool.and_false, Bool.not_false]
  have wU : ¬ uN = 0 := fun e => quN e.symm
  obtain ⟨aJ, bm⟩ := new1 w [.int .i64 1, .int .i64 txn, .int .i64 prev, .int .i64 page, .int .i64 slot, .bool af, .slice ah ai ag, .bool ak, .slice ao ap al, .int .i64 uN, .int .i64 nT, .slice aL aI aK, .slice aD av aF, .slice ax aj ay] 50
  go_enter Tryz.func75, Tryz.ntmps75
  go_wp2
  go_ret
  exact ⟨rfl, aJ.out⟩
 subst quN
 rw [decide_eq_true rfl]
 by_cases qnT : 0 = nT
 case neg =>
  rw [decide_eq_false qnT]
  simp only [Bool.false_and, Bool.and_false, Bool.not_false]
  have wt : ¬ nT = 0 := fun e => qnT e.symm
  obtain ⟨aJ, bm⟩ := new1 w [.int .i64 1, .int .i64 txn, .int .i64 prev, .int .i64 page, .int .i64 slot, .bool af, .slice ah ai ag, .bool ak, .slice ao ap al, .int .i64 0, .int .i64 nT, .slice aL aI aK, .slice aD av aF, .slice ax aj ay] 50
  go_enter Tryz.func75, Tryz.ntmps75
  go_wp2
  go_ret
  exact ⟨rfl, aJ.out⟩
 subst qnT
 rw [decide_eq_true rfl]
 by_cases qtxns : aI = 0
 case neg =>
  rw [decide_eq_false qtxns]
  simp only [Bool.false_and, Bool.and_false, Bool.not_false]
  have j0 : (0 : Int) < aI := by omega
  obtain ⟨aJ, bm⟩ := new1 w [.int .i64 1, .int .i64 txn, .int .i64 prev, .int .i64 page, .int .i64 slot, .bool af, .slice ah ai ag, .bool ak, .slice ao ap al, .int .i64 0, .int .i64 0, .slice aL aI aK, .slice aD av aF, .slice ax aj ay] 50
  go_enter Tryz.func75, Tryz.ntmps75
  go_wp2
  go_ret
  exact ⟨by first | rfl | (simp; omega), aJ.out⟩
 subst qtxns
 rw [decide_eq_true rfl]
 by_cases qdirty : av = 0
 case neg =>
  rw [decide_eq_false qdirty]
  simp only [Bool.false_and, Bool.and_false, Bool.not_false]
  have iM : (0 : Int) < av := by omega
  obtain ⟨aJ, bm⟩ := new1 w [.int .i64 1, .int .i64 txn, .int .i64 prev, .int .i64 page, .int .i64 slot, .bool af, .slice ah ai ag, .bool ak, .slice ao ap al, .int .i64 0, .int .i64 0, .slice aL 0 aK, .slice aD av aF, .slice ax aj ay] 50
  go_enter Tryz.func75, Tryz.ntmps75
  go_wp2
  go_ret
  exact ⟨by first | rfl | (simp; omega), aJ.out⟩
 subst qdirty
 rw [decide_eq_true rfl]
 by_cases qimage : aj = 0
 case neg =>
  rw [decide_eq_false qimage]
  simp only [Bool.false_and, Bool.and_false, Bool.not_false]
  have iz : (0 : Int) < aj := by omega
  obtain ⟨aJ, bm⟩ := new1 w [.int .i64 1, .int .i64 txn, .int .i64 prev, .int .i64 page, .int .i64 slot, .bool af, .slice ah ai ag, .bool ak, .slice ao ap al, .int .i64 0, .int .i64 0, .slice aL 0 aK, .slice aD 0 aF, .slice ax aj ay] 50
  go_enter Tryz.func75, Tryz.ntmps75
  go_wp2
  go_ret
  exact ⟨by first | rfl | (simp; omega), aJ.out⟩
 subst qimage
 rw [decide_eq_true rfl]
 simp only [Bool.and_true, Bool.and_self, Bool.not_true]
 obtain ⟨aJ, bm⟩ := new1 w [.int .i64 1, .int .i64 txn, .int .i64 prev, .int .i64 page, .int .i64 slot, .bool af, .slice ah ai ag, .bool ak, .slice ao ap al, .int .i64 0, .int .i64 0, .slice aL 0 aK, .slice aD 0 aF, .slice ax 0 ay] 50
 go_enter Tryz.func75, Tryz.ntmps75
 go_wp2
 go_ret
 exact ⟨rfl, aJ.out⟩
theorem jea (txn prev page slot : Int) (af : Bool) (ah : Option Addr) (ai ag : Nat) (ak : Bool) (ao : Option Addr) (ap al : Nat) (uN nT : Int) (aL : Option Addr) (aI aK : Nat) (aD : Option Addr) (av aF : Nat) (ax : Option Addr) (aj ay : Nat) (w : World) (cj : Bool) (aX : ∀ wx, Same w wx → Calls Tryz.prog 105 #[.agg #[.bool af, .slice ah ai ag]] wx fun e w' => e = .returned (.bool cj) ∧ Same wx w') (eM : aI ≤ maxLen) (ek : av ≤ maxLen) (ei : aj ≤ maxLen) :
  Calls Tryz.prog 75 #[.agg #[.int .i64 2, .int .i64 txn, .int .i64 prev, .int .i64 page, .int .i64 slot, .bool af, .slice ah ai ag, .bool ak, .slice ao ap al, .int .i64 uN, .int .i64 nT, .slice aL aI aK, .slice aD av aF, .slice ax aj ay]] w fun e w' => e = .returned (.bool (!(cj && decide (0 = nT) && decide (aI = 0) && decide (av = 0) && decide (aj = 0)))) ∧ Same w w' := by
 unfold maxLen at eM ek ei
 cases cj with
 | false =>
  simp only [Bool.false_and, Bool.and_false, Bool.not_false]
  obtain ⟨aJ, bm⟩ := new1 w [.int .i64 2, .int .i64 txn, .int .i64 prev, .int .i64 page, .int .i64 slot, .bool af, .slice ah ai ag, .bool ak, .slice ao ap al, .int .i64 uN, .int .i64 nT, .slice aL aI aK, .slice aD av aF, .slice ax aj ay] 50
  go_enter Tryz.func75, Tryz.ntmps75
  go_wp2_with fail
  refine (aX _ aJ.out).mono ?_
  rintro e w1 ⟨rfl, hk⟩
  have aM := hid (aJ.out.trans hk)
  have bf := hid (bm.out.same hk)
  clear hk
  obtain ⟨cQ, cP, cO, cW, df, cY, cT, cR, cV, cX, bK, bJ, bI, bL⟩ := bf.out.all14
  go_wp2
  go_ret
  exact ⟨rfl, aM.out⟩
 | true =>
  by_cases qnT : 0 = nT
  case neg =>
   rw [decide_eq_false qnT]
   simp only [Bool.false_and, Bool.and_false, Bool.not_false]
   have wt : ¬ nT = 0 := fun e => qnT e.symm
   obtain ⟨aJ, bm⟩ := new1 w [.int .i64 2, .int .i64 txn, .int .i64 prev, .int .i64 page, .int .i64 slot, .bool af, .slice ah ai ag, .bool ak, .slice ao ap al, .int .i64 uN, .int .i64 nT, .slice aL aI aK, .slice aD av aF, .slice ax aj ay] 50
   go_enter Tryz.func75, Tryz.ntmps75
   go_wp2_with fail
   refine (aX _ aJ.out).mono ?_
   rintro e w1 ⟨rfl, hk⟩
   have aM := hid (aJ.out.trans hk)
   have bf := hid (bm.out.same hk)
   clear hk
   obtain ⟨cQ, cP, cO, cW, df, cY, cT, cR, cV, cX, bK, bJ, bI, bL⟩ := bf.out.all14
   go_wp2
   go_ret
   exact ⟨rfl, aM.out⟩
  subst qnT
  rw [decide_eq_true rfl]
  by_cases qtxns : aI = 0
  case neg =>
   rw [decide_eq_false qtxns]
   simp only [Bool.false_and, Bool.and_false, Bool.not_false]
   have j0 : (0 : Int) < aI := by omega
   obtain ⟨aJ, bm⟩ := new1 w [.int .i64 2, .int .i64 txn, .int .i64 prev, .int .i64 page, .int .i64 slot, .bool af, .slice ah ai ag, .bool ak, .slice ao ap al, .int .i64 uN, .int .i64 0, .slice aL aI aK, .slice aD av aF, .slice ax aj ay] 50
   go_enter Tryz.func75, Tryz.ntmps75
   go_wp2_with fail
   refine (aX _ aJ.out).mono ?_
   rintro e w1 ⟨rfl, hk⟩
   have aM := hid (aJ.out.trans hk)
   have bf := hid (bm.out.same hk)
   clear hk
   obtain ⟨cQ, cP, cO, cW, df, cY, cT, cR, cV, cX, bK, bJ, bI, bL⟩ := bf.out.all14
   go_wp2
   go_ret
   exact ⟨by first | rfl | (simp; omega), aM.out⟩
  subst qtxns
  rw [decide_eq_true rfl]
  by_cases qdirty : av = 0
  case neg =>
   rw [decide_eq_false qdirty]
   simp only [Bool.false_and, Bool.and_false, Bool.not_false]
   have iM : (0 : Int) < av := by omega
   obtain ⟨aJ, bm⟩ := new1 w [.int .i64 2, .int .i64 txn, .int .i64 prev, .int .i64 page, .int .i64 slot, .bool af, .slice ah ai ag, .bool ak, .slice ao ap al, .int .i64 uN, .int .i64 0, .slice aL 0 aK, .slice aD av aF, .slice ax aj ay] 50
   go_enter Tryz.func75, Tryz.ntmps75
   go_wp2_with fail
   refine (aX _ aJ.out).mono ?_
   rintro e w1 ⟨rfl, hk⟩
   have aM := hid (aJ.out.trans hk)
   have bf := hid (bm.out.same hk)
   clear hk
   obtain ⟨cQ, cP, cO, cW, df, cY, cT, cR, cV, cX, bK, bJ, bI, bL⟩ := bf.out.all14
   go_wp2
   go_ret
   exact ⟨by first | rfl | (simp; omega), aM.out⟩
  subst qdirty
  rw [decide_eq_true rfl]
  by_cases qimage : aj = 0
  case neg =>
   rw [decide_eq_false qimage]
   simp only [Bool.false_and, Bool.and_false, Bool.not_false]
   have iz : (0 : Int) < aj := by omega
   obtain ⟨aJ, bm⟩ := new1 w [.int .i64 2, .int .i64 txn, .int .i64 prev, .int .i64 page, .int .i64 slot, .bool af, .slice ah ai ag, .bool ak, .slice ao ap al, .int .i64 uN, .int .i64 0, .slice aL 0 aK, .slice aD 0 aF, .slice ax aj ay] 50
   go_enter Tryz.func75, Tryz.ntmps75
   go_wp2_with fail
   refine (aX _ aJ.out).mono ?_
   rintro e w1 ⟨rfl, hk⟩
   have aM := hid (aJ.out.trans hk)
   have bf := hid (bm.out.same hk)
   clear hk
   obtain ⟨cQ, cP, cO, cW, df, cY, cT, cR, cV, cX, bK, bJ, bI, bL⟩ := bf.out.all14
   go_wp2
   go_ret
   exact ⟨by first | rfl | (simp; omega), aM.out⟩
  subst qimage
  rw [decide_eq_true rfl]
  simp only [Bool.and_true, Bool.and_self, Bool.not_true]
  obtain ⟨aJ, bm⟩ := new1 w [.int .i64 2, .int .i64 txn, .int .i64 prev, .int .i64 page, .int .i64 slot, .bool af, .slice ah ai ag, .bool ak, .slice ao ap al, .int .i64 uN, .int .i64 0, .slice aL 0 aK, .slice aD 0 aF, .slice ax 0 ay] 50
  go_enter Tryz.func75, Tryz.ntmps75
  go_wp2_with fail
  refine (aX _ aJ.out).mono ?_
  rintro e w1 ⟨rfl, hk⟩
  have aM := hid (aJ.out.trans hk)
  have bf := hid (bm.out.same hk)
  clear hk
  obtain ⟨cQ, cP, cO, cW, df, cY, cT, cR, cV, cX, bK, bJ, bI, bL⟩ := bf.out.all14
  go_wp2
  go_ret
  exact ⟨rfl, aM.out⟩
theorem jeb (txn prev page slot : Int) (af : Bool) (ah : Option Addr) (ai ag : Nat) (ak : Bool) (ao : Option Addr) (ap al : Nat) (uN nT : Int) (aL : Option Addr) (aI aK : Nat) (aD : Option Addr) (av aF : Nat) (ax : Option Addr) (aj ay : Nat) (w : World) (dJ cj : Bool) (bh : ∀ wx, Same w wx → Calls Tryz.prog 105 #[.agg #[.bool ak, .slice ao ap al]] wx fun e w' => e = .returned (.bool dJ) ∧ Same wx w') (aX : ∀ wx, Same w wx → Calls Tryz.prog 105 #[.agg #[.bool af, .slice ah ai ag]] wx fun e w' => e = .returned (.bool cj) ∧ Same wx w') (eM : aI ≤ maxLen) (ek : av ≤ maxLen) (ei : aj ≤ maxLen) :
  Calls Tryz.prog 75 #[.agg #[.int .i64 3, .int .i64 txn, .int .i64 prev, .int .i64 page, .int .i64 slot, .bool af, .slice ah ai ag, .bool ak, .slice ao ap al, .int .i64 uN, .int .i64 nT, .slice aL aI aK, .slice aD av aF, .slice ax aj ay]] w fun e w' => e = .returned (.bool (!(decide (0 = slot) && dJ && decide (0 = page) && cj && decide (0 = uN) && decide (0 = nT) && decide (aI = 0) && decide (av = 0) && decide (aj = 0)))) ∧ Same w w' := by
 unfold maxLen at eM ek ei
 by_cases qslot : 0 = slot
 case neg =>
  rw [decide_eq_false qslot]
  simp only [Bool.false_and, Bool.and_false, Bool.not_false]
  have kA : ¬ slot = 0 := fun e => qslot e.symm
  obtain ⟨aJ, bm⟩ := new1 w [.int .i64 3, .int .i64 txn, .int .i64 prev, .int .i64 page, .int .i64 slot, .bool af, .slice ah ai ag, .bool ak, .slice ao ap al, .int .i64 uN, .int .i64 nT, .slice aL aI aK, .slice aD av aF, .slice ax aj ay] 50
  go_enter Tryz.func75, Tryz.ntmps75
  go_wp2
  go_ret
  exact ⟨rfl, aJ.out⟩
 subst qslot
 rw [decide_eq_true rfl]
 cases dJ with
 | false =>
  simp only [Bool.false_and, Bool.and_false, Bool.not_false]
  obtain ⟨aJ, bm⟩ := new1 w [.int .i64 3, .int .i64 txn, .int .i64 prev, .int .i64 page, .int .i64 0, .bool af, .slice ah ai ag, .bool ak, .slice ao ap al, .int .i64 uN, .int .i64 nT, .slice aL aI aK, .slice aD av aF, .slice ax aj ay] 50
  go_enter Tryz.func75, Tryz.ntmps75
  go_wp2_with fail
  refine (bh _ aJ.out).mono ?_
  rintro e w1 ⟨rfl, hk⟩
  have aM := hid (aJ.out.trans hk)
  have bf := hid (bm.out.same hk)
  clear hk
  obtain ⟨cQ, cP, cO, cW, df, cY, cT, cR, cV, cX, bK, bJ, bI, bL⟩ := bf.out.all14
  go_wp2
  go_ret
  exact ⟨rfl, aM.out⟩
 | true =>
  by_cases qpage : 0 = page
  case neg =>
   rw [decide_eq_false qpage]
   simp only [Bool.false_and, Bool.and_false, Bool.not_false]
   have mW : ¬ page = 0 := fun e => qpage e.symm
   obtain ⟨aJ, bm⟩ := new1 w [.int .i64 3, .int .i64 txn, .int .i64 prev, .int .i64 page, .int .i64 0, .bool af, .slice ah ai ag, .bool ak, .slice ao ap al, .int .i64 uN, .int .i64 nT, .slice aL aI aK, .slice aD av aF, .slice ax aj ay] 50
   go_enter Tryz.func75, Tryz.ntmps75
   go_wp2_with fail
   refine (bh _ aJ.out).mono ?_
   rintro e w1 ⟨rfl, hk⟩
   have aM := hid (aJ.out.trans hk)
   have bf := hid (bm.out.same hk)
   clear hk
   obtain ⟨cQ, cP, cO, cW, df, cY, cT, cR, cV, cX, bK, bJ, bI, bL⟩ := bf.out.all14
   go_wp2
   go_ret
   exact ⟨rfl, aM.out⟩
  subst qpage
  rw [decide_eq_true rfl]
  cases cj with
  | false =>
   simp only [Bool.false_and, Bool.and_false, Bool.not_false]
   obtain ⟨aJ, bm⟩ := new1 w [.int .i64 3, .int .i64 txn, .int .i64 prev, .int .i64 0, .int .i64 0, .bool af, .slice ah ai ag, .bool ak, .slice ao ap al, .int .i64 uN, .int .i64 nT, .slice aL aI aK, .slice aD av aF, .slice ax aj ay] 50
   go_enter Tryz.func75, Tryz.ntmps75
   go_wp2_with fail
   refine (bh _ aJ.out).mono ?_
   rintro e w1 ⟨rfl, hk⟩
   have aM := hid (aJ.out.trans hk)
   have bf := hid (bm.out.same hk)
   clear hk
   obtain ⟨cQ, cP, cO, cW, df, cY, cT, cR, cV, cX, bK, bJ, bI, bL⟩ := bf.out.all14
   go_wp2_with fail
   refine (aX _ aM.out).mono ?_
   rintro e w2 ⟨rfl, hk⟩
   have aY := hid (aM.out.trans hk)
   have cm := hid (bf.out.same hk)
   clear hk
   obtain ⟨dV, dW, dY, dS, ef, ec, dT, dX, dU, dZ, cL, cH, cI, cM⟩ := cm.out.all14
   go_wp2
   go_ret
   exact ⟨rfl, aY.out⟩
  | true =>
   by_cases quN : 0 = uN
   case neg =>
    rw [decide_eq_false quN]
    simp only [Bool.false_and, Bool.and_false, Bool.not_false]
    have wU : ¬ uN = 0 := fun e => quN e.symm
    obtain ⟨aJ, bm⟩ := new1 w [.int .i64 3, .int .i64 txn, .int .i64 prev, .int .i64 0, .int .i64 0, .bool af, .slice ah ai ag, .bool ak, .slice ao ap al, .int .i64 uN, .int .i64 nT, .slice aL aI aK, .slice aD av aF, .slice ax aj ay] 50
    go_enter Tryz.func75, Tryz.ntmps75
    go_wp2_with fail
    refine (bh _ aJ.out).mono ?_
    rintro e w1 ⟨rfl, hk⟩
    have aM := hid (aJ.out.trans hk)
    have bf := hid (bm.out.same hk)
    clear hk
    obtain ⟨cQ, cP, cO, cW, df, cY, cT, cR, cV, cX, bK, bJ, bI, bL⟩ := bf.out.all14
    go_wp2_with fail
    refine (aX _ aM.out).mono ?_
    rintro e w2 ⟨rfl, hk⟩
    have aY := hid (aM.out.trans hk)
    have cm := hid (bf.out.same hk)
    clear hk
    obtain ⟨dV, dW, dY, dS, ef, ec, dT, dX, dU, dZ, cL, cH, cI, cM⟩ := cm.out.all14
    go_wp2
    go_ret
    exact ⟨rfl, aY.out⟩
   subst quN
   rw [decide_eq_true rfl]
   by_cases qnT : 0 = nT
   case neg =>
    rw [decide_eq_false qnT]
    simp only [Bool.false_and, Bool.and_false, Bool.not_false]
    have wt : ¬ nT = 0 := fun e => qnT e.symm
    obtain ⟨aJ, bm⟩ := new1 w [.int .i64 3, .int .i64 txn, .int .i64 prev, .int .i64 0, .int .i64 0, .bool af, .slice ah ai ag, .bool ak, .slice ao ap al, .int .i64 0, .int .i64 nT, .slice aL aI aK, .slice aD av aF, .slice ax aj ay] 50
    go_enter Tryz.func75, Tryz.ntmps75
    go_wp2_with fail
    refine (bh _ aJ.out).mono ?_
    rintro e w1 ⟨rfl, hk⟩
    have aM := hid (aJ.out.trans hk)
    have bf := hid (bm.out.same hk)
    clear hk
    obtain ⟨cQ, cP, cO, cW, df, cY, cT, cR, cV, cX, bK, bJ, bI, bL⟩ := bf.out.all14
    go_wp2_with fail
    refine (aX _ aM.out).mono ?_
    rintro e w2 ⟨rfl, hk⟩
    have aY := hid (aM.out.trans hk)
    have cm := hid (bf.out.same hk)
    clear hk
    obtain ⟨dV, dW, dY, dS, ef, ec, dT, dX, dU, dZ, cL, cH, cI, cM⟩ := cm.out.all14
    go_wp2
    go_ret
    exact ⟨rfl, aY.out⟩
   subst qnT
   rw [decide_eq_true rfl]
   by_cases qtxns : aI = 0
   case neg =>
    rw [decide_eq_false qtxns]
    simp only [Bool.false_and, Bool.and_false, Bool.not_false]
    have j0 : (0 : Int) < aI := by omega
    obtain ⟨aJ, bm⟩ := new1 w [.int .i64 3, .int .i64 txn, .int .i64 prev, .int .i64 0, .int .i64 0, .bool af, .slice ah ai ag, .bool ak, .slice ao ap al, .int .i64 0, .int .i64 0, .slice aL aI aK, .slice aD av aF, .slice ax aj ay] 50
    go_enter Tryz.func75, Tryz.ntmps75
    go_wp2_with fail
    refine (bh _ aJ.out).mono ?_
    rintro e w1 ⟨rfl, hk⟩
    have aM := hid (aJ.out.trans hk)
    have bf := hid (bm.out.same hk)
    clear hk
    obtain ⟨cQ, cP, cO, cW, df, cY, cT, cR, cV, cX, bK, bJ, bI, bL⟩ := bf.out.all14
    go_wp2_with fail
    refine (aX _ aM.out).mono ?_
    rintro e w2 ⟨rfl, hk⟩
    have aY := hid (aM.out.trans hk)
    have cm := hid (bf.out.same hk)
    clear hk
    obtain ⟨dV, dW, dY, dS, ef, ec, dT, dX, dU, dZ, cL, cH, cI, cM⟩ := cm.out.all14
    go_wp2
    go_ret
    exact ⟨by first | rfl | (simp; omega), aY.out⟩
   subst qtxns
   rw [decide_eq_true rfl]
   by_cases qdirty : av = 0
   case neg =>
    rw [decide_eq_false qdirty]
    simp only [Bool.false_and, Bool.and_false, Bool.not_false]
    have iM : (0 : Int) < av := by omega
    obtain ⟨aJ, bm⟩ := new1 w [.int .i64 3, .int .i64 txn, .int .i64 prev, .int .i64 0, .int .i64 0, .bool af, .slice ah ai ag, .bool ak, .slice ao ap al, .int .i64 0, .int .i64 0, .slice aL 0 aK, .slice aD av aF, .slice ax aj ay] 50
    go_enter Tryz.func75, Tryz.ntmps75
    go_wp2_with fail
    refine (bh _ aJ.out).mono ?_
    rintro e w1 ⟨rfl, hk⟩
    have aM := hid (aJ.out.trans hk)
    have bf := hid (bm.out.same hk)
    clear hk
    obtain ⟨cQ, cP, cO, cW, df, cY, cT, cR, cV, cX, bK, bJ, bI, bL⟩ := bf.out.all14
    go_wp2_with fail
    refine (aX _ aM.out).mono ?_
    rintro e w2 ⟨rfl, hk⟩
    have aY := hid (aM.out.trans hk)
    have cm := hid (bf.out.same hk)
    clear hk
    obtain ⟨dV, dW, dY, dS, ef, ec, dT, dX, dU, dZ, cL, cH, cI, cM⟩ := cm.out.all14
    go_wp2
    go_ret
    exact ⟨by first | rfl | (simp; omega), aY.out⟩
   subst qdirty
   rw [decide_eq_true rfl]
   by_cases qimage : aj = 0
   case neg =>
    rw [decide_eq_false qimage]
    simp only [Bool.false_and, Bool.and_false, Bool.not_false]
    have iz : (0 : Int) < aj := by omega
    obtain ⟨aJ, bm⟩ := new1 w [.int .i64 3, .int .i64 txn, .int .i64 prev, .int .i64 0, .int .i64 0, .bool af, .slice ah ai ag, .bool ak, .slice ao ap al, .int .i64 0, .int .i64 0, .slice aL 0 aK, .slice aD 0 aF, .slice ax aj ay] 50
    go_enter Tryz.func75, Tryz.ntmps75
    go_wp2_with fail
    refine (bh _ aJ.out).mono ?_
    rintro e w1 ⟨rfl, hk⟩
    have aM := hid (aJ.out.trans hk)
    have bf := hid (bm.out.same hk)
    clear hk
    obtain ⟨cQ, cP, cO, cW, df, cY, cT, cR, cV, cX, bK, bJ, bI, bL⟩ := bf.out.all14
    go_wp2_with fail
    refine (aX _ aM.out).mono ?_
    rintro e w2 ⟨rfl, hk⟩
    have aY := hid (aM.out.trans hk)
    have cm := hid (bf.out.same hk)
    clear hk
    obtain ⟨dV, dW, dY, dS, ef, ec, dT, dX, dU, dZ, cL, cH, cI, cM⟩ := cm.out.all14
    go_wp2
    go_ret
    exact ⟨by first | rfl | (simp; omega), aY.out⟩
   subst qimage
   rw [decide_eq_true rfl]
   simp only [Bool.and_true, Bool.and_self, Bool.not_true]
   obtain ⟨aJ, bm⟩ := new1 w [.int .i64 3, .int .i64 txn, .int .i64 prev, .int .i64 0, .int .i64 0, .bool af, .slice ah ai ag, .bool ak, .slice ao ap al, .int .i64 0, .int .i64 0, .slice aL 0 aK, .slice aD 0 aF, .slice ax 0 ay] 50
   go_enter Tryz.func75, Tryz.ntmps75
   go_wp2_with fail
   refine (bh _ aJ.out).mono ?_
   rintro e w1 ⟨rfl, hk⟩
   have aM := hid (aJ.out.trans hk)
   have bf := hid (bm.out.same hk)
   clear hk
   obtain ⟨cQ, cP, cO, cW, df, cY, cT, cR, cV, cX, bK, bJ, bI, bL⟩ := bf.out.all14
   go_wp2_with fail
   refine (aX _ aM.out).mono ?_
   rintro e w2 ⟨rfl, hk⟩
   have aY := hid (aM.out.trans hk)
   have cm := hid (bf.out.same hk)
   clear hk
   obtain ⟨dV, dW, dY, dS, ef, ec, dT, dX, dU, dZ, cL, cH, cI, cM⟩ := cm.out.all14
   go_wp2
   go_ret
   exact ⟨rfl, aY.out⟩
end Go.Proofs.YtaojjcnmififoaaGreat
