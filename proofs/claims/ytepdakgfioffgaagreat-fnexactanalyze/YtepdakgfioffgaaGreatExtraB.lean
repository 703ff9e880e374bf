import Derived.Test.YtepdakgfioffgaaGreatTyLogRecord
namespace Go.Proofs.YtepdakgfioffgaaGreat
set_option maxRecDepth 100000
set_option maxHeartbeats 16000000
set_option linter.unusedVariables false
set_option linter.unusedSimpArgs false
open Go.RowKit
theorem extra_4 (txn prev page slot : Int) (af : Bool) (aj : Option Addr) (ah ag : Nat) (ay : Bool) (aB : Option Addr) (az aA : Nat) (uN nT : Int) (bi : Option Addr) (aW bh : Nat) (aI : Option Addr) (aC aH : Nat) (aE : Option Addr) (av aD : Nat) (w : World) (fl dS : Bool) (aG : ∀ wx, Same w wx → Calls Tryz.prog 68 #[.agg #[.bool ay, .slice aB az aA]] wx fun e w' => e = .returned (.bool fl) ∧ Same wx w') (al : ∀ wx, Same w wx → Calls Tryz.prog 68 #[.agg #[.bool af, .slice aj ah ag]] wx fun e w' => e = .returned (.bool dS) ∧ Same wx w') (iQ : aW ≤ maxLen) (gM : aC ≤ maxLen) (gO : av ≤ maxLen) :
  Calls Tryz.prog 44 #[.agg #[.int .i64 4, .int .i64 txn, .int .i64 prev, .int .i64 page, .int .i64 slot, .bool af, .slice aj ah ag, .bool ay, .slice aB az aA, .int .i64 uN, .int .i64 nT, .slice bi aW bh, .slice aI aC aH, .slice aE av aD]] w fun e w' => e = .returned (.bool (!(decide (0 = slot) && fl && decide (0 = page) && dS && decide (0 = uN) && decide (0 = nT) && decide (aW = 0) && decide (aC = 0) && decide (av = 0)))) ∧ Same w w' := by
 unfold maxLen at iQ gM gO
 by_cases qslot : 0 = slot
 case neg =>
  rw [decide_eq_false qslot]
  simp only [Bool.false_and, Bool.and_false, Bool.not_false]
  have oF : ¬ slot = 0 := fun e => qslot e.symm
  obtain ⟨bk, cv⟩ := new1 w [.int .i64 4, .int .i64 txn, .int .i64 prev, .int .i64 page, .int .i64 slot, .bool af, .slice aj ah ag, .bool ay, .slice aB az aA, .int .i64 uN, .int .i64 nT, .slice bi aW bh, .slice aI aC aH, .slice aE av aD] 49
  go_enter Tryz.func44, Tryz.ntmps44
  go_wp2
  go_ret
  exact ⟨rfl, bk.out⟩
 subst qslot
 rw [decide_eq_true rfl]
 cases fl with
 | false =>
  simp only [Bool.false_and, Bool.and_false, Bool.not_false]
  obtain ⟨bk, cv⟩ := new1 w [.int .i64 4, .int .i64 txn, .int .i64 prev, .int .i64 page, .int .i64 0, .bool af, .slice aj ah ag, .bool ay, .slice aB az aA, .int .i64 uN, .int .i64 nT, .slice bi aW bh, .slice aI aC aH, .slice aE av aD] 49
  go_enter Tryz.func44, Tryz.ntmps44
  go_wp2_with fail
  refine (aG _ bk.out).mono ?_
  rintro e w1 ⟨rfl, hk⟩
  have bq := hid (bk.out.trans hk)
  have bG := hid (cv.out.same hk)
  clear hk
  obtain ⟨eH, eK, eN, eO, eP, eQ, eE, eI, eJ, eM, dw, dm, dp, dr⟩ := bG.out.all14
  go_wp2
  go_ret
  exact ⟨rfl, bq.out⟩
 | true =>
  by_cases qpage : 0 = page
  case neg =>
   rw [decide_eq_false qpage]
   simp only [Bool.false_and, Bool.and_false, Bool.not_false]
   have qh : ¬ page = 0 := fun e => qpage e.symm
   obtain ⟨bk, cv⟩ := new1 w [.int .i64 4, .int .i64 txn, .int .i64 prev, .int .i64 page, .int .i64 0, .bool af, .slice aj ah ag, .bool ay, .slice aB az aA, .int .i64 uN, .int .i64 nT, .slice bi aW bh, .slice aI aC aH, .slice aE av aD] 49
   go_enter Tryz.func44, Tryz.ntmps44
   go_wp2_with fail
   refine (aG _ bk.out).mono ?_
   rintro e w1 ⟨rfl, hk⟩
   have bq := hid (bk.out.trans hk)
   have bG := hid (cv.out.same hk)
   clear hk
   obtain ⟨eH, eK, eN, eO, eP, eQ, eE, eI, eJ, eM, dw, dm, dp, dr⟩ := bG.out.all14
   go_wp2
   go_ret
   exact ⟨rfl, bq.out⟩
  subst qpage
  rw [decide_eq_true rfl]
  cases dS with
  | false =>
   simp only [Bool.false_and, Bool.and_false, Bool.not_false]
   obtain ⟨bk, cv⟩ := new1 w [.int .i64 4, .int .i64 txn, .int .i64 prev, .int .i64 0, .int .i64 0, .bool af, .slice aj ah ag, .bool ay, .slice aB az aA, .int .i64 uN, .int .i64 nT, .slice bi aW bh, .slice aI aC aH, .slice aE av aD] 49
   go_enter Tryz.func44, Tryz.ntmps44
   go_wp2_with fail
   refine (aG _ bk.out).mono ?_
   rintro e w1 ⟨rfl, hk⟩
   have bq := hid (bk.out.trans hk)
   have bG := hid (cv.out.same hk)
   clear hk
   obtain ⟨eH, eK, eN, eO, eP, eQ, eE, eI, eJ, eM, dw, dm, dp, dr⟩ := bG.out.all14
   go_wp2_with fail
   refine (al _ bq.out).mono ?_
   rintro e w2 ⟨rfl, hk⟩
   have cw := hid (bq.out.trans hk)
   have cx := hid (bG.out.same hk)
   clear hk
   obtain ⟨gl, gh, gg, gj, fY, gi, fZ, gq, gd, gp, eD, eF, ek, eu⟩ := cx.out.all14
   go_wp2
   go_ret
   exact ⟨rfl, cw.out⟩
  | true =>
   by_cases quN : 0 = uN
   case neg =>
    rw [decide_eq_false quN]
    simp only [Bool.false_and, Bool.and_false, Bool.not_false]
    have AX : ¬ uN = 0 := fun e => quN e.symm
    obtain ⟨bk, cv⟩ := new1 w [.int .i64 4, .int .i64 txn, .int .i64 prev, .int .i64 0, .int .i64 0, .bool af, .slice aj ah ag, .bool ay, .slice aB az aA, .int .i64 uN, .int .i64 nT, .slice bi aW bh, .slice aI aC aH, .slice aE av aD] 49
    go_enter Tryz.func44, Tryz.ntmps44
    go_wp2_with fail
    refine (aG _ bk.out).mono ?_
    rintro e w1 ⟨rfl, hk⟩
    have bq := hid (bk.out.trans hk)
    have bG := hid (cv.out.same hk)
    clear hk
    obtain ⟨eH, eK, eN, eO, eP, eQ, eE, eI, eJ, eM, dw, dm, dp, dr⟩ := bG.out.all14
    go_wp2_with fail
    refine (al _ bq.out).mono ?_
    rintro e w2 ⟨rfl, hk⟩
    have cw := hid (bq.out.trans hk)
    have cx := hid (bG.out.same hk)
    clear hk
    obtain ⟨gl, gh, gg, gj, fY, gi, fZ, gq, gd, gp, eD, eF, ek, eu⟩ := cx.out.all14
    go_wp2
    go_ret
    exact ⟨rfl, cw.out⟩
   subst quN
   rw [decide_eq_true rfl]
   by_cases qnT : 0 = nT
   case neg =>
    rw [decide_eq_false qnT]
    simp only [Bool.false_and, Bool.and_false, Bool.not_false]
    have Aq : ¬ nT = 0 := fun e => qnT e.symm
    obtain ⟨bk, cv⟩ := new1 w [.int .i64 4, .int .i64 txn, .int .i64 prev, .int .i64 0, .int .i64 0, .bool af, .slice aj ah ag, .bool ay, .slice aB az aA, .int .i64 0, .int .i64 nT, .slice bi aW bh, .slice aI aC aH, .slice aE av aD] 49
    go_enter Tryz.func44, Tryz.ntmps44
    go_wp2_with fail
    refine (aG _ bk.out).mono ?_
    rintro e w1 ⟨rfl, hk⟩
    have bq := hid (bk.out.trans hk)
    have bG := hid (cv.out.same hk)
    clear hk
    obtain ⟨eH, eK, eN, eO, eP, eQ, eE, eI, eJ, eM, dw, dm, dp, dr⟩ := bG.out.all14
    go_wp2_with fail
    refine (al _ bq.out).mono ?_
    rintro e w2 ⟨rfl, hk⟩
    have cw := hid (bq.out.trans hk)
    have cx := hid (bG.out.same hk)
    clear hk
    obtain ⟨gl, gh, gg, gj, fY, gi, fZ, gq, gd, gp, eD, eF, ek, eu⟩ := cx.out.all14
    go_wp2
    go_ret
    exact ⟨rfl, cw.out⟩
   subst qnT
   rw [decide_eq_true rfl]
   by_cases qtxns : aW = 0
   case neg =>
    rw [decide_eq_false qtxns]
    simp only [Bool.false_and, Bool.and_false, Bool.not_false]
    have nr : (0 : Int) < aW := by omega
    obtain ⟨bk, cv⟩ := new1 w [.int .i64 4, .int .i64 txn, .int .i64 prev, .int .i64 0, .int .i64 0, .bool af, .slice aj ah ag, .bool ay, .slice aB az aA, .int .i64 0, .int .i64 0, .slice bi aW bh, .slice aI aC aH, .slice aE av aD] 49
    go_enter Tryz.func44, Tryz.ntmps44
    go_wp2_with fail
    refine (aG _ bk.out).mono ?_
    rintro e w1 ⟨rfl, hk⟩
    have bq := hid (bk.out.trans hk)
    have bG := hid (cv.out.same hk)
    clear hk
    obtain ⟨eH, eK, eN, eO, eP, eQ, eE, eI, eJ, eM, dw, dm, dp, dr⟩ := bG.out.all14
    go_wp2_with fail
    refine (al _ bq.out).mono ?_
    rintro e w2 ⟨rfl, hk⟩
    have cw := hid (bq.out.trans hk)
    have cx := hid (bG.out.same hk)
    clear hk
    obtain ⟨gl, gh, gg, gj, fY, gi, fZ, gq, gd, gp, eD, eF, ek, eu⟩ := cx.out.all14
    go_wp2
    go_ret
    exact ⟨by first | rfl | (simp; omega), cw.out⟩
   subst qtxns
   rw [decide_eq_true rfl]
   by_cases qdirty : aC = 0
   case neg =>
    rw [decide_eq_false qdirty]
    simp only [Bool.false_and, Bool.and_false, Bool.not_false]
    have lI : (0 : Int) < aC := by omega
    obtain ⟨bk, cv⟩ := new1 w [.int .i64 4, .int .i64 txn, .int .i64 prev, .int .i64 0, .int .i64 0, .bool af, .slice aj ah ag, .bool ay, .slice aB az aA, .int .i64 0, .int .i64 0, .slice bi 0 bh, .slice aI aC aH, .slice aE av aD] 49
    go_enter Tryz.func44, Tryz.ntmps44
    go_wp2_with fail
    refine (aG _ bk.out).mono ?_
    rintro e w1 ⟨rfl, hk⟩
    have bq := hid (bk.out.trans hk)
    have bG := hid (cv.out.same hk)
    clear hk
    obtain ⟨eH, eK, eN, eO, eP, eQ, eE, eI, eJ, eM, dw, dm, dp, dr⟩ := bG.out.all14
    go_wp2_with fail
    refine (al _ bq.out).mono ?_
    rintro e w2 ⟨rfl, hk⟩
    have cw := hid (bq.out.trans hk)
    have cx := hid (bG.out.same hk)
    clear hk
    obtain ⟨gl, gh, gg, gj, fY, gi, fZ, gq, gd, gp, eD, eF, ek, eu⟩ := cx.out.all14
    go_wp2
    go_ret
    exact ⟨by first | rfl | (simp; omega), cw.out⟩
   subst qdirty
   rw [decide_eq_true rfl]
   by_cases qimage : av = 0
   case neg =>
    rw [decide_eq_false qimage]
    simp only [Bool.false_and, Bool.and_false, Bool.not_false]
    have lO : (0 : Int) < av := by omega
    obtain ⟨bk, cv⟩ := new1 w [.int .i64 4, .int .i64 txn, .int .i64 prev, .int .i64 0, .int .i64 0, .bool af, .slice aj ah ag, .bool ay, .slice aB az aA, .int .i64 0, .int .i64 0, .slice bi 0 bh, .slice aI 0 aH, .slice aE av aD] 49
    go_enter Tryz.func44, Tryz.ntmps44
    go_wp2_with fail
    refine (aG _ bk.out).mono ?_
    rintro e w1 ⟨rfl, hk⟩
    have bq := hid (bk.out.trans hk)
    have bG := hid (cv.out.same hk)
    clear hk
    obtain ⟨eH, eK, eN, eO, eP, eQ, eE, eI, eJ, eM, dw, dm, dp, dr⟩ := bG.out.all14
    go_wp2_with fail
    refine (al _ bq.out).mono ?_
    rintro e w2 ⟨rfl, hk⟩
    have cw := hid (bq.out.trans hk)
    have cx := hid (bG.out.same hk)
    clear hk
    obtain ⟨gl, gh, gg, gj, fY, gi, fZ, gq, gd, gp, eD, eF, ek, eu⟩ := cx.out.all14
    go_wp2
    go_ret
    exact ⟨by first | rfl | (simp; omega), cw.out⟩
   subst qimage
   rw [decide_eq_true rfl]
   simp only [Bool.and_true, Bool.and_self, Bool.not_true]
   obtain ⟨bk, cv⟩ := new1 w [.int .i64 4, .int .i64 txn, .int .i64 prev, .int .i64 0, .int .i64 0, .bool af, .slice aj ah ag, .bool ay, .slice aB az aA, .int .i64 0, .int .i64 0, .slice bi 0 bh, .slice aI 0 aH, .slice aE 0 aD] 49
   go_enter Tryz.func44, Tryz.ntmps44
   go_wp2_with fail
   refine (aG _ bk.out).mono ?_
   rintro e w1 ⟨rfl, hk⟩
   have bq := hid (bk.out.trans hk)
   have bG := hid (cv.out.same hk)
   clear hk
   obtain ⟨eH, eK, eN, eO, eP, eQ, eE, eI, eJ, eM, dw, dm, dp, dr⟩ := bG.out.all14
   go_wp2_with fail
   refine (al _ bq.out).mono ?_
   rintro e w2 ⟨rfl, hk⟩
   have cw := hid (bq.out.trans hk)
   have cx := hid (bG.out.same hk)
   clear hk
   obtain ⟨gl, gh, gg, gj, fY, gi, fZ, gq, gd, gp, eD, eF, ek, eu⟩ := cx.out.all14
   go_wp2
   go_ret
   exact ⟨rfl, cw.out⟩
theorem extra_5 (txn prev page slot : Int) (af : Bool) (aj : Option Addr) (ah ag : Nat) (ay : Bool) (aB : Option Addr) (az aA : Nat) (uN nT : Int) (bi : Option Addr) (aW bh : Nat) (aI : Option Addr) (aC aH : Nat) (aE : Option Addr) (av aD : Nat) (w : World) (fl dS : Bool) (aG : ∀ wx, Same w wx → Calls Tryz.prog 68 #[.agg #[.bool ay, .slice aB az aA]] wx fun e w' => e = .returned (.bool fl) ∧ Same wx w') (al : ∀ wx, Same w wx → Calls Tryz.prog 68 #[.agg #[.bool af, .slice aj ah ag]] wx fun e w' => e = .returned (.bool dS) ∧ Same wx w') (iQ : aW ≤ maxLen) (gM : aC ≤ maxLen) (gO : av ≤ maxLen) :
  Calls Tryz.prog 44 #[.agg #[.int .i64 5, .int .i64 txn, .int .i64 prev, .int .i64 page, .int .i64 slot, .bool af, .slice aj ah ag, .bool ay, .slice aB az aA, .int .i64 uN, .int .i64 nT, .slice bi aW bh, .slice aI aC aH, .slice aE av aD]] w fun e w' => e = .returned (.bool (!(decide (0 = slot) && fl && decide (0 = page) && dS && decide (0 = uN) && decide (0 = nT) && decide (aW = 0) && decide (aC = 0) && decide (av = 0)))) ∧ Same w w' := by
 unfold maxLen at iQ gM gO
 by_cases qslot : 0 = slot
 case neg =>
  rw [decide_eq_false qslot]
  simp only [Bool.false_and, Bool.and_false, Bool.not_false]
  have oF : ¬ slot = 0 := fun e => qslot e.symm
  obtain ⟨bk, cv⟩ := new1 w [.int .i64 5, .int .i64 txn, .int .i64 prev, .int .i64 page, .int .i64 slot, .bool af, .slice aj ah ag, .bool ay, .slice aB az aA, .int .i64 uN, .int .i64 nT, .slice bi aW bh, .slice aI aC aH, .slice aE av aD] 49
  go_enter Tryz.func44, Tryz.ntmps44
  go_wp2
  go_ret
  exact ⟨rfl, bk.out⟩
 subst qslot
 rw [decide_eq_true rfl]
 cases fl with
 | false =>
  simp only [Bool.false_and, Bool.and_false, Bool.not_false]
  obtain ⟨bk, cv⟩ := new1 w [.int .i64 5, .int .i64 txn, .int .i64 prev, .int .i64 page, .int .i64 0, .bool af, .slice aj ah ag, .bool ay, .slice aB az aA, .int .i64 uN, .int .i64 nT, .slice bi aW bh, .slice aI aC aH, .slice aE av aD] 49
  go_enter Tryz.func44, Tryz.ntmps44
  go_wp2_with fail
  refine (aG _ bk.out).mono ?_
  rintro e w1 ⟨rfl, hk⟩
  have bq := hid (bk.out.trans hk)
  have bG := hid (cv.out.same hk)
  clear hk
  obtain ⟨eH, eK, eN, eO, eP, eQ, eE, eI, eJ, eM, dw, dm, dp, dr⟩ := bG.out.all14
  go_wp2
  go_ret
  exact ⟨rfl, bq.out⟩
 | true =>
  by_cases qpage : 0 = page
  case neg =>
   rw [decide_eq_false qpage]
   simp only [Bool.false_and, Bool.and_false, Bool.not_false]
   have qh : ¬ page = 0 := fun e => qpage e.symm
   obtain ⟨bk, cv⟩ := new1 w [.int .i64 5, .int .i64 txn, .int .i64 prev, .int .i64 page, .int .i64 0, .bool af, .slice aj ah ag, .bool ay, .slice aB az aA, .int .i64 uN, .int .i64 nT, .slice bi aW bh, .slice aI aC aH, .slice aE av aD] 49
   go_enter Tryz.func44, Tryz.ntmps44
   go_wp2_with fail
   refine (aG _ bk.out).mono ?_
   rintro e w1 ⟨rfl, hk⟩
   have bq := hid (bk.out.trans hk)
   have bG := hid (cv.out.same hk)
   clear hk
   obtain ⟨eH, eK, eN, eO, eP, eQ, eE, eI, eJ, eM, dw, dm, dp, dr⟩ := bG.out.all14
   go_wp2
   go_ret
   exact ⟨rfl, bq.out⟩
  subst qpage
  rw [decide_eq_true rfl]
  cases dS with
  | false =>
   simp only [Bool.false_and, Bool.and_false, Bool.not_false]
   obtain ⟨bk, cv⟩ := new1 w [.int .i64 5, .int .i64 txn, .int .i64 prev, .int .i64 0, .int .i64 0, .bool af, .slice aj ah ag, .bool ay, .slice aB az aA, .int .i64 uN, .int .i64 nT, .slice bi aW bh, .slice aI aC aH, .slice aE av aD] 49
   go_enter Tryz.func44, Tryz.ntmps44
   go_wp2_with fail
   refine (aG _ bk.out).mono ?_
   rintro e w1 ⟨rfl, hk⟩
   have bq := hid (bk.out.trans hk)
   have bG := hid (cv.out.same hk)
   clear hk
   obtain ⟨eH, eK, eN, eO, eP, eQ, eE, eI, eJ, eM, dw, dm, dp, dr⟩ := bG.out.all14
   go_wp2_with fail
   refine (al _ bq.out).mono ?_
   rintro e w2 ⟨rfl, hk⟩
   have cw := hid (bq.out.trans hk)
   have cx := hid (bG.out.same hk)
   clear hk
   obtain ⟨gl, gh, gg, gj, fY, gi, fZ, gq, gd, gp, eD, eF, ek, eu⟩ := cx.out.all14
   go_wp2
   go_ret
   exact ⟨rfl, cw.out⟩
  | true =>
   by_cases quN : 0 = uN
   case neg =>
    rw [decide_eq_false quN]
    simp only [Bool.false_and, Bool.and_false, Bool.not_false]
    have AX : ¬ uN = 0 := fun e => quN e.symm
    obtain ⟨bk, cv⟩ := new1 w [.int .i64 5, .int .i64 txn, .int .i64 prev, .int .i64 0, .int .i64 0, .bool af, .slice aj ah ag, .bool ay, .slice aB az aA, .int .i64 uN, .int .i64 nT, .slice bi aW bh, .slice aI aC aH, .slice aE av aD] 49
    go_enter Tryz.func44, Tryz.ntmps44
    go_wp2_with fail
    refine (aG _ bk.out).mono ?_
    rintro e w1 ⟨rfl, hk⟩
    have bq := hid (bk.out.trans hk)
    have bG := hid (cv.out.same hk)
    clear hk
    obtain ⟨eH, eK, eN, eO, eP, eQ, eE, eI, eJ, eM, dw, dm, dp, dr⟩ := bG.out.all14
    go_wp2_with fail
    refine (al _ bq.out).mono ?_
    rintro e w2 ⟨rfl, hk⟩
    have cw := hid (bq.out.trans hk)
    have cx := hid (bG.out.same hk)
    clear hk
    obtain ⟨gl, gh, gg, gj, fY, gi, fZ, gq, gd, gp, eD, eF, ek, eu⟩ := cx.out.all14
    go_wp2
    go_ret
    exact ⟨rfl, cw.out⟩
   subst quN
   rw [decide_eq_true rfl]
   by_cases qnT : 0 = nT
   case neg =>
    rw [decide_eq_false qnT]
    simp only [Bool.false_and, Bool.and_false, Bool.not_false]
    have Aq : ¬ nT = 0 := fun e => qnT e.symm
    obtain ⟨bk, cv⟩ := new1 w [.int .i64 5, .int .i64 txn, .int .i64 prev, .int .i64 0, .int .i64 0, .bool af, .slice aj ah ag, .bool ay, .slice aB az aA, .int .i64 0, .int .i64 nT, .slice bi aW bh, .slice aI aC aH, .slice aE av aD] 49
    go_enter Tryz.func44, Tryz.ntmps44
    go_wp2_with fail
    refine (aG _ bk.out).mono ?_
    rintro e w1 ⟨rfl, hk⟩
    have bq := hid (bk.out.trans hk)
    have bG := hid (cv.out.same hk)
    clear hk
    obtain ⟨eH, eK, eN, eO, eP, eQ, eE, eI, eJ, eM, dw, dm, dp, dr⟩ := bG.out.all14
    go_wp2_with fail
    refine (al _ bq.out).mono ?_
    rintro e w2 ⟨rfl, hk⟩
    have cw := hid (bq.out.trans hk)
    have cx := hid (bG.out.same hk)
    clear hk
    obtain ⟨gl, gh, gg, gj, fY, gi, fZ, gq, gd, gp, eD, eF, ek, eu⟩ := cx.out.all14
    go_wp2
    go_ret
    exact ⟨rfl, cw.out⟩
   subst qnT
   rw [decide_eq_true rfl]
   by_cases qtxns : aW = 0
   case neg =>
    rw [decide_eq_false qtxns]
    simp only [Bool.false_and, Bool.and_false, Bool.not_false]
    have nr : (0 : Int) < aW := by omega
    obtain ⟨bk, cv⟩ := new1 w [.int .i64 5, .int .i64 txn, .int .i64 prev, .int .i64 0, .int .i64 0, .bool af, .slice aj ah ag, .bool ay, .slice aB az aA, .int .i64 0, .int .i64 0, .slice bi aW bh, .slice aI aC aH, .slice aE av aD] 49
    go_enter Tryz.func44, Tryz.ntmps44
    go_wp2_with fail
    refine (aG _ bk.out).mono ?_
    rintro e w1 ⟨rfl, hk⟩
    have bq := hid (bk.out.trans hk)
    have bG := hid (cv.out.same hk)
    clear hk
    obtain ⟨eH, eK, eN, eO, eP, eQ, eE, eI, eJ, eM, dw, dm, dp, dr⟩ := bG.out.all14
    go_wp2_with fail
    refine (al _ bq.out).mono ?_
    rintro e w2 ⟨rfl, hk⟩
    have cw := hid (bq.out.trans hk)
    have cx := hid (bG.out.same hk)
    clear hk
    obtain ⟨gl, gh, gg, gj, fY, gi, fZ, gq, gd, gp, eD, eF, ek, eu⟩ := cx.out.all14
    go_wp2
    go_ret
    exact ⟨by first | rfl | (simp; omega), cw.out⟩
   subst qtxns
   rw [decide_eq_true rfl]
   by_cases qdirty : aC = 0
   case neg =>
    rw [decide_eq_false qdirty]
    simp only [Bool.false_and, Bool.and_false, Bool.not_false]
    have lI : (0 : Int) < aC := by omega
    obtain ⟨bk, cv⟩ := new1 w [.int .i64 5, .int .i64 txn, .int .i64 prev, .int .i64 0, .int .i64 0, .bool af, .slice aj ah ag, .bool ay, .slice aB az aA, .int .i64 0, .int .i64 0, .slice bi 0 bh, .slice aI aC aH, .slice aE av aD] 49
    go_enter Tryz.func44, Tryz.ntmps44
    go_wp2_with fail
    refine (aG _ bk.out).mono ?_
    rintro e w1 ⟨rfl, hk⟩
    have bq := hid (bk.out.trans hk)
    have bG := hid (cv.out.same hk)
    clear hk
    obtain ⟨eH, eK, eN, eO, eP, eQ, eE, eI, eJ, eM, dw, dm, dp, dr⟩ := bG.out.all14
    go_wp2_with fail
    refine (al _ bq.out).mono ?_
    rintro e w2 ⟨rfl, hk⟩
    have cw := hid (bq.out.trans hk)
    have cx := hid (bG.out.same hk)
    clear hk
    obtain ⟨gl, gh, gg, gj, fY, gi, fZ, gq, gd, gp, eD, eF, ek, eu⟩ := cx.out.all14
    go_wp2
    go_ret
    exact ⟨by first | rfl | (simp; omega), cw.out⟩
   subst qdirty
   rw [decide_eq_true rfl]
   by_cases qimage : av = 0
   case neg =>
    rw [decide_eq_false qimage]
    simp only [Bool.false_and, Bool.and_false, Bool.not_false]
    have lO : (0 : Int) < av := by omega
    obtain ⟨bk, cv⟩ := new1 w [.int .i64 5, .int .i64 txn, .int .i64 prev, .int .i64 0, .int .i64 0, .bool af, .slice aj ah ag, .bool ay, .slice aB az aA, .int .i64 0, .int .i64 0, .slice bi 0 bh, .slice aI 0 aH, .slice aE av aD] 49
    go_enter Tryz.func44, Tryz.ntmps44
    go_wp2_with fail
    refine (aG _ bk.out).mono ?_
    rintro e w1 ⟨rfl, hk⟩
    have bq := hid (bk.out.trans hk)
    have bG := hid (cv.out.same hk)
    clear hk
    obtain ⟨eH, eK, eN, eO, eP, eQ, eE, eI, eJ, eM, dw, dm, dp, dr⟩ := bG.out.all14
    go_wp2_with fail
    refine (al _ bq.out).mono ?_
    rintro e w2 ⟨rfl, hk⟩
    have cw := hid (bq.out.trans hk)
    have cx := hid (bG.out.same hk)
    clear hk
    obtain ⟨gl, gh, gg, gj, fY, gi, fZ, gq, gd, gp, eD, eF, ek, eu⟩ := cx.out.all14
    go_wp2
    go_ret
    exact ⟨by first | rfl | (simp; omega), cw.out⟩
   subst qimage
   rw [decide_eq_true rfl]
   simp only [Bool.and_true, Bool.and_self, Bool.not_true]
   obtain ⟨bk, cv⟩ := new1 w [.int .i64 5, .int .i64 txn, .int .i64 prev, .int .i64 0, .int .i64 0, .bool af, .slice aj ah ag, .bool ay, .slice aB az aA, .int .i64 0, .int .i64 0, .slice bi 0 bh, .slice aI 0 aH, .slice aE 0 aD] 49
   go_enter Tryz.func44, Tryz.ntmps44
   go_wp2_with fail
   refine (aG _ bk.out).mono ?_
   rintro e w1 ⟨rfl, hk⟩
   have bq := hid (bk.out.trans hk)
   have bG := hid (cv.out.same hk)
   clear hk
   obtain ⟨eH, eK, eN, eO, eP, eQ, eE, eI, eJ, eM, dw, dm, dp, dr⟩ := bG.out.all14
   go_wp2_with fail
   refine (al _ bq.out).mono ?_
   rintro e w2 ⟨rfl, hk⟩
   have cw := hid (bq.out.trans hk)
   have cx := hid (bG.out.same hk)
   clear hk
   obtain ⟨gl, gh, gg, gj, fY, gi, fZ, gq, gd, gp, eD, eF, ek, eu⟩ := cx.out.all14
   go_wp2
   go_ret
   exact ⟨rfl, cw.out⟩
end Go.Proofs.YtepdakgfioffgaaGreat
