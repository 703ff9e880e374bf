import Derived.Test.YtdgmecmkkddpeaaGreatTyLogRecord
namespace Go.Proofs.YtdgmecmkkddpeaaGreat
set_option maxRecDepth 100000
set_option maxHeartbeats 16000000
set_option linter.unusedVariables false
set_option linter.unusedSimpArgs false
open Go.RowKit
theorem extra_1 (txn : Int) (prev : Int) (page : Int) (slot : Int) (beforeu : Bool) (beforea : Option Addr) (beforen beforec : Nat) (afteru : Bool) (aftera : Option Addr) (aftern afterc : Nat) (uN : Int) (nT : Int) (txnsa : Option Addr) (txnsn txnsc : Nat) (dirtya : Option Addr) (dirtyn dirtyc : Nat) (imagea : Option Addr) (imagen imagec : Nat) (w : World)  (hmtxns : txnsn ≤ maxLen) (hmdirty : dirtyn ≤ maxLen) (hmimage : imagen ≤ maxLen) :
  Calls Tryz.prog 37 #[.agg #[.int .i64 1, .int .i64 txn, .int .i64 prev, .int .i64 page, .int .i64 slot, .bool beforeu, .slice beforea beforen beforec, .bool afteru, .slice aftera aftern afterc, .int .i64 uN, .int .i64 nT, .slice txnsa txnsn txnsc, .slice dirtya dirtyn dirtyc, .slice imagea imagen imagec]] w fun e w' => e = .returned (.bool (!(decide (0 = uN) && decide (0 = nT) && decide (txnsn = 0) && decide (dirtyn = 0) && decide (imagen = 0)))) ∧ Same w w' := by
 unfold maxLen at hmtxns hmdirty hmimage
 by_cases quN : 0 = uN
 case neg =>
  rw [decide_eq_false quN]
  simp only [Bool.false_and, Bool.and_false, Bool.not_false]
  have ruN : ¬ uN = 0 := fun e => quN e.symm
  obtain ⟨HK0, HB0⟩ := new1 w [.int .i64 1, .int .i64 txn, .int .i64 prev, .int .i64 page, .int .i64 slot, .bool beforeu, .slice beforea beforen beforec, .bool afteru, .slice aftera aftern afterc, .int .i64 uN, .int .i64 nT, .slice txnsa txnsn txnsc, .slice dirtya dirtyn dirtyc, .slice imagea imagen imagec] 35
  go_enter Tryz.func37, Tryz.ntmps37
  go_wp2
  go_ret
  exact ⟨rfl, HK0.out⟩
 subst quN
 rw [decide_eq_true rfl]
 by_cases qnT : 0 = nT
 case neg =>
  rw [decide_eq_false qnT]
  simp only [Bool.false_and, Bool.and_false, Bool.not_false]
  have rnT : ¬ nT = 0 := fun e => qnT e.symm
  obtain ⟨HK0, HB0⟩ := new1 w [.int .i64 1, .int .i64 txn, .int .i64 prev, .int .i64 page, .int .i64 slot, .bool beforeu, .slice beforea beforen beforec, .bool afteru, .slice aftera aftern afterc, .int .i64 0, .int .i64 nT, .slice txnsa txnsn txnsc, .slice dirtya dirtyn dirtyc, .slice imagea imagen imagec] 35
  go_enter Tryz.func37, Tryz.ntmps37
  go_wp2
  go_ret
  exact ⟨rfl, HK0.out⟩
 subst qnT
 rw [decide_eq_true rfl]
 by_cases qtxns : txnsn = 0
 case neg =>
  rw [decide_eq_false qtxns]
  simp only [Bool.false_and, Bool.and_false, Bool.not_false]
  have rtxns : (0 : Int) < txnsn := by omega
  obtain ⟨HK0, HB0⟩ := new1 w [.int .i64 1, .int .i64 txn, .int .i64 prev, .int .i64 page, .int .i64 slot, .bool beforeu, .slice beforea beforen beforec, .bool afteru, .slice aftera aftern afterc, .int .i64 0, .int .i64 0, .slice txnsa txnsn txnsc, .slice dirtya dirtyn dirtyc, .slice imagea imagen imagec] 35
  go_enter Tryz.func37, Tryz.ntmps37
  go_wp2
  go_ret
  exact ⟨by first | rfl | (simp; omega), HK0.out⟩
 subst qtxns
 rw [decide_eq_true rfl]
 by_cases qdirty : dirtyn = 0
 case neg =>
  rw [decide_eq_false qdirty]
  simp only [Bool.false_and, Bool.and_false, Bool.not_false]
  have rdirty : (0 : Int) < dirtyn := by omega
  obtain ⟨HK0, HB0⟩ := new1 w [.int .i64 1, .int .i64 txn, .int .i64 prev, .int .i64 page, .int .i64 slot, .bool beforeu, .slice beforea beforen beforec, .bool afteru, .slice aftera aftern afterc, .int .i64 0, .int .i64 0, .slice txnsa 0 txnsc, .slice dirtya dirtyn dirtyc, .slice imagea imagen imagec] 35
  go_enter Tryz.func37, Tryz.ntmps37
  go_wp2
  go_ret
  exact ⟨by first | rfl | (simp; omega), HK0.out⟩
 subst qdirty
 rw [decide_eq_true rfl]
 by_cases qimage : imagen = 0
 case neg =>
  rw [decide_eq_false qimage]
  simp only [Bool.false_and, Bool.and_false, Bool.not_false]
  have rimage : (0 : Int) < imagen := by omega
  obtain ⟨HK0, HB0⟩ := new1 w [.int .i64 1, .int .i64 txn, .int .i64 prev, .int .i64 page, .int .i64 slot, .bool beforeu, .slice beforea beforen beforec, .bool afteru, .slice aftera aftern afterc, .int .i64 0, .int .i64 0, .slice txnsa 0 txnsc, .slice dirtya 0 dirtyc, .slice imagea imagen imagec] 35
  go_enter Tryz.func37, Tryz.ntmps37
  go_wp2
  go_ret
  exact ⟨by first | rfl | (simp; omega), HK0.out⟩
 subst qimage
 rw [decide_eq_true rfl]
 simp only [Bool.and_true, Bool.and_self, Bool.not_true]
 obtain ⟨HK0, HB0⟩ := new1 w [.int .i64 1, .int .i64 txn, .int .i64 prev, .int .i64 page, .int .i64 slot, .bool beforeu, .slice beforea beforen beforec, .bool afteru, .slice aftera aftern afterc, .int .i64 0, .int .i64 0, .slice txnsa 0 txnsc, .slice dirtya 0 dirtyc, .slice imagea 0 imagec] 35
 go_enter Tryz.func37, Tryz.ntmps37
 go_wp2
 go_ret
 exact ⟨rfl, HK0.out⟩
theorem extra_2 (txn : Int) (prev : Int) (page : Int) (slot : Int) (beforeu : Bool) (beforea : Option Addr) (beforen beforec : Nat) (afteru : Bool) (aftera : Option Addr) (aftern afterc : Nat) (uN : Int) (nT : Int) (txnsa : Option Addr) (txnsn txnsc : Nat) (dirtya : Option Addr) (dirtyn dirtyc : Nat) (imagea : Option Addr) (imagen imagec : Nat) (w : World) (ebefore : Bool) (hbefore : ∀ wx, Same w wx → Calls Tryz.prog 51 #[.agg #[.bool beforeu, .slice beforea beforen beforec]] wx fun e w' => e = .returned (.bool ebefore) ∧ Same wx w') (hmtxns : txnsn ≤ maxLen) (hmdirty : dirtyn ≤ maxLen) (hmimage : imagen ≤ maxLen) :
  Calls Tryz.prog 37 #[.agg #[.int .i64 2, .int .i64 txn, .int .i64 prev, .int .i64 page, .int .i64 slot, .bool beforeu, .slice beforea beforen beforec, .bool afteru, .slice aftera aftern afterc, .int .i64 uN, .int .i64 nT, .slice txnsa txnsn txnsc, .slice dirtya dirtyn dirtyc, .slice imagea imagen imagec]] w fun e w' => e = .returned (.bool (!(ebefore && decide (0 = nT) && decide (txnsn = 0) && decide (dirtyn = 0) && decide (imagen = 0)))) ∧ Same w w' := by
 unfold maxLen at hmtxns hmdirty hmimage
 cases ebefore with
 | false =>
  simp only [Bool.false_and, Bool.and_false, Bool.not_false]
  obtain ⟨HK0, HB0⟩ := new1 w [.int .i64 2, .int .i64 txn, .int .i64 prev, .int .i64 page, .int .i64 slot, .bool beforeu, .slice beforea beforen beforec, .bool afteru, .slice aftera aftern afterc, .int .i64 uN, .int .i64 nT, .slice txnsa txnsn txnsc, .slice dirtya dirtyn dirtyc, .slice imagea imagen imagec] 35
  go_enter Tryz.func37, Tryz.ntmps37
  go_wp2_with fail
  refine (hbefore _ HK0.out).mono ?_
  rintro e w1 ⟨rfl, hk⟩
  have HK1 := hid (HK0.out.trans hk)
  have HB1 := hid (HB0.out.same hk)
  clear hk
  obtain ⟨d1_0, d1_1, d1_2, d1_3, d1_4, d1_5, d1_6, d1_7, d1_8, d1_9, d1_10, d1_11, d1_12, d1_13⟩ := HB1.out.all14
  go_wp2
  go_ret
  exact ⟨rfl, HK1.out⟩
 | true =>
  by_cases qnT : 0 = nT
  case neg =>
   rw [decide_eq_false qnT]
   simp only [Bool.false_and, Bool.and_false, Bool.not_false]
   have rnT : ¬ nT = 0 := fun e => qnT e.symm
   obtain ⟨HK0, HB0⟩ := new1 w [.int .i64 2, .int .i64 txn, .int .i64 prev, .int .i64 page, .int .i64 slot, .bool beforeu, .slice beforea beforen beforec, .bool afteru, .slice aftera aftern afterc, .int .i64 uN, .int .i64 nT, .slice txnsa txnsn txnsc, .slice dirtya dirtyn dirtyc, .slice imagea imagen imagec] 35
   go_enter Tryz.func37, Tryz.ntmps37
   go_wp2_with fail
   refine (hbefore _ HK0.out).mono ?_
   rintro e w1 ⟨rfl, hk⟩
   have HK1 := hid (HK0.out.trans hk)
   have HB1 := hid (HB0.out.same hk)
   clear hk
   obtain ⟨d1_0, d1_1, d1_2, d1_3, d1_4, d1_5, d1_6, d1_7, d1_8, d1_9, d1_10, d1_11, d1_12, d1_13⟩ := HB1.out.all14
   go_wp2
   go_ret
   exact ⟨rfl, HK1.out⟩
  subst qnT
  rw [decide_eq_true rfl]
  by_cases qtxns : txnsn = 0
  case neg =>
   rw [decide_eq_false qtxns]
   simp only [Bool.false_and, Bool.and_false, Bool.not_false]
   have rtxns : (0 : Int) < txnsn := by omega
   obtain ⟨HK0, HB0⟩ := new1 w [.int .i64 2, .int .i64 txn, .int .i64 prev, .int .i64 page, .int .i64 slot, .bool beforeu, .slice beforea beforen beforec, .bool afteru, .slice aftera aftern afterc, .int .i64 uN, .int .i64 0, .slice txnsa txnsn txnsc, .slice dirtya dirtyn dirtyc, .slice imagea imagen imagec] 35
   go_enter Tryz.func37, Tryz.ntmps37
   go_wp2_with fail
   refine (hbefore _ HK0.out).mono ?_
   rintro e w1 ⟨rfl, hk⟩
   have HK1 := hid (HK0.out.trans hk)
   have HB1 := hid (HB0.out.same hk)
   clear hk
   obtain ⟨d1_0, d1_1, d1_2, d1_3, d1_4, d1_5, d1_6, d1_7, d1_8, d1_9, d1_10, d1_11, d1_12, d1_13⟩ := HB1.out.all14
   go_wp2
   go_ret
   exact ⟨by first | rfl | (simp; omega), HK1.out⟩
  subst qtxns
  rw [decide_eq_true rfl]
  by_cases qdirty : dirtyn = 0
  case neg =>
   rw [decide_eq_false qdirty]
   simp only [Bool.false_and, Bool.and_false, Bool.not_false]
   have rdirty : (0 : Int) < dirtyn := by omega
   obtain ⟨HK0, HB0⟩ := new1 w [.int .i64 2, .int .i64 txn, .int .i64 prev, .int .i64 page, .int .i64 slot, .bool beforeu, .slice beforea beforen beforec, .bool afteru, .slice aftera aftern afterc, .int .i64 uN, .int .i64 0, .slice txnsa 0 txnsc, .slice dirtya dirtyn dirtyc, .slice imagea imagen imagec] 35
   go_enter Tryz.func37, Tryz.ntmps37
   go_wp2_with fail
   refine (hbefore _ HK0.out).mono ?_
   rintro e w1 ⟨rfl, hk⟩
   have HK1 := hid (HK0.out.trans hk)
   have HB1 := hid (HB0.out.same hk)
   clear hk
   obtain ⟨d1_0, d1_1, d1_2, d1_3, d1_4, d1_5, d1_6, d1_7, d1_8, d1_9, d1_10, d1_11, d1_12, d1_13⟩ := HB1.out.all14
   go_wp2
   go_ret
   exact ⟨by first | rfl | (simp; omega), HK1.out⟩
  subst qdirty
  rw [decide_eq_true rfl]
  by_cases qimage : imagen = 0
  case neg =>
   rw [decide_eq_false qimage]
   simp only [Bool.false_and, Bool.and_false, Bool.not_false]
   have rimage : (0 : Int) < imagen := by omega
   obtain ⟨HK0, HB0⟩ := new1 w [.int .i64 2, .int .i64 txn, .int .i64 prev, .int .i64 page, .int .i64 slot, .bool beforeu, .slice beforea beforen beforec, .bool afteru, .slice aftera aftern afterc, .int .i64 uN, .int .i64 0, .slice txnsa 0 txnsc, .slice dirtya 0 dirtyc, .slice imagea imagen imagec] 35
   go_enter Tryz.func37, Tryz.ntmps37
   go_wp2_with fail
   refine (hbefore _ HK0.out).mono ?_
   rintro e w1 ⟨rfl, hk⟩
   have HK1 := hid (HK0.out.trans hk)
   have HB1 := hid (HB0.out.same hk)
   clear hk
   obtain ⟨d1_0, d1_1, d1_2, d1_3, d1_4, d1_5, d1_6, d1_7, d1_8, d1_9, d1_10, d1_11, d1_12, d1_13⟩ := HB1.out.all14
   go_wp2
   go_ret
   exact ⟨by first | rfl | (simp; omega), HK1.out⟩
  subst qimage
  rw [decide_eq_true rfl]
  simp only [Bool.and_true, Bool.and_self, Bool.not_true]
  obtain ⟨HK0, HB0⟩ := new1 w [.int .i64 2, .int .i64 txn, .int .i64 prev, .int .i64 page, .int .i64 slot, .bool beforeu, .slice beforea beforen beforec, .bool afteru, .slice aftera aftern afterc, .int .i64 uN, .int .i64 0, .slice txnsa 0 txnsc, .slice dirtya 0 dirtyc, .slice imagea 0 imagec] 35
  go_enter Tryz.func37, Tryz.ntmps37
  go_wp2_with fail
  refine (hbefore _ HK0.out).mono ?_
  rintro e w1 ⟨rfl, hk⟩
  have HK1 := hid (HK0.out.trans hk)
  have HB1 := hid (HB0.out.same hk)
  clear hk
  obtain ⟨d1_0, d1_1, d1_2, d1_3, d1_4, d1_5, d1_6, d1_7, d1_8, d1_9, d1_10, d1_11, d1_12, d1_13⟩ := HB1.out.all14
  go_wp2
  go_ret
  exact ⟨rfl, HK1.out⟩
theorem extra_3 (txn : Int) (prev : Int) (page : Int) (slot : Int) (beforeu : Bool) (beforea : Option Addr) (beforen beforec : Nat) (afteru : Bool) (aftera : Option Addr) (aftern afterc : Nat) (uN : Int) (nT : Int) (txnsa : Option Addr) (txnsn txnsc : Nat) (dirtya : Option Addr) (dirtyn dirtyc : Nat) (imagea : Option Addr) (imagen imagec : Nat) (w : World) (eafter ebefore : Bool) (hafter : ∀ wx, Same w wx → Calls Tryz.prog 51 #[.agg #[.bool afteru, .slice aftera aftern afterc]] wx fun e w' => e = .returned (.bool eafter) ∧ Same wx w') (hbefore : ∀ wx, Same w wx → Calls Tryz.prog 51 #[.agg #[.bool beforeu, .slice beforea beforen beforec]] wx fun e w' => e = .returned (.bool ebefore) ∧ Same wx w') (hmtxns : txnsn ≤ maxLen) (hmdirty : dirtyn ≤ maxLen) (hmimage : imagen ≤ maxLen) :
  Calls Tryz.prog 37 #[.agg #[.int .i64 3, .int .i64 txn, .int .i64 prev, .int .i64 page, .int .i64 slot, .bool beforeu, .slice beforea beforen beforec, .bool afteru, .slice aftera aftern afterc, .int .i64 uN, .int .i64 nT, .slice txnsa txnsn txnsc, .slice dirtya dirtyn dirtyc, .slice imagea imagen imagec]] w fun e w' => e = .returned (.bool (!(decide (0 = slot) && eafter && decide (0 = page) && ebefore && decide (0 = uN) && decide (0 = nT) && decide (txnsn = 0) && decide (dirtyn = 0) && decide (imagen = 0)))) ∧ Same w w' := by
 unfold maxLen at hmtxns hmdirty hmimage
 by_cases qslot : 0 = slot
 case neg =>
  rw [decide_eq_false qslot]
  simp only [Bool.false_and, Bool.and_false, Bool.not_false]
  have rslot : ¬ slot = 0 := fun e => qslot e.symm
  obtain ⟨HK0, HB0⟩ := new1 w [.int .i64 3, .int .i64 txn, .int .i64 prev, .int .i64 page, .int .i64 slot, .bool beforeu, .slice beforea beforen beforec, .bool afteru, .slice aftera aftern afterc, .int .i64 uN, .int .i64 nT, .slice txnsa txnsn txnsc, .slice dirtya dirtyn dirtyc, .slice imagea imagen imagec] 35
  go_enter Tryz.func37, Tryz.ntmps37
  go_wp2
  go_ret
  exact ⟨rfl, HK0.out⟩
 subst qslot
 rw [decide_eq_true rfl]
 cases eafter with
 | false =>
  simp only [Bool.false_and, Bool.and_false, Bool.not_false]
  obtain ⟨HK0, HB0⟩ := new1 w [.int .i64 3, .int .i64 txn, .int .i64 prev, .int .i64 page, .int .i64 0, .bool beforeu, .slice beforea beforen beforec, .bool afteru, .slice aftera aftern afterc, .int .i64 uN, .int .i64 nT, .slice txnsa txnsn txnsc, .slice dirtya dirtyn dirtyc, .slice imagea imagen imagec] 35
  go_enter Tryz.func37, Tryz.ntmps37
  go_wp2_with fail
  refine (hafter _ HK0.out).mono ?_
  rintro e w1 ⟨rfl, hk⟩
  have HK1 := hid (HK0.out.trans hk)
  have HB1 := hid (HB0.out.same hk)
  clear hk
  obtain ⟨d1_0, d1_1, d1_2, d1_3, d1_4, d1_5, d1_6, d1_7, d1_8, d1_9, d1_10, d1_11, d1_12, d1_13⟩ := HB1.out.all14
  go_wp2
  go_ret
  exact ⟨rfl, HK1.out⟩
 | true =>
  by_cases qpage : 0 = page
  case neg =>
   rw [decide_eq_false qpage]
   simp only [Bool.false_and, Bool.and_false, Bool.not_false]
   have rpage : ¬ page = 0 := fun e => qpage e.symm
   obtain ⟨HK0, HB0⟩ := new1 w [.int .i64 3, .int .i64 txn, .int .i64 prev, .int .i64 page, .int .i64 0, .bool beforeu, .slice beforea beforen beforec, .bool afteru, .slice aftera aftern afterc, .int .i64 uN, .int .i64 nT, .slice txnsa txnsn txnsc, .slice dirtya dirtyn dirtyc, .slice imagea imagen imagec] 35
   go_enter Tryz.func37, Tryz.ntmps37
   go_wp2_with fail
   refine (hafter _ HK0.out).mono ?_
   rintro e w1 ⟨rfl, hk⟩
   have HK1 := hid (HK0.out.trans hk)
   have HB1 := hid (HB0.out.same hk)
   clear hk
   obtain ⟨d1_0, d1_1, d1_2, d1_3, d1_4, d1_5, d1_6, d1_7, d1_8, d1_9, d1_10, d1_11, d1_12, d1_13⟩ := HB1.out.all14
   go_wp2
   go_ret
   exact ⟨rfl, HK1.out⟩
  subst qpage
  rw [decide_eq_true rfl]
  cases ebefore with
  | false =>
   simp only [Bool.false_and, Bool.and_false, Bool.not_false]
   obtain ⟨HK0, HB0⟩ := new1 w [.int .i64 3, .int .i64 txn, .int .i64 prev, .int .i64 0, .int .i64 0, .bool beforeu, .slice beforea beforen beforec, .bool afteru, .slice aftera aftern afterc, .int .i64 uN, .int .i64 nT, .slice txnsa txnsn txnsc, .slice dirtya dirtyn dirtyc, .slice imagea imagen imagec] 35
   go_enter Tryz.func37, Tryz.ntmps37
   go_wp2_with fail
   refine (hafter _ HK0.out).mono ?_
   rintro e w1 ⟨rfl, hk⟩
   have HK1 := hid (HK0.out.trans hk)
   have HB1 := hid (HB0.out.same hk)
   clear hk
   obtain ⟨d1_0, d1_1, d1_2, d1_3, d1_4, d1_5, d1_6, d1_7, d1_8, d1_9, d1_10, d1_11, d1_12, d1_13⟩ := HB1.out.all14
   go_wp2_with fail
   refine (hbefore _ HK1.out).mono ?_
   rintro e w2 ⟨rfl, hk⟩
   have HK2 := hid (HK1.out.trans hk)
   have HB2 := hid (HB1.out.same hk)
   clear hk
   obtain ⟨d2_0, d2_1, d2_2, d2_3, d2_4, d2_5, d2_6, d2_7, d2_8, d2_9, d2_10, d2_11, d2_12, d2_13⟩ := HB2.out.all14
   go_wp2
   go_ret
   exact ⟨rfl, HK2.out⟩
  | true =>
   by_cases quN : 0 = uN
   case neg =>
    rw [decide_eq_false quN]
    simp only [Bool.false_and, Bool.and_false, Bool.not_false]
    have ruN : ¬ uN = 0 := fun e => quN e.symm
    obtain ⟨HK0, HB0⟩ := new1 w [.int .i64 3, .int .i64 txn, .int .i64 prev, .int .i64 0, .int .i64 0, .bool beforeu, .slice beforea beforen beforec, .bool afteru, .slice aftera aftern afterc, .int .i64 uN, .int .i64 nT, .slice txnsa txnsn txnsc, .slice dirtya dirtyn dirtyc, .slice imagea imagen imagec] 35
    go_enter Tryz.func37, Tryz.ntmps37
    go_wp2_with fail
    refine (hafter _ HK0.out).mono ?_
    rintro e w1 ⟨rfl, hk⟩
    have HK1 := hid (HK0.out.trans hk)
    have HB1 := hid (HB0.out.same hk)
    clear hk
    obtain ⟨d1_0, d1_1, d1_2, d1_3, d1_4, d1_5, d1_6, d1_7, d1_8, d1_9, d1_10, d1_11, d1_12, d1_13⟩ := HB1.out.all14
    go_wp2_with fail
    refine (hbefore _ HK1.out).mono ?_
    rintro e w2 ⟨rfl, hk⟩
    have HK2 := hid (HK1.out.trans hk)
    have HB2 := hid (HB1.out.same hk)
    clear hk
    obtain ⟨d2_0, d2_1, d2_2, d2_3, d2_4, d2_5, d2_6, d2_7, d2_8, d2_9, d2_10, d2_11, d2_12, d2_13⟩ := HB2.out.all14
    go_wp2
    go_ret
    exact ⟨rfl, HK2.out⟩
   subst quN
   rw [decide_eq_true rfl]
   by_cases qnT : 0 = nT
   case neg =>
    rw [decide_eq_false qnT]
    simp only [Bool.false_and, Bool.and_false, Bool.not_false]
    have rnT : ¬ nT = 0 := fun e => qnT e.symm
    obtain ⟨HK0, HB0⟩ := new1 w [.int .i64 3, .int .i64 txn, .int .i64 prev, .int .i64 0, .int .i64 0, .bool beforeu, .slice beforea beforen beforec, .bool afteru, .slice aftera aftern afterc, .int .i64 0, .int .i64 nT, .slice txnsa txnsn txnsc, .slice dirtya dirtyn dirtyc, .slice imagea imagen imagec] 35
    go_enter Tryz.func37, Tryz.ntmps37
    go_wp2_with fail
    refine (hafter _ HK0.out).mono ?_
    rintro e w1 ⟨rfl, hk⟩
    have HK1 := hid (HK0.out.trans hk)
    have HB1 := hid (HB0.out.same hk)
    clear hk
    obtain ⟨d1_0, d1_1, d1_2, d1_3, d1_4, d1_5, d1_6, d1_7, d1_8, d1_9, d1_10, d1_11, d1_12, d1_13⟩ := HB1.out.all14
    go_wp2_with fail
    refine (hbefore _ HK1.out).mono ?_
    rintro e w2 ⟨rfl, hk⟩
    have HK2 := hid (HK1.out.trans hk)
    have HB2 := hid (HB1.out.same hk)
    clear hk
    obtain ⟨d2_0, d2_1, d2_2, d2_3, d2_4, d2_5, d2_6, d2_7, d2_8, d2_9, d2_10, d2_11, d2_12, d2_13⟩ := HB2.out.all14
    go_wp2
    go_ret
    exact ⟨rfl, HK2.out⟩
   subst qnT
   rw [decide_eq_true rfl]
   by_cases qtxns : txnsn = 0
   case neg =>
    rw [decide_eq_false qtxns]
    simp only [Bool.false_and, Bool.and_false, Bool.not_false]
    have rtxns : (0 : Int) < txnsn := by omega
    obtain ⟨HK0, HB0⟩ := new1 w [.int .i64 3, .int .i64 txn, .int .i64 prev, .int .i64 0, .int .i64 0, .bool beforeu, .slice beforea beforen beforec, .bool afteru, .slice aftera aftern afterc, .int .i64 0, .int .i64 0, .slice txnsa txnsn txnsc, .slice dirtya dirtyn dirtyc, .slice imagea imagen imagec] 35
    go_enter Tryz.func37, Tryz.ntmps37
    go_wp2_with fail
    refine (hafter _ HK0.out).mono ?_
    rintro e w1 ⟨rfl, hk⟩
    have HK1 := hid (HK0.out.trans hk)
    have HB1 := hid (HB0.out.same hk)
    clear hk
    obtain ⟨d1_0, d1_1, d1_2, d1_3, d1_4, d1_5, d1_6, d1_7, d1_8, d1_9, d1_10, d1_11, d1_12, d1_13⟩ := HB1.out.all14
    go_wp2_with fail
    refine (hbefore _ HK1.out).mono ?_
    rintro e w2 ⟨rfl, hk⟩
    have HK2 := hid (HK1.out.trans hk)
    have HB2 := hid (HB1.out.same hk)
    clear hk
    obtain ⟨d2_0, d2_1, d2_2, d2_3, d2_4, d2_5, d2_6, d2_7, d2_8, d2_9, d2_10, d2_11, d2_12, d2_13⟩ := HB2.out.all14
    go_wp2
    go_ret
    exact ⟨by first | rfl | (simp; omega), HK2.out⟩
   subst qtxns
   rw [decide_eq_true rfl]
   by_cases qdirty : dirtyn = 0
   case neg =>
    rw [decide_eq_false qdirty]
    simp only [Bool.false_and, Bool.and_false, Bool.not_false]
    have rdirty : (0 : Int) < dirtyn := by omega
    obtain ⟨HK0, HB0⟩ := new1 w [.int .i64 3, .int .i64 txn, .int .i64 prev, .int .i64 0, .int .i64 0, .bool beforeu, .slice beforea beforen beforec, .bool afteru, .slice aftera aftern afterc, .int .i64 0, .int .i64 0, .slice txnsa 0 txnsc, .slice dirtya dirtyn dirtyc, .slice imagea imagen imagec] 35
    go_enter Tryz.func37, Tryz.ntmps37
    go_wp2_with fail
    refine (hafter _ HK0.out).mono ?_
    rintro e w1 ⟨rfl, hk⟩
    have HK1 := hid (HK0.out.trans hk)
    have HB1 := hid (HB0.out.same hk)
    clear hk
    obtain ⟨d1_0, d1_1, d1_2, d1_3, d1_4, d1_5, d1_6, d1_7, d1_8, d1_9, d1_10, d1_11, d1_12, d1_13⟩ := HB1.out.all14
    go_wp2_with fail
    refine (hbefore _ HK1.out).mono ?_
    rintro e w2 ⟨rfl, hk⟩
    have HK2 := hid (HK1.out.trans hk)
    have HB2 := hid (HB1.out.same hk)
    clear hk
    obtain ⟨d2_0, d2_1, d2_2, d2_3, d2_4, d2_5, d2_6, d2_7, d2_8, d2_9, d2_10, d2_11, d2_12, d2_13⟩ := HB2.out.all14
    go_wp2
    go_ret
    exact ⟨by first | rfl | (simp; omega), HK2.out⟩
   subst qdirty
   rw [decide_eq_true rfl]
   by_cases qimage : imagen = 0
   case neg =>
    rw [decide_eq_false qimage]
    simp only [Bool.false_and, Bool.and_false, Bool.not_false]
    have rimage : (0 : Int) < imagen := by omega
    obtain ⟨HK0, HB0⟩ := new1 w [.int .i64 3, .int .i64 txn, .int .i64 prev, .int .i64 0, .int .i64 0, .bool beforeu, .slice beforea beforen beforec, .bool afteru, .slice aftera aftern afterc, .int .i64 0, .int .i64 0, .slice txnsa 0 txnsc, .slice dirtya 0 dirtyc, .slice imagea imagen imagec] 35
    go_enter Tryz.func37, Tryz.ntmps37
    go_wp2_with fail
    refine (hafter _ HK0.out).mono ?_
    rintro e w1 ⟨rfl, hk⟩
    have HK1 := hid (HK0.out.trans hk)
    have HB1 := hid (HB0.out.same hk)
    clear hk
    obtain ⟨d1_0, d1_1, d1_2, d1_3, d1_4, d1_5, d1_6, d1_7, d1_8, d1_9, d1_10, d1_11, d1_12, d1_13⟩ := HB1.out.all14
    go_wp2_with fail
    refine (hbefore _ HK1.out).mono ?_
    rintro e w2 ⟨rfl, hk⟩
    have HK2 := hid (HK1.out.trans hk)
    have HB2 := hid (HB1.out.same hk)
    clear hk
    obtain ⟨d2_0, d2_1, d2_2, d2_3, d2_4, d2_5, d2_6, d2_7, d2_8, d2_9, d2_10, d2_11, d2_12, d2_13⟩ := HB2.out.all14
    go_wp2
    go_ret
    exact ⟨by first | rfl | (simp; omega), HK2.out⟩
   subst qimage
   rw [decide_eq_true rfl]
   simp only [Bool.and_true, Bool.and_self, Bool.not_true]
   obtain ⟨HK0, HB0⟩ := new1 w [.int .i64 3, .int .i64 txn, .int .i64 prev, .int .i64 0, .int .i64 0, .bool beforeu, .slice beforea beforen beforec, .bool afteru, .slice aftera aftern afterc, .int .i64 0, .int .i64 0, .slice txnsa 0 txnsc, .slice dirtya 0 dirtyc, .slice imagea 0 imagec] 35
   go_enter Tryz.func37, Tryz.ntmps37
   go_wp2_with fail
   refine (hafter _ HK0.out).mono ?_
   rintro e w1 ⟨rfl, hk⟩
   have HK1 := hid (HK0.out.trans hk)
   have HB1 := hid (HB0.out.same hk)
   clear hk
   obtain ⟨d1_0, d1_1, d1_2, d1_3, d1_4, d1_5, d1_6, d1_7, d1_8, d1_9, d1_10, d1_11, d1_12, d1_13⟩ := HB1.out.all14
   go_wp2_with fail
   refine (hbefore _ HK1.out).mono ?_
   rintro e w2 ⟨rfl, hk⟩
   have HK2 := hid (HK1.out.trans hk)
   have HB2 := hid (HB1.out.same hk)
   clear hk
   obtain ⟨d2_0, d2_1, d2_2, d2_3, d2_4, d2_5, d2_6, d2_7, d2_8, d2_9, d2_10, d2_11, d2_12, d2_13⟩ := HB2.out.all14
   go_wp2
   go_ret
   exact ⟨rfl, HK2.out⟩
theorem extra_4 (txn : Int) (prev : Int) (page : Int) (slot : Int) (beforeu : Bool) (beforea : Option Addr) (beforen beforec : Nat) (afteru : Bool) (aftera : Option Addr) (aftern afterc : Nat) (uN : Int) (nT : Int) (txnsa : Option Addr) (txnsn txnsc : Nat) (dirtya : Option Addr) (dirtyn dirtyc : Nat) (imagea : Option Addr) (imagen imagec : Nat) (w : World) (eafter ebefore : Bool) (hafter : ∀ wx, Same w wx → Calls Tryz.prog 51 #[.agg #[.bool afteru, .slice aftera aftern afterc]] wx fun e w' => e = .returned (.bool eafter) ∧ Same wx w') (hbefore : ∀ wx, Same w wx → Calls Tryz.prog 51 #[.agg #[.bool beforeu, .slice beforea beforen beforec]] wx fun e w' => e = .returned (.bool ebefore) ∧ Same wx w') (hmtxns : txnsn ≤ maxLen) (hmdirty : dirtyn ≤ maxLen) (hmimage : imagen ≤ maxLen) :
  Calls Tryz.prog 37 #[.agg #[.int .i64 4, .int .i64 txn, .int .i64 prev, .int .i64 page, .int .i64 slot, .bool beforeu, .slice beforea beforen beforec, .bool afteru, .slice aftera aftern afterc, .int .i64 uN, .int .i64 nT, .slice txnsa txnsn txnsc, .slice dirtya dirtyn dirtyc, .slice imagea imagen imagec]] w fun e w' => e = .returned (.bool (!(decide (0 = slot) && eafter && decide (0 = page) && ebefore && decide (0 = uN) && decide (0 = nT) && decide (txnsn = 0) && decide (dirtyn = 0) && decide (imagen = 0)))) ∧ Same w w' := by
 unfold maxLen at hmtxns hmdirty hmimage
 by_cases qslot : 0 = slot
 case neg =>
  rw [decide_eq_false qslot]
  simp only [Bool.false_and, Bool.and_false, Bool.not_false]
  have rslot : ¬ slot = 0 := fun e => qslot e.symm
  obtain ⟨HK0, HB0⟩ := new1 w [.int .i64 4, .int .i64 txn, .int .i64 prev, .int .i64 page, .int .i64 slot, .bool beforeu, .slice beforea beforen beforec, .bool afteru, .slice aftera aftern afterc, .int .i64 uN, .int .i64 nT, .slice txnsa txnsn txnsc, .slice dirtya dirtyn dirtyc, .slice imagea imagen imagec] 35
  go_enter Tryz.func37, Tryz.ntmps37
  go_wp2
  go_ret
  exact ⟨rfl, HK0.out⟩
 subst qslot
 rw [decide_eq_true rfl]
 cases eafter with
 | false =>
  simp only [Bool.false_and, Bool.and_false, Bool.not_false]
  obtain ⟨HK0, HB0⟩ := new1 w [.int .i64 4, .int .i64 txn, .int .i64 prev, .int .i64 page, .int .i64 0, .bool beforeu, .slice beforea beforen beforec, .bool afteru, .slice aftera aftern afterc, .int .i64 uN, .int .i64 nT, .slice txnsa txnsn txnsc, .slice dirtya dirtyn dirtyc, .slice imagea imagen imagec] 35
  go_enter Tryz.func37, Tryz.ntmps37
  go_wp2_with fail
  refine (hafter _ HK0.out).mono ?_
  rintro e w1 ⟨rfl, hk⟩
  have HK1 := hid (HK0.out.trans hk)
  have HB1 := hid (HB0.out.same hk)
  clear hk
  obtain ⟨d1_0, d1_1, d1_2, d1_3, d1_4, d1_5, d1_6, d1_7, d1_8, d1_9, d1_10, d1_11, d1_12, d1_13⟩ := HB1.out.all14
  go_wp2
  go_ret
  exact ⟨rfl, HK1.out⟩
 | true =>
  by_cases qpage : 0 = page
  case neg =>
   rw [decide_eq_false qpage]
   simp only [Bool.false_and, Bool.and_false, Bool.not_false]
   have rpage : ¬ page = 0 := fun e => qpage e.symm
   obtain ⟨HK0, HB0⟩ := new1 w [.int .i64 4, .int .i64 txn, .int .i64 prev, .int .i64 page, .int .i64 0, .bool beforeu, .slice beforea beforen beforec, .bool afteru, .slice aftera aftern afterc, .int .i64 uN, .int .i64 nT, .slice txnsa txnsn txnsc, .slice dirtya dirtyn dirtyc, .slice imagea imagen imagec] 35
   go_enter Tryz.func37, Tryz.ntmps37
   go_wp2_with fail
   refine (hafter _ HK0.out).mono ?_
   rintro e w1 ⟨rfl, hk⟩
   have HK1 := hid (HK0.out.trans hk)
   have HB1 := hid (HB0.out.same hk)
   clear hk
   obtain ⟨d1_0, d1_1, d1_2, d1_3, d1_4, d1_5, d1_6, d1_7, d1_8, d1_9, d1_10, d1_11, d1_12, d1_13⟩ := HB1.out.all14
   go_wp2
   go_ret
   exact ⟨rfl, HK1.out⟩
  subst qpage
  rw [decide_eq_true rfl]
  cases ebefore with
  | false =>
   simp only [Bool.false_and, Bool.and_false, Bool.not_false]
   obtain ⟨HK0, HB0⟩ := new1 w [.int .i64 4, .int .i64 txn, .int .i64 prev, .int .i64 0, .int .i64 0, .bool beforeu, .slice beforea beforen beforec, .bool afteru, .slice aftera aftern afterc, .int .i64 uN, .int .i64 nT, .slice txnsa txnsn txnsc, .slice dirtya dirtyn dirtyc, .slice imagea imagen imagec] 35
   go_enter Tryz.func37, Tryz.ntmps37
   go_wp2_with fail
   refine (hafter _ HK0.out).mono ?_
   rintro e w1 ⟨rfl, hk⟩
   have HK1 := hid (HK0.out.trans hk)
   have HB1 := hid (HB0.out.same hk)
   clear hk
   obtain ⟨d1_0, d1_1, d1_2, d1_3, d1_4, d1_5, d1_6, d1_7, d1_8, d1_9, d1_10, d1_11, d1_12, d1_13⟩ := HB1.out.all14
   go_wp2_with fail
   refine (hbefore _ HK1.out).mono ?_
   rintro e w2 ⟨rfl, hk⟩
   have HK2 := hid (HK1.out.trans hk)
   have HB2 := hid (HB1.out.same hk)
   clear hk
   obtain ⟨d2_0, d2_1, d2_2, d2_3, d2_4, d2_5, d2_6, d2_7, d2_8, d2_9, d2_10, d2_11, d2_12, d2_13⟩ := HB2.out.all14
   go_wp2
   go_ret
   exact ⟨rfl, HK2.out⟩
  | true =>
   by_cases quN : 0 = uN
   case neg =>
    rw [decide_eq_false quN]
    simp only [Bool.false_and, Bool.and_false, Bool.not_false]
    have ruN : ¬ uN = 0 := fun e => quN e.symm
    obtain ⟨HK0, HB0⟩ := new1 w [.int .i64 4, .int .i64 txn, .int .i64 prev, .int .i64 0, .int .i64 0, .bool beforeu, .slice beforea beforen beforec, .bool afteru, .slice aftera aftern afterc, .int .i64 uN, .int .i64 nT, .slice txnsa txnsn txnsc, .slice dirtya dirtyn dirtyc, .slice imagea imagen imagec] 35
    go_enter Tryz.func37, Tryz.ntmps37
    go_wp2_with fail
    refine (hafter _ HK0.out).mono ?_
    rintro e w1 ⟨rfl, hk⟩
    have HK1 := hid (HK0.out.trans hk)
    have HB1 := hid (HB0.out.same hk)
    clear hk
    obtain ⟨d1_0, d1_1, d1_2, d1_3, d1_4, d1_5, d1_6, d1_7, d1_8, d1_9, d1_10, d1_11, d1_12, d1_13⟩ := HB1.out.all14
    go_wp2_with fail
    refine (hbefore _ HK1.out).mono ?_
    rintro e w2 ⟨rfl, hk⟩
    have HK2 := hid (HK1.out.trans hk)
    have HB2 := hid (HB1.out.same hk)
    clear hk
    obtain ⟨d2_0, d2_1, d2_2, d2_3, d2_4, d2_5, d2_6, d2_7, d2_8, d2_9, d2_10, d2_11, d2_12, d2_13⟩ := HB2.out.all14
    go_wp2
    go_ret
    exact ⟨rfl, HK2.out⟩
   subst quN
   rw [decide_eq_true rfl]
   by_cases qnT : 0 = nT
   case neg =>
    rw [decide_eq_false qnT]
    simp only [Bool.false_and, Bool.and_false, Bool.not_false]
    have rnT : ¬ nT = 0 := fun e => qnT e.symm
    obtain ⟨HK0, HB0⟩ := new1 w [.int .i64 4, .int .i64 txn, .int .i64 prev, .int .i64 0, .int .i64 0, .bool beforeu, .slice beforea beforen beforec, .bool afteru, .slice aftera aftern afterc, .int .i64 0, .int .i64 nT, .slice txnsa txnsn txnsc, .slice dirtya dirtyn dirtyc, .slice imagea imagen imagec] 35
    go_enter Tryz.func37, Tryz.ntmps37
    go_wp2_with fail
    refine (hafter _ HK0.out).mono ?_
    rintro e w1 ⟨rfl, hk⟩
    have HK1 := hid (HK0.out.trans hk)
    have HB1 := hid (HB0.out.same hk)
    clear hk
    obtain ⟨d1_0, d1_1, d1_2, d1_3, d1_4, d1_5, d1_6, d1_7, d1_8, d1_9, d1_10, d1_11, d1_12, d1_13⟩ := HB1.out.all14
    go_wp2_with fail
    refine (hbefore _ HK1.out).mono ?_
    rintro e w2 ⟨rfl, hk⟩
    have HK2 := hid (HK1.out.trans hk)
    have HB2 := hid (HB1.out.same hk)
    clear hk
    obtain ⟨d2_0, d2_1, d2_2, d2_3, d2_4, d2_5, d2_6, d2_7, d2_8, d2_9, d2_10, d2_11, d2_12, d2_13⟩ := HB2.out.all14
    go_wp2
    go_ret
    exact ⟨rfl, HK2.out⟩
   subst qnT
   rw [decide_eq_true rfl]
   by_cases qtxns : txnsn = 0
   case neg =>
    rw [decide_eq_false qtxns]
    simp only [Bool.false_and, Bool.and_false, Bool.not_false]
    have rtxns : (0 : Int) < txnsn := by omega
    obtain ⟨HK0, HB0⟩ := new1 w [.int .i64 4, .int .i64 txn, .int .i64 prev, .int .i64 0, .int .i64 0, .bool beforeu, .slice beforea beforen beforec, .bool afteru, .slice aftera aftern afterc, .int .i64 0, .int .i64 0, .slice txnsa txnsn txnsc, .slice dirtya dirtyn dirtyc, .slice imagea imagen imagec] 35
    go_enter Tryz.func37, Tryz.ntmps37
    go_wp2_with fail
    refine (hafter _ HK0.out).mono ?_
    rintro e w1 ⟨rfl, hk⟩
    have HK1 := hid (HK0.out.trans hk)
    have HB1 := hid (HB0.out.same hk)
    clear hk
    obtain ⟨d1_0, d1_1, d1_2, d1_3, d1_4, d1_5, d1_6, d1_7, d1_8, d1_9, d1_10, d1_11, d1_12, d1_13⟩ := HB1.out.all14
    go_wp2_with fail
    refine (hbefore _ HK1.out).mono ?_
    rintro e w2 ⟨rfl, hk⟩
    have HK2 := hid (HK1.out.trans hk)
    have HB2 := hid (HB1.out.same hk)
    clear hk
    obtain ⟨d2_0, d2_1, d2_2, d2_3, d2_4, d2_5, d2_6, d2_7, d2_8, d2_9, d2_10, d2_11, d2_12, d2_13⟩ := HB2.out.all14
    go_wp2
    go_ret
    exact ⟨by first | rfl | (simp; omega), HK2.out⟩
   subst qtxns
   rw [decide_eq_true rfl]
   by_cases qdirty : dirtyn = 0
   case neg =>
    rw [decide_eq_false qdirty]
    simp only [Bool.false_and, Bool.and_false, Bool.not_false]
    have rdirty : (0 : Int) < dirtyn := by omega
    obtain ⟨HK0, HB0⟩ := new1 w [.int .i64 4, .int .i64 txn, .int .i64 prev, .int .i64 0, .int .i64 0, .bool beforeu, .slice beforea beforen beforec, .bool afteru, .slice aftera aftern afterc, .int .i64 0, .int .i64 0, .slice txnsa 0 txnsc, .slice dirtya dirtyn dirtyc, .slice imagea imagen imagec] 35
    go_enter Tryz.func37, Tryz.ntmps37
    go_wp2_with fail
    refine (hafter _ HK0.out).mono ?_
    rintro e w1 ⟨rfl, hk⟩
    have HK1 := hid (HK0.out.trans hk)
    have HB1 := hid (HB0.out.same hk)
    clear hk
    obtain ⟨d1_0, d1_1, d1_2, d1_3, d1_4, d1_5, d1_6, d1_7, d1_8, d1_9, d1_10, d1_11, d1_12, d1_13⟩ := HB1.out.all14
    go_wp2_with fail
    refine (hbefore _ HK1.out).mono ?_
    rintro e w2 ⟨rfl, hk⟩
    have HK2 := hid (HK1.out.trans hk)
    have HB2 := hid (HB1.out.same hk)
    clear hk
    obtain ⟨d2_0, d2_1, d2_2, d2_3, d2_4, d2_5, d2_6, d2_7, d2_8, d2_9, d2_10, d2_11, d2_12, d2_13⟩ := HB2.out.all14
    go_wp2
    go_ret
    exact ⟨by first | rfl | (simp; omega), HK2.out⟩
   subst qdirty
   rw [decide_eq_true rfl]
   by_cases qimage : imagen = 0
   case neg =>
    rw [decide_eq_false qimage]
    simp only [Bool.false_and, Bool.and_false, Bool.not_false]
    have rimage : (0 : Int) < imagen := by omega
    obtain ⟨HK0, HB0⟩ := new1 w [.int .i64 4, .int .i64 txn, .int .i64 prev, .int .i64 0, .int .i64 0, .bool beforeu, .slice beforea beforen beforec, .bool afteru, .slice aftera aftern afterc, .int .i64 0, .int .i64 0, .slice txnsa 0 txnsc, .slice dirtya 0 dirtyc, .slice imagea imagen imagec] 35
    go_enter Tryz.func37, Tryz.ntmps37
    go_wp2_with fail
    refine (hafter _ HK0.out).mono ?_
    rintro e w1 ⟨rfl, hk⟩
    have HK1 := hid (HK0.out.trans hk)
    have HB1 := hid (HB0.out.same hk)
    clear hk
    obtain ⟨d1_0, d1_1, d1_2, d1_3, d1_4, d1_5, d1_6, d1_7, d1_8, d1_9, d1_10, d1_11, d1_12, d1_13⟩ := HB1.out.all14
    go_wp2_with fail
    refine (hbefore _ HK1.out).mono ?_
    rintro e w2 ⟨rfl, hk⟩
    have HK2 := hid (HK1.out.trans hk)
    have HB2 := hid (HB1.out.same hk)
    clear hk
    obtain ⟨d2_0, d2_1, d2_2, d2_3, d2_4, d2_5, d2_6, d2_7, d2_8, d2_9, d2_10, d2_11, d2_12, d2_13⟩ := HB2.out.all14
    go_wp2
    go_ret
    exact ⟨by first | rfl | (simp; omega), HK2.out⟩
   subst qimage
   rw [decide_eq_true rfl]
   simp only [Bool.and_true, Bool.and_self, Bool.not_true]
   obtain ⟨HK0, HB0⟩ := new1 w [.int .i64 4, .int .i64 txn, .int .i64 prev, .int .i64 0, .int .i64 0, .bool beforeu, .slice beforea beforen beforec, .bool afteru, .slice aftera aftern afterc, .int .i64 0, .int .i64 0, .slice txnsa 0 txnsc, .slice dirtya 0 dirtyc, .slice imagea 0 imagec] 35
   go_enter Tryz.func37, Tryz.ntmps37
   go_wp2_with fail
   refine (hafter _ HK0.out).mono ?_
   rintro e w1 ⟨rfl, hk⟩
   have HK1 := hid (HK0.out.trans hk)
   have HB1 := hid (HB0.out.same hk)
   clear hk
   obtain ⟨d1_0, d1_1, d1_2, d1_3, d1_4, d1_5, d1_6, d1_7, d1_8, d1_9, d1_10, d1_11, d1_12, d1_13⟩ := HB1.out.all14
   go_wp2_with fail
   refine (hbefore _ HK1.out).mono ?_
   rintro e w2 ⟨rfl, hk⟩
   have HK2 := hid (HK1.out.trans hk)
   have HB2 := hid (HB1.out.same hk)
   clear hk
   obtain ⟨d2_0, d2_1, d2_2, d2_3, d2_4, d2_5, d2_6, d2_7, d2_8, d2_9, d2_10, d2_11, d2_12, d2_13⟩ := HB2.out.all14
   go_wp2
   go_ret
   exact ⟨rfl, HK2.out⟩
theorem extra_5 (txn : Int) (prev : Int) (page : Int) (slot : Int) (beforeu : Bool) (beforea : Option Addr) (beforen beforec : Nat) (afteru : Bool) (aftera : Option Addr) (aftern afterc : Nat) (uN : Int) (nT : Int) (txnsa : Option Addr) (txnsn txnsc : Nat) (dirtya : Option Addr) (dirtyn dirtyc : Nat) (imagea : Option Addr) (imagen imagec : Nat) (w : World) (eafter ebefore : Bool) (hafter : ∀ wx, Same w wx → Calls Tryz.prog 51 #[.agg #[.bool afteru, .slice aftera aftern afterc]] wx fun e w' => e = .returned (.bool eafter) ∧ Same wx w') (hbefore : ∀ wx, Same w wx → Calls Tryz.prog 51 #[.agg #[.bool beforeu, .slice beforea beforen beforec]] wx fun e w' => e = .returned (.bool ebefore) ∧ Same wx w') (hmtxns : txnsn ≤ maxLen) (hmdirty : dirtyn ≤ maxLen) (hmimage : imagen ≤ maxLen) :
  Calls Tryz.prog 37 #[.agg #[.int .i64 5, .int .i64 txn, .int .i64 prev, .int .i64 page, .int .i64 slot, .bool beforeu, .slice beforea beforen beforec, .bool afteru, .slice aftera aftern afterc, .int .i64 uN, .int .i64 nT, .slice txnsa txnsn txnsc, .slice dirtya dirtyn dirtyc, .slice imagea imagen imagec]] w fun e w' => e = .returned (.bool (!(decide (0 = slot) && eafter && decide (0 = page) && ebefore && decide (0 = uN) && decide (0 = nT) && decide (txnsn = 0) && decide (dirtyn = 0) && decide (imagen = 0)))) ∧ Same w w' := by
 unfold maxLen at hmtxns hmdirty hmimage
 by_cases qslot : 0 = slot
 case neg =>
  rw [decide_eq_false qslot]
  simp only [Bool.false_and, Bool.and_false, Bool.not_false]
  have rslot : ¬ slot = 0 := fun e => qslot e.symm
  obtain ⟨HK0, HB0⟩ := new1 w [.int .i64 5, .int .i64 txn, .int .i64 prev, .int .i64 page, .int .i64 slot, .bool beforeu, .slice beforea beforen beforec, .bool afteru, .slice aftera aftern afterc, .int .i64 uN, .int .i64 nT, .slice txnsa txnsn txnsc, .slice dirtya dirtyn dirtyc, .slice imagea imagen imagec] 35
  go_enter Tryz.func37, Tryz.ntmps37
  go_wp2
  go_ret
  exact ⟨rfl, HK0.out⟩
 subst qslot
 rw [decide_eq_true rfl]
 cases eafter with
 | false =>
  simp only [Bool.false_and, Bool.and_false, Bool.not_false]
  obtain ⟨HK0, HB0⟩ := new1 w [.int .i64 5, .int .i64 txn, .int .i64 prev, .int .i64 page, .int .i64 0, .bool beforeu, .slice beforea beforen beforec, .bool afteru, .slice aftera aftern afterc, .int .i64 uN, .int .i64 nT, .slice txnsa txnsn txnsc, .slice dirtya dirtyn dirtyc, .slice imagea imagen imagec] 35
  go_enter Tryz.func37, Tryz.ntmps37
  go_wp2_with fail
  refine (hafter _ HK0.out).mono ?_
  rintro e w1 ⟨rfl, hk⟩
  have HK1 := hid (HK0.out.trans hk)
  have HB1 := hid (HB0.out.same hk)
  clear hk
  obtain ⟨d1_0, d1_1, d1_2, d1_3, d1_4, d1_5, d1_6, d1_7, d1_8, d1_9, d1_10, d1_11, d1_12, d1_13⟩ := HB1.out.all14
  go_wp2
  go_ret
  exact ⟨rfl, HK1.out⟩
 | true =>
  by_cases qpage : 0 = page
  case neg =>
   rw [decide_eq_false qpage]
   simp only [Bool.false_and, Bool.and_false, Bool.not_false]
   have rpage : ¬ page = 0 := fun e => qpage e.symm
   obtain ⟨HK0, HB0⟩ := new1 w [.int .i64 5, .int .i64 txn, .int .i64 prev, .int .i64 page, .int .i64 0, .bool beforeu, .slice beforea beforen beforec, .bool afteru, .slice aftera aftern afterc, .int .i64 uN, .int .i64 nT, .slice txnsa txnsn txnsc, .slice dirtya dirtyn dirtyc, .slice imagea imagen imagec] 35
   go_enter Tryz.func37, Tryz.ntmps37
   go_wp2_with fail
   refine (hafter _ HK0.out).mono ?_
   rintro e w1 ⟨rfl, hk⟩
   have HK1 := hid (HK0.out.trans hk)
   have HB1 := hid (HB0.out.same hk)
   clear hk
   obtain ⟨d1_0, d1_1, d1_2, d1_3, d1_4, d1_5, d1_6, d1_7, d1_8, d1_9, d1_10, d1_11, d1_12, d1_13⟩ := HB1.out.all14
   go_wp2
   go_ret
   exact ⟨rfl, HK1.out⟩
  subst qpage
  rw [decide_eq_true rfl]
  cases ebefore with
  | false =>
   simp only [Bool.false_and, Bool.and_false, Bool.not_false]
   obtain ⟨HK0, HB0⟩ := new1 w [.int .i64 5, .int .i64 txn, .int .i64 prev, .int .i64 0, .int .i64 0, .bool beforeu, .slice beforea beforen beforec, .bool afteru, .slice aftera aftern afterc, .int .i64 uN, .int .i64 nT, .slice txnsa txnsn txnsc, .slice dirtya dirtyn dirtyc, .slice imagea imagen imagec] 35
   go_enter Tryz.func37, Tryz.ntmps37
   go_wp2_with fail
   refine (hafter _ HK0.out).mono ?_
   rintro e w1 ⟨rfl, hk⟩
   have HK1 := hid (HK0.out.trans hk)
   have HB1 := hid (HB0.out.same hk)
   clear hk
   obtain ⟨d1_0, d1_1, d1_2, d1_3, d1_4, d1_5, d1_6, d1_7, d1_8, d1_9, d1_10, d1_11, d1_12, d1_13⟩ := HB1.out.all14
   go_wp2_with fail
   refine (hbefore _ HK1.out).mono ?_
   rintro e w2 ⟨rfl, hk⟩
   have HK2 := hid (HK1.out.trans hk)
   have HB2 := hid (HB1.out.same hk)
   clear hk
   obtain ⟨d2_0, d2_1, d2_2, d2_3, d2_4, d2_5, d2_6, d2_7, d2_8, d2_9, d2_10, d2_11, d2_12, d2_13⟩ := HB2.out.all14
   go_wp2
   go_ret
   exact ⟨rfl, HK2.out⟩
  | true =>
   by_cases quN : 0 = uN
   case neg =>
    rw [decide_eq_false quN]
    simp only [Bool.false_and, Bool.and_false, Bool.not_false]
    have ruN : ¬ uN = 0 := fun e => quN e.symm
    obtain ⟨HK0, HB0⟩ := new1 w [.int .i64 5, .int .i64 txn, .int .i64 prev, .int .i64 0, .int .i64 0, .bool beforeu, .slice beforea beforen beforec, .bool afteru, .slice aftera aftern afterc, .int .i64 uN, .int .i64 nT, .slice txnsa txnsn txnsc, .slice dirtya dirtyn dirtyc, .slice imagea imagen imagec] 35
    go_enter Tryz.func37, Tryz.ntmps37
    go_wp2_with fail
    refine (hafter _ HK0.out).mono ?_
    rintro e w1 ⟨rfl, hk⟩
    have HK1 := hid (HK0.out.trans hk)
    have HB1 := hid (HB0.out.same hk)
    clear hk
    obtain ⟨d1_0, d1_1, d1_2, d1_3, d1_4, d1_5, d1_6, d1_7, d1_8, d1_9, d1_10, d1_11, d1_12, d1_13⟩ := HB1.out.all14
    go_wp2_with fail
    refine (hbefore _ HK1.out).mono ?_
    rintro e w2 ⟨rfl, hk⟩
    have HK2 := hid (HK1.out.trans hk)
    have HB2 := hid (HB1.out.same hk)
    clear hk
    obtain ⟨d2_0, d2_1, d2_2, d2_3, d2_4, d2_5, d2_6, d2_7, d2_8, d2_9, d2_10, d2_11, d2_12, d2_13⟩ := HB2.out.all14
    go_wp2
    go_ret
    exact ⟨rfl, HK2.out⟩
   subst quN
   rw [decide_eq_true rfl]
   by_cases qnT : 0 = nT
   case neg =>
    rw [decide_eq_false qnT]
    simp only [Bool.false_and, Bool.and_false, Bool.not_false]
    have rnT : ¬ nT = 0 := fun e => qnT e.symm
    obtain ⟨HK0, HB0⟩ := new1 w [.int .i64 5, .int .i64 txn, .int .i64 prev, .int .i64 0, .int .i64 0, .bool beforeu, .slice beforea beforen beforec, .bool afteru, .slice aftera aftern afterc, .int .i64 0, .int .i64 nT, .slice txnsa txnsn txnsc, .slice dirtya dirtyn dirtyc, .slice imagea imagen imagec] 35
    go_enter Tryz.func37, Tryz.ntmps37
    go_wp2_with fail
    refine (hafter _ HK0.out).mono ?_
    rintro e w1 ⟨rfl, hk⟩
    have HK1 := hid (HK0.out.trans hk)
    have HB1 := hid (HB0.out.same hk)
    clear hk
    obtain ⟨d1_0, d1_1, d1_2, d1_3, d1_4, d1_5, d1_6, d1_7, d1_8, d1_9, d1_10, d1_11, d1_12, d1_13⟩ := HB1.out.all14
    go_wp2_with fail
    refine (hbefore _ HK1.out).mono ?_
    rintro e w2 ⟨rfl, hk⟩
    have HK2 := hid (HK1.out.trans hk)
    have HB2 := hid (HB1.out.same hk)
    clear hk
    obtain ⟨d2_0, d2_1, d2_2, d2_3, d2_4, d2_5, d2_6, d2_7, d2_8, d2_9, d2_10, d2_11, d2_12, d2_13⟩ := HB2.out.all14
    go_wp2
    go_ret
    exact ⟨rfl, HK2.out⟩
   subst qnT
   rw [decide_eq_true rfl]
   by_cases qtxns : txnsn = 0
   case neg =>
    rw [decide_eq_false qtxns]
    simp only [Bool.false_and, Bool.and_false, Bool.not_false]
    have rtxns : (0 : Int) < txnsn := by omega
    obtain ⟨HK0, HB0⟩ := new1 w [.int .i64 5, .int .i64 txn, .int .i64 prev, .int .i64 0, .int .i64 0, .bool beforeu, .slice beforea beforen beforec, .bool afteru, .slice aftera aftern afterc, .int .i64 0, .int .i64 0, .slice txnsa txnsn txnsc, .slice dirtya dirtyn dirtyc, .slice imagea imagen imagec] 35
    go_enter Tryz.func37, Tryz.ntmps37
    go_wp2_with fail
    refine (hafter _ HK0.out).mono ?_
    rintro e w1 ⟨rfl, hk⟩
    have HK1 := hid (HK0.out.trans hk)
    have HB1 := hid (HB0.out.same hk)
    clear hk
    obtain ⟨d1_0, d1_1, d1_2, d1_3, d1_4, d1_5, d1_6, d1_7, d1_8, d1_9, d1_10, d1_11, d1_12, d1_13⟩ := HB1.out.all14
    go_wp2_with fail
    refine (hbefore _ HK1.out).mono ?_
    rintro e w2 ⟨rfl, hk⟩
    have HK2 := hid (HK1.out.trans hk)
    have HB2 := hid (HB1.out.same hk)
    clear hk
    obtain ⟨d2_0, d2_1, d2_2, d2_3, d2_4, d2_5, d2_6, d2_7, d2_8, d2_9, d2_10, d2_11, d2_12, d2_13⟩ := HB2.out.all14
    go_wp2
    go_ret
    exact ⟨by first | rfl | (simp; omega), HK2.out⟩
   subst qtxns
   rw [decide_eq_true rfl]
   by_cases qdirty : dirtyn = 0
   case neg =>
    rw [decide_eq_false qdirty]
    simp only [Bool.false_and, Bool.and_false, Bool.not_false]
    have rdirty : (0 : Int) < dirtyn := by omega
    obtain ⟨HK0, HB0⟩ := new1 w [.int .i64 5, .int .i64 txn, .int .i64 prev, .int .i64 0, .int .i64 0, .bool beforeu, .slice beforea beforen beforec, .bool afteru, .slice aftera aftern afterc, .int .i64 0, .int .i64 0, .slice txnsa 0 txnsc, .slice dirtya dirtyn dirtyc, .slice imagea imagen imagec] 35
    go_enter Tryz.func37, Tryz.ntmps37
    go_wp2_with fail
    refine (hafter _ HK0.out).mono ?_
    rintro e w1 ⟨rfl, hk⟩
    have HK1 := hid (HK0.out.trans hk)
    have HB1 := hid (HB0.out.same hk)
    clear hk
    obtain ⟨d1_0, d1_1, d1_2, d1_3, d1_4, d1_5, d1_6, d1_7, d1_8, d1_9, d1_10, d1_11, d1_12, d1_13⟩ := HB1.out.all14
    go_wp2_with fail
    refine (hbefore _ HK1.out).mono ?_
    rintro e w2 ⟨rfl, hk⟩
    have HK2 := hid (HK1.out.trans hk)
    have HB2 := hid (HB1.out.same hk)
    clear hk
    obtain ⟨d2_0, d2_1, d2_2, d2_3, d2_4, d2_5, d2_6, d2_7, d2_8, d2_9, d2_10, d2_11, d2_12, d2_13⟩ := HB2.out.all14
    go_wp2
    go_ret
    exact ⟨by first | rfl | (simp; omega), HK2.out⟩
   subst qdirty
   rw [decide_eq_true rfl]
   by_cases qimage : imagen = 0
   case neg =>
    rw [decide_eq_false qimage]
    simp only [Bool.false_and, Bool.and_false, Bool.not_false]
    have rimage : (0 : Int) < imagen := by omega
    obtain ⟨HK0, HB0⟩ := new1 w [.int .i64 5, .int .i64 txn, .int .i64 prev, .int .i64 0, .int .i64 0, .bool beforeu, .slice beforea beforen beforec, .bool afteru, .slice aftera aftern afterc, .int .i64 0, .int .i64 0, .slice txnsa 0 txnsc, .slice dirtya 0 dirtyc, .slice imagea imagen imagec] 35
    go_enter Tryz.func37, Tryz.ntmps37
    go_wp2_with fail
    refine (hafter _ HK0.out).mono ?_
    rintro e w1 ⟨rfl, hk⟩
    have HK1 := hid (HK0.out.trans hk)
    have HB1 := hid (HB0.out.same hk)
    clear hk
    obtain ⟨d1_0, d1_1, d1_2, d1_3, d1_4, d1_5, d1_6, d1_7, d1_8, d1_9, d1_10, d1_11, d1_12, d1_13⟩ := HB1.out.all14
    go_wp2_with fail
    refine (hbefore _ HK1.out).mono ?_
    rintro e w2 ⟨rfl, hk⟩
    have HK2 := hid (HK1.out.trans hk)
    have HB2 := hid (HB1.out.same hk)
    clear hk
    obtain ⟨d2_0, d2_1, d2_2, d2_3, d2_4, d2_5, d2_6, d2_7, d2_8, d2_9, d2_10, d2_11, d2_12, d2_13⟩ := HB2.out.all14
    go_wp2
    go_ret
    exact ⟨by first | rfl | (simp; omega), HK2.out⟩
   subst qimage
   rw [decide_eq_true rfl]
   simp only [Bool.and_true, Bool.and_self, Bool.not_true]
   obtain ⟨HK0, HB0⟩ := new1 w [.int .i64 5, .int .i64 txn, .int .i64 prev, .int .i64 0, .int .i64 0, .bool beforeu, .slice beforea beforen beforec, .bool afteru, .slice aftera aftern afterc, .int .i64 0, .int .i64 0, .slice txnsa 0 txnsc, .slice dirtya 0 dirtyc, .slice imagea 0 imagec] 35
   go_enter Tryz.func37, Tryz.ntmps37
   go_wp2_with fail
   refine (hafter _ HK0.out).mono ?_
   rintro e w1 ⟨rfl, hk⟩
   have HK1 := hid (HK0.out.trans hk)
   have HB1 := hid (HB0.out.same hk)
   clear hk
   obtain ⟨d1_0, d1_1, d1_2, d1_3, d1_4, d1_5, d1_6, d1_7, d1_8, d1_9, d1_10, d1_11, d1_12, d1_13⟩ := HB1.out.all14
   go_wp2_with fail
   refine (hbefore _ HK1.out).mono ?_
   rintro e w2 ⟨rfl, hk⟩
   have HK2 := hid (HK1.out.trans hk)
   have HB2 := hid (HB1.out.same hk)
   clear hk
   obtain ⟨d2_0, d2_1, d2_2, d2_3, d2_4, d2_5, d2_6, d2_7, d2_8, d2_9, d2_10, d2_11, d2_12, d2_13⟩ := HB2.out.all14
   go_wp2
   go_ret
   exact ⟨rfl, HK2.out⟩
end Go.Proofs.YtdgmecmkkddpeaaGreat
