import Derived.Test.YtcldagphkpkdpaaG09
import Derived.Laws.BytesArg
namespace Go.Proofs.Ytcldagphkpkdpaa
set_option maxRecDepth 100000
set_option maxHeartbeats 16000000
set_option linter.unusedVariables false
set_option linter.unusedSimpArgs false
open Go.RowKit
theorem extra_8 (txn : Int) (prev : Int) (page : Int) (slot : Int) (beforeu : Bool) (beforea : Option Addr) (beforen beforec : Nat) (afteru : Bool) (aftera : Option Addr) (aftern afterc : Nat) (uN : Int) (nT : Int) (txnsa : Option Addr) (txnsn txnsc : Nat) (dirtya : Option Addr) (dirtyn dirtyc : Nat) (imagea : Option Addr) (imagen imagec : Nat) (w : World) (eafter ebefore : Bool) (hafter : ∀ wx, Same w wx → Calls Try.prog 82 #[.agg #[.bool afteru, .slice aftera aftern afterc]] wx fun e w' => e = .returned (.bool eafter) ∧ Same wx w') (hbefore : ∀ wx, Same w wx → Calls Try.prog 82 #[.agg #[.bool beforeu, .slice beforea beforen beforec]] wx fun e w' => e = .returned (.bool ebefore) ∧ Same wx w') (hmtxns : txnsn ≤ maxLen) (hmdirty : dirtyn ≤ maxLen) :
  Calls Try.prog 75 #[.agg #[.int .i64 8, .int .i64 txn, .int .i64 prev, .int .i64 page, .int .i64 slot, .bool beforeu, .slice beforea beforen beforec, .bool afteru, .slice aftera aftern afterc, .int .i64 uN, .int .i64 nT, .slice txnsa txnsn txnsc, .slice dirtya dirtyn dirtyc, .slice imagea imagen imagec]] w fun e w' => e = .returned (.bool (!(decide (0 = txn) && decide (0 = prev) && decide (0 = slot) && eafter && ebefore && decide (0 = uN) && decide (0 = nT) && decide (txnsn = 0) && decide (dirtyn = 0)))) ∧ Same w w' := by
 unfold maxLen at hmtxns hmdirty
 by_cases qtxn : 0 = txn
 case neg =>
  rw [decide_eq_false qtxn]
  simp only [Bool.false_and, Bool.and_false, Bool.not_false]
  have rtxn : ¬ txn = 0 := fun e => qtxn e.symm
  obtain ⟨HK0, HB0⟩ := new1 w [.int .i64 8, .int .i64 txn, .int .i64 prev, .int .i64 page, .int .i64 slot, .bool beforeu, .slice beforea beforen beforec, .bool afteru, .slice aftera aftern afterc, .int .i64 uN, .int .i64 nT, .slice txnsa txnsn txnsc, .slice dirtya dirtyn dirtyc, .slice imagea imagen imagec] 48
  go_enter Try.func75, Try.ntmps75
  go_wp2
  go_ret
  exact ⟨rfl, HK0.out⟩
 subst qtxn
 rw [decide_eq_true rfl]
 by_cases qprev : 0 = prev
 case neg =>
  rw [decide_eq_false qprev]
  simp only [Bool.false_and, Bool.and_false, Bool.not_false]
  have rprev : ¬ prev = 0 := fun e => qprev e.symm
  obtain ⟨HK0, HB0⟩ := new1 w [.int .i64 8, .int .i64 0, .int .i64 prev, .int .i64 page, .int .i64 slot, .bool beforeu, .slice beforea beforen beforec, .bool afteru, .slice aftera aftern afterc, .int .i64 uN, .int .i64 nT, .slice txnsa txnsn txnsc, .slice dirtya dirtyn dirtyc, .slice imagea imagen imagec] 48
  go_enter Try.func75, Try.ntmps75
  go_wp2
  go_ret
  exact ⟨rfl, HK0.out⟩
 subst qprev
 rw [decide_eq_true rfl]
 by_cases qslot : 0 = slot
 case neg =>
  rw [decide_eq_false qslot]
  simp only [Bool.false_and, Bool.and_false, Bool.not_false]
  have rslot : ¬ slot = 0 := fun e => qslot e.symm
  obtain ⟨HK0, HB0⟩ := new1 w [.int .i64 8, .int .i64 0, .int .i64 0, .int .i64 page, .int .i64 slot, .bool beforeu, .slice beforea beforen beforec, .bool afteru, .slice aftera aftern afterc, .int .i64 uN, .int .i64 nT, .slice txnsa txnsn txnsc, .slice dirtya dirtyn dirtyc, .slice imagea imagen imagec] 48
  go_enter Try.func75, Try.ntmps75
  go_wp2
  go_ret
  exact ⟨rfl, HK0.out⟩
 subst qslot
 rw [decide_eq_true rfl]
 cases eafter with
 | false =>
  simp only [Bool.false_and, Bool.and_false, Bool.not_false]
  obtain ⟨HK0, HB0⟩ := new1 w [.int .i64 8, .int .i64 0, .int .i64 0, .int .i64 page, .int .i64 0, .bool beforeu, .slice beforea beforen beforec, .bool afteru, .slice aftera aftern afterc, .int .i64 uN, .int .i64 nT, .slice txnsa txnsn txnsc, .slice dirtya dirtyn dirtyc, .slice imagea imagen imagec] 48
  go_enter Try.func75, Try.ntmps75
  go_wp2_with fail
  refine (hafter _ HK0.out).mono ?_
  rintro e w1 ⟨rfl, hk⟩
  have HK1 := hid (HK0.out.trans hk)
  have HB1 := hid (HB0.out.same hk)
  clear hk
  obtain ⟨d1_0, d1_1, d1_2, d1_3, d1_4, d1_5, d1_6, d1_7, d1_8, d1_9, d1_10, d1_11, d1_12, d1_13⟩ := HB1.out.all14
  go_wp2
  go_ret
  exact ⟨rfl, HK1.out⟩
 | true =>
  cases ebefore with
  | false =>
   simp only [Bool.false_and, Bool.and_false, Bool.not_false]
   obtain ⟨HK0, HB0⟩ := new1 w [.int .i64 8, .int .i64 0, .int .i64 0, .int .i64 page, .int .i64 0, .bool beforeu, .slice beforea beforen beforec, .bool afteru, .slice aftera aftern afterc, .int .i64 uN, .int .i64 nT, .slice txnsa txnsn txnsc, .slice dirtya dirtyn dirtyc, .slice imagea imagen imagec] 48
   go_enter Try.func75, Try.ntmps75
   go_wp2_with fail
   refine (hafter _ HK0.out).mono ?_
   rintro e w1 ⟨rfl, hk⟩
   have HK1 := hid (HK0.out.trans hk)
   have HB1 := hid (HB0.out.same hk)
   clear hk
   obtain ⟨d1_0, d1_1, d1_2, d1_3, d1_4, d1_5, d1_6, d1_7, d1_8, d1_9, d1_10, d1_11, d1_12, d1_13⟩ := HB1.out.all14
   go_wp2_with fail
   refine (hbefore _ HK1.out).mono ?_
   rintro e w2 ⟨rfl, hk⟩
   have HK2 := hid (HK1.out.trans hk)
   have HB2 := hid (HB1.out.same hk)
   clear hk
   obtain ⟨d2_0, d2_1, d2_2, d2_3, d2_4, d2_5, d2_6, d2_7, d2_8, d2_9, d2_10, d2_11, d2_12, d2_13⟩ := HB2.out.all14
   go_wp2
   go_ret
   exact ⟨rfl, HK2.out⟩
  | true =>
   by_cases quN : 0 = uN
   case neg =>
    rw [decide_eq_false quN]
    simp only [Bool.false_and, Bool.and_false, Bool.not_false]
    have ruN : ¬ uN = 0 := fun e => quN e.symm
    obtain ⟨HK0, HB0⟩ := new1 w [.int .i64 8, .int .i64 0, .int .i64 0, .int .i64 page, .int .i64 0, .bool beforeu, .slice beforea beforen beforec, .bool afteru, .slice aftera aftern afterc, .int .i64 uN, .int .i64 nT, .slice txnsa txnsn txnsc, .slice dirtya dirtyn dirtyc, .slice imagea imagen imagec] 48
    go_enter Try.func75, Try.ntmps75
    go_wp2_with fail
    refine (hafter _ HK0.out).mono ?_
    rintro e w1 ⟨rfl, hk⟩
    have HK1 := hid (HK0.out.trans hk)
    have HB1 := hid (HB0.out.same hk)
    clear hk
    obtain ⟨d1_0, d1_1, d1_2, d1_3, d1_4, d1_5, d1_6, d1_7, d1_8, d1_9, d1_10, d1_11, d1_12, d1_13⟩ := HB1.out.all14
    go_wp2_with fail
    refine (hbefore _ HK1.out).mono ?_
    rintro e w2 ⟨rfl, hk⟩
    have HK2 := hid (HK1.out.trans hk)
    have HB2 := hid (HB1.out.same hk)
    clear hk
    obtain ⟨d2_0, d2_1, d2_2, d2_3, d2_4, d2_5, d2_6, d2_7, d2_8, d2_9, d2_10, d2_11, d2_12, d2_13⟩ := HB2.out.all14
    go_wp2
    go_ret
    exact ⟨rfl, HK2.out⟩
   subst quN
   rw [decide_eq_true rfl]
   by_cases qnT : 0 = nT
   case neg =>
    rw [decide_eq_false qnT]
    simp only [Bool.false_and, Bool.and_false, Bool.not_false]
    have rnT : ¬ nT = 0 := fun e => qnT e.symm
    obtain ⟨HK0, HB0⟩ := new1 w [.int .i64 8, .int .i64 0, .int .i64 0, .int .i64 page, .int .i64 0, .bool beforeu, .slice beforea beforen beforec, .bool afteru, .slice aftera aftern afterc, .int .i64 0, .int .i64 nT, .slice txnsa txnsn txnsc, .slice dirtya dirtyn dirtyc, .slice imagea imagen imagec] 48
    go_enter Try.func75, Try.ntmps75
    go_wp2_with fail
    refine (hafter _ HK0.out).mono ?_
    rintro e w1 ⟨rfl, hk⟩
    have HK1 := hid (HK0.out.trans hk)
    have HB1 := hid (HB0.out.same hk)
    clear hk
    obtain ⟨d1_0, d1_1, d1_2, d1_3, d1_4, d1_5, d1_6, d1_7, d1_8, d1_9, d1_10, d1_11, d1_12, d1_13⟩ := HB1.out.all14
    go_wp2_with fail
    refine (hbefore _ HK1.out).mono ?_
    rintro e w2 ⟨rfl, hk⟩
    have HK2 := hid (HK1.out.trans hk)
    have HB2 := hid (HB1.out.same hk)
    clear hk
    obtain ⟨d2_0, d2_1, d2_2, d2_3, d2_4, d2_5, d2_6, d2_7, d2_8, d2_9, d2_10, d2_11, d2_12, d2_13⟩ := HB2.out.all14
    go_wp2
    go_ret
    exact ⟨rfl, HK2.out⟩
   subst qnT
   rw [decide_eq_true rfl]
   by_cases qtxns : txnsn = 0
   case neg =>
    rw [decide_eq_false qtxns]
    simp only [Bool.false_and, Bool.and_false, Bool.not_false]
    have rtxns : (0 : Int) < txnsn := by omega
    obtain ⟨HK0, HB0⟩ := new1 w [.int .i64 8, .int .i64 0, .int .i64 0, .int .i64 page, .int .i64 0, .bool beforeu, .slice beforea beforen beforec, .bool afteru, .slice aftera aftern afterc, .int .i64 0, .int .i64 0, .slice txnsa txnsn txnsc, .slice dirtya dirtyn dirtyc, .slice imagea imagen imagec] 48
    go_enter Try.func75, Try.ntmps75
    go_wp2_with fail
    refine (hafter _ HK0.out).mono ?_
    rintro e w1 ⟨rfl, hk⟩
    have HK1 := hid (HK0.out.trans hk)
    have HB1 := hid (HB0.out.same hk)
    clear hk
    obtain ⟨d1_0, d1_1, d1_2, d1_3, d1_4, d1_5, d1_6, d1_7, d1_8, d1_9, d1_10, d1_11, d1_12, d1_13⟩ := HB1.out.all14
    go_wp2_with fail
    refine (hbefore _ HK1.out).mono ?_
    rintro e w2 ⟨rfl, hk⟩
    have HK2 := hid (HK1.out.trans hk)
    have HB2 := hid (HB1.out.same hk)
    clear hk
    obtain ⟨d2_0, d2_1, d2_2, d2_3, d2_4, d2_5, d2_6, d2_7, d2_8, d2_9, d2_10, d2_11, d2_12, d2_13⟩ := HB2.out.all14
    go_wp2
    go_ret
    exact ⟨by first | rfl | (simp; omega), HK2.out⟩
   subst qtxns
   rw [decide_eq_true rfl]
   by_cases qdirty : dirtyn = 0
   case neg =>
    rw [decide_eq_false qdirty]
    simp only [Bool.false_and, Bool.and_false, Bool.not_false]
    have rdirty : (0 : Int) < dirtyn := by omega
    obtain ⟨HK0, HB0⟩ := new1 w [.int .i64 8, .int .i64 0, .int .i64 0, .int .i64 page, .int .i64 0, .bool beforeu, .slice beforea beforen beforec, .bool afteru, .slice aftera aftern afterc, .int .i64 0, .int .i64 0, .slice txnsa 0 txnsc, .slice dirtya dirtyn dirtyc, .slice imagea imagen imagec] 48
    go_enter Try.func75, Try.ntmps75
    go_wp2_with fail
    refine (hafter _ HK0.out).mono ?_
    rintro e w1 ⟨rfl, hk⟩
    have HK1 := hid (HK0.out.trans hk)
    have HB1 := hid (HB0.out.same hk)
    clear hk
    obtain ⟨d1_0, d1_1, d1_2, d1_3, d1_4, d1_5, d1_6, d1_7, d1_8, d1_9, d1_10, d1_11, d1_12, d1_13⟩ := HB1.out.all14
    go_wp2_with fail
    refine (hbefore _ HK1.out).mono ?_
    rintro e w2 ⟨rfl, hk⟩
    have HK2 := hid (HK1.out.trans hk)
    have HB2 := hid (HB1.out.same hk)
    clear hk
    obtain ⟨d2_0, d2_1, d2_2, d2_3, d2_4, d2_5, d2_6, d2_7, d2_8, d2_9, d2_10, d2_11, d2_12, d2_13⟩ := HB2.out.all14
    go_wp2
    go_ret
    exact ⟨by first | rfl | (simp; omega), HK2.out⟩
   subst qdirty
   rw [decide_eq_true rfl]
   simp only [Bool.and_true, Bool.and_self, Bool.not_true]
   obtain ⟨HK0, HB0⟩ := new1 w [.int .i64 8, .int .i64 0, .int .i64 0, .int .i64 page, .int .i64 0, .bool beforeu, .slice beforea beforen beforec, .bool afteru, .slice aftera aftern afterc, .int .i64 0, .int .i64 0, .slice txnsa 0 txnsc, .slice dirtya 0 dirtyc, .slice imagea imagen imagec] 48
   go_enter Try.func75, Try.ntmps75
   go_wp2_with fail
   refine (hafter _ HK0.out).mono ?_
   rintro e w1 ⟨rfl, hk⟩
   have HK1 := hid (HK0.out.trans hk)
   have HB1 := hid (HB0.out.same hk)
   clear hk
   obtain ⟨d1_0, d1_1, d1_2, d1_3, d1_4, d1_5, d1_6, d1_7, d1_8, d1_9, d1_10, d1_11, d1_12, d1_13⟩ := HB1.out.all14
   go_wp2_with fail
   refine (hbefore _ HK1.out).mono ?_
   rintro e w2 ⟨rfl, hk⟩
   have HK2 := hid (HK1.out.trans hk)
   have HB2 := hid (HB1.out.same hk)
   clear hk
   obtain ⟨d2_0, d2_1, d2_2, d2_3, d2_4, d2_5, d2_6, d2_7, d2_8, d2_9, d2_10, d2_11, d2_12, d2_13⟩ := HB2.out.all14
   go_wp2
   go_ret
   exact ⟨rfl, HK2.out⟩
theorem conv_any {w : World} {v : Value} {bs : List Int} (h : Rd .u8 w v bs) : (convert 22 9 v).run Try.prog w = .ok (.string (strOfNums bs)) w := by
 rcases h.2 with ⟨rfl, a, c, rfl, _⟩ | ⟨b, off, c, rfl, _, hc⟩
 ·rw [run_convert_bytes_string w 22 9 5 _ 0 c (by kernel_rfl) (by kernel_rfl) (by kernel_rfl)]
  cases a <;> simp [Conv.bytesToString, loadCells]
  all_goals rfl
 ·exact run_convert_bytes_arg w 22 5 (by kernel_rfl) (by kernel_rfl) b off bs.length c bs rfl hc 9 (by kernel_rfl)
def isTxnB (x : Int) : Bool := decide (1 ≤ x) && decide (x ≤ 2147483647)
def isSlotB (x : Int) : Bool := decide (0 ≤ x) && decide (x < 32)
def fitsB (u : Bool) (n : Nat) : Bool := decide (n ≤ 1000) && (u || decide (n = 0))
def headF (txn prev : Int) : Int := if isTxnB txn = false then 3 else if isLSN prev = false then 4 else 0
def placeF (page slot : Int) : Int := if (isPageB page && isSlotB slot) = true then 0 else 5
def orF (a b c : Int) : Int := if a ≠ 0 then a else if b ≠ 0 then b else c
def updF (bu au : Bool) (bn an : Nat) : Int := if (fitsB bu bn && fitsB au an && (bu || au)) = true then 0 else 6
def undF (au : Bool) (an : Nat) (un : Int) : Int := if fitsB au an = false then 6 else if isLSN un = false then 7 else 0
def emptyB (u : Bool) (n : Nat) : Bool := !u && decide (n = 0)
set_option maxRecDepth 100000 in
theorem l4Empty_any (u : Bool) (a : Option Addr) (n c : Nat) (w : World) (hn : n ≤ maxLen) : Calls Try.prog 82 #[.agg #[.bool u, .slice a n c]] w fun e w' => e = .returned (.bool (emptyB u n)) ∧ Same w w' := by
 unfold maxLen at hn
 unfold emptyB
 cases u with
 | true =>
  go_enter Try.func82, Try.ntmps82
  go_wp2
  go_ret
  exact ⟨by simp, (Kept.refl _ _).alloc _⟩
 | false =>
  by_cases h0 : n = 0
  ·subst h0
   go_enter Try.func82, Try.ntmps82
   go_wp2
   go_ret
   exact ⟨by simp, (Kept.refl _ _).alloc _⟩
  ·have h0' : ¬ (n : Int) = 0 := by omega
   go_enter Try.func82, Try.ntmps82
   go_wp2
   go_ret
   exact ⟨by simp [h0], (Kept.refl _ _).alloc _⟩
set_option maxRecDepth 100000 in
theorem l4Slot_any (u : Bool) (a : Option Addr) (n c : Nat) (w : World) (hn : n ≤ maxLen) : Calls Try.prog 76 #[.agg #[.bool u, .slice a n c]] w fun e w' => e = .returned (.bool (fitsB u n)) ∧ Same w w' := by
 unfold maxLen at hn
 unfold fitsB
 by_cases h : (n : Int) ≤ 1000
 ·have h1 : n ≤ 1000 := by omega
  cases u with
  | true =>
   go_enter Try.func76, Try.ntmps76
   go_wp2
   go_ret
   exact ⟨by simp [h1], (Kept.refl _ _).alloc _⟩
  | false =>
   by_cases h0 : n = 0
   ·subst h0
    go_enter Try.func76, Try.ntmps76
    go_wp2
    go_ret
    exact ⟨by simp, (Kept.refl _ _).alloc _⟩
   ·have h0' : ¬ (n : Int) = 0 := by omega
    go_enter Try.func76, Try.ntmps76
    go_wp2
    go_ret
    exact ⟨by simp [h0, h1], (Kept.refl _ _).alloc _⟩
 ·have h1 : ¬ n ≤ 1000 := by omega
  go_enter Try.func76, Try.ntmps76
  go_wp2
  go_ret
  exact ⟨by simp [h1], (Kept.refl _ _).alloc _⟩
def aheadTxns (bs : List Int) : Nat → Int
 | 0 => 0
 | k + 1 => bs.getD (k * 4) 0
def oneTxns (A t0 t1 t2 t3 : Int) : Bool := decide (A < t0) && isTxnB t0 && (decide (1 ≤ t1) && decide (t1 ≤ 3)) && (decide (1 ≤ t2) && decide (t2 ≤ 1099511627776)) && (decide (0 ≤ t3) && decide (t3 ≤ t2))
def atTxns (bs : List Int) (k : Nat) : Bool := oneTxns (aheadTxns bs k) (bs.getD (k * 4) 0) (bs.getD (k * 4 + 1) 0) (bs.getD (k * 4 + 2) 0) (bs.getD (k * 4 + 3) 0)
def allTxns (bs : List Int) (n : Nat) : Bool := decide (n ≤ 8) && (List.range n).all (atTxns bs)
theorem allTxns_no (bs : List Int) (n k : Nat) (hk : k < n) (h : atTxns bs k = false) : allTxns bs n = false := by
 unfold allTxns
 have : (List.range n).all (atTxns bs) = false := by
  rw [List.all_eq_false]
  exact ⟨k, List.mem_range.2 hk, by simp [h]⟩
 rw [this, Bool.and_false]
theorem allTxns_yes (bs : List Int) (n : Nat) (hn : n ≤ 8) (h : ∀ k < n, atTxns bs k = true) : allTxns bs n = true := by
 unfold allTxns
 rw [decide_eq_true hn, Bool.true_and, List.all_eq_true]
 exact fun k hk => h k (List.mem_range.1 hk)
def aheadDirty (bs : List Int) : Nat → Int
 | 0 => -1
 | k + 1 => bs.getD (k * 2) 0
def oneDirty (A t0 t1 : Int) : Bool := decide (A < t0) && isPageB t0 && (decide (1 ≤ t1) && decide (t1 ≤ 1099511627776))
def atDirty (bs : List Int) (k : Nat) : Bool := oneDirty (aheadDirty bs k) (bs.getD (k * 2) 0) (bs.getD (k * 2 + 1) 0)
def allDirty (bs : List Int) (n : Nat) : Bool := decide (n ≤ 16) && (List.range n).all (atDirty bs)
theorem allDirty_no (bs : List Int) (n k : Nat) (hk : k < n) (h : atDirty bs k = false) : allDirty bs n = false := by
 unfold allDirty
 have : (List.range n).all (atDirty bs) = false := by
  rw [List.all_eq_false]
  exact ⟨k, List.mem_range.2 hk, by simp [h]⟩
 rw [this, Bool.and_false]
theorem allDirty_yes (bs : List Int) (n : Nat) (hn : n ≤ 16) (h : ∀ k < n, atDirty bs k = true) : allDirty bs n = true := by
 unfold allDirty
 rw [decide_eq_true hn, Bool.true_and, List.all_eq_true]
 exact fun k hk => h k (List.mem_range.1 hk)
end Go.Proofs.Ytcldagphkpkdpaa
