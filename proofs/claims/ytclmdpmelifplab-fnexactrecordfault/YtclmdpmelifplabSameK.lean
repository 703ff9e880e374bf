/-
  A record and what is plain of its kind.
-/
import Derived.Test.YtclmdpmelifplabRecF
namespace Go.Proofs.Ytclmdpmelifplab
open Go.RowKit
set_option linter.unusedVariables false
set_option linter.unusedSimpArgs false
theorem rd_nil (w : World) : Rd .u8 w (.slice none 0 0) [] := ⟨Nat.zero_le _, .inl ⟨rfl, none, 0, rfl, fun _ => rfl⟩⟩
set_option maxRecDepth 100000 in
set_option maxHeartbeats 4000000 in
theorem same_1 (txn : Int) (prev : Int) (page : Int) (slot : Int) (before_used : Bool) (before_data_a : Option Addr) (before_data_c : Nat) (before_data_b : List Int) (after_used : Bool) (after_data_a : Option Addr) (after_data_c : Nat) (after_data_b : List Int) (undoNext : Int) (nextTxn : Int) (txns_e : TypeId) (txns_a : Option Addr) (txns_n txns_c : Nat) (txns_b : List Int) (dirty_e : TypeId) (dirty_a : Option Addr) (dirty_n dirty_c : Nat) (dirty_b : List Int) (image_a : Option Addr) (image_c : Nat) (image_b : List Int) (w : World) (hBb : IsB before_data_b) (hBa : IsB after_data_b) (hBi : IsB image_b) (hrb : Rd .u8 w (.slice before_data_a before_data_b.length before_data_c) before_data_b) (hra : Rd .u8 w (.slice after_data_a after_data_b.length after_data_c) after_data_b) (hri : Rd .u8 w (.slice image_a image_b.length image_c) image_b) (hrt : RdF 4 w ⟨txns_e, txns_a, txns_n, txns_c, txns_b⟩) (hrd : RdF 2 w ⟨dirty_e, dirty_a, dirty_n, dirty_c, dirty_b⟩) (hnt : txns_n ≤ 1125899906842624) (hnd : dirty_n ≤ 1125899906842624) :
    Calls Try.prog 37 #[.agg #[.int .i64 1, .int .i64 txn, .int .i64 prev, .int .i64 page, .int .i64 slot, .bool before_used, .slice before_data_a before_data_b.length before_data_c, .bool after_used, .slice after_data_a after_data_b.length after_data_c, .int .i64 0, .int .i64 0, .slice none 0 0, .slice none 0 0, .slice none 0 0], .agg #[.int .i64 1, .int .i64 txn, .int .i64 prev, .int .i64 page, .int .i64 slot, .bool before_used, .slice before_data_a before_data_b.length before_data_c, .bool after_used, .slice after_data_a after_data_b.length after_data_c, .int .i64 undoNext, .int .i64 nextTxn, .slice txns_a txns_n txns_c, .slice dirty_a dirty_n dirty_c, .slice image_a image_b.length image_c]] w fun e w' => e = .returned (.bool (alone1 txn prev page slot before_used before_data_b after_used after_data_b undoNext nextTxn txns_b dirty_b image_b)) ∧ Same w w' := by
  have hlt := hrt.2.1
  have hld := hrd.2.1
  dsimp only at hlt hld
  have e1 : txns_b.length / 4 = txns_n := by omega
  have e2 : dirty_b.length / 2 = dirty_n := by omega
  have hmt := hrt.1
  have hmd := hrd.1
  dsimp only at hmt hmd
  have hbefore : ∀ wx, Same w wx → Calls Try.prog 56 #[.agg #[.bool before_used, .slice before_data_a before_data_b.length before_data_c], .agg #[.bool before_used, .slice before_data_a before_data_b.length before_data_c]] wx fun e w' => e = .returned (.bool true) ∧ Same wx w' := fun wx hk => by
    have h := sameSlots_any ⟨before_used, ⟨0, before_data_a, before_data_c, before_data_b⟩⟩ ⟨before_used, ⟨0, before_data_a, before_data_c, before_data_b⟩⟩ wx hBb hBb (hrb.same hk) (hrb.same hk)
    simpa [StPageRecord.val, BS.v] using h
  have hafter : ∀ wx, Same w wx → Calls Try.prog 56 #[.agg #[.bool after_used, .slice after_data_a after_data_b.length after_data_c], .agg #[.bool after_used, .slice after_data_a after_data_b.length after_data_c]] wx fun e w' => e = .returned (.bool true) ∧ Same wx w' := fun wx hk => by
    have h := sameSlots_any ⟨after_used, ⟨0, after_data_a, after_data_c, after_data_b⟩⟩ ⟨after_used, ⟨0, after_data_a, after_data_c, after_data_b⟩⟩ wx hBa hBa (hra.same hk) (hra.same hk)
    simpa [StPageRecord.val, BS.v] using h
  have htxns : ∀ wx, Same w wx → Calls Try.prog 57 #[.slice none 0 0, .slice txns_a txns_n txns_c] wx fun e w' => e = .returned (.bool (decide (txns_b.length / 4 = 0))) ∧ Same wx w' := fun wx hk => by rw [e1]; exact sameTxnEntry_nil txns_a txns_n txns_c wx hmt
  have hdirty : ∀ wx, Same w wx → Calls Try.prog 58 #[.slice none 0 0, .slice dirty_a dirty_n dirty_c] wx fun e w' => e = .returned (.bool (decide (dirty_b.length / 2 = 0))) ∧ Same wx w' := fun wx hk => by rw [e2]; exact sameDirtyEntry_nil dirty_a dirty_n dirty_c wx hmd
  have himage : ∀ wx, Same w wx → Calls Try.prog 59 #[.slice none 0 0, .slice image_a image_b.length image_c] wx fun e w' => e = .returned (.bool (decide ([] = image_b))) ∧ Same wx w' := fun wx hk => bytesEq_any _ _ [] image_b wx (fun x hx => by simp at hx) hBi ((rd_nil w).same hk) (hri.same hk)
  unfold alone1
  clear hrb hra hri hrt hrd hBb hBa hBi e1 e2 hlt hld hmt hmd hnt hnd
  generalize decide (txns_b.length / 4 = 0) = B_txns at *
  generalize decide (dirty_b.length / 2 = 0) = B_dirty at *
  generalize decide ([] = image_b) = B_image at *
  by_cases qundoNext : 0 = undoNext
  case neg =>
    rw [decide_eq_false qundoNext]
    simp only [Bool.false_and, Bool.and_false]
    exact sameRecords_7 _ _ _ _ _ _ _ _ _ _ _ _ _ _ _ _ _ _ _ _ _ _ _ _ _ _ _ _ _ _ _ _ _ _ _ _ _ _ _ _ _ _ _ _ _ _ _ _ w rfl rfl rfl rfl rfl qundoNext hbefore hafter
  rw [decide_eq_true qundoNext]
  by_cases qnextTxn : 0 = nextTxn
  case neg =>
    rw [decide_eq_false qnextTxn]
    simp only [Bool.false_and, Bool.and_false]
    exact sameRecords_8 _ _ _ _ _ _ _ _ _ _ _ _ _ _ _ _ _ _ _ _ _ _ _ _ _ _ _ _ _ _ _ _ _ _ _ _ _ _ _ _ _ _ _ _ _ _ _ _ w rfl rfl rfl rfl rfl qundoNext qnextTxn hbefore hafter
  rw [decide_eq_true qnextTxn]
  cases B_txns with
  | false =>
    simp only [Bool.false_and, Bool.and_false]
    exact sameRecords_9 _ _ _ _ _ _ _ _ _ _ _ _ _ _ _ _ _ _ _ _ _ _ _ _ _ _ _ _ _ _ _ _ _ _ _ _ _ _ _ _ _ _ _ _ _ _ _ _ w rfl rfl rfl rfl rfl qundoNext qnextTxn hbefore hafter htxns
  | true =>
  cases B_dirty with
  | false =>
    simp only [Bool.false_and, Bool.and_false]
    exact sameRecords_10 _ _ _ _ _ _ _ _ _ _ _ _ _ _ _ _ _ _ _ _ _ _ _ _ _ _ _ _ _ _ _ _ _ _ _ _ _ _ _ _ _ _ _ _ _ _ _ _ w rfl rfl rfl rfl rfl qundoNext qnextTxn hbefore hafter htxns hdirty
  | true =>
  cases B_image with
  | false =>
    simp only [Bool.false_and, Bool.and_false]
    exact sameRecords_11 _ _ _ _ _ _ _ _ _ _ _ _ _ _ _ _ _ _ _ _ _ _ _ _ _ _ _ _ _ _ _ _ _ _ _ _ _ _ _ _ _ _ _ _ _ _ _ _ w rfl rfl rfl rfl rfl qundoNext qnextTxn hbefore hafter htxns hdirty himage
  | true =>
  simp only [Bool.and_true, Bool.and_self]
  exact sameRecords_12 _ _ _ _ _ _ _ _ _ _ _ _ _ _ _ _ _ _ _ _ _ _ _ _ _ _ _ _ _ _ _ _ _ _ _ _ _ _ _ _ _ _ _ _ _ _ _ _ w rfl rfl rfl rfl rfl qundoNext qnextTxn hbefore hafter htxns hdirty himage
set_option maxRecDepth 100000 in
set_option maxHeartbeats 4000000 in
theorem same_2 (txn : Int) (prev : Int) (page : Int) (slot : Int) (before_used : Bool) (before_data_a : Option Addr) (before_data_c : Nat) (before_data_b : List Int) (after_used : Bool) (after_data_a : Option Addr) (after_data_c : Nat) (after_data_b : List Int) (undoNext : Int) (nextTxn : Int) (txns_e : TypeId) (txns_a : Option Addr) (txns_n txns_c : Nat) (txns_b : List Int) (dirty_e : TypeId) (dirty_a : Option Addr) (dirty_n dirty_c : Nat) (dirty_b : List Int) (image_a : Option Addr) (image_c : Nat) (image_b : List Int) (w : World) (hBb : IsB before_data_b) (hBa : IsB after_data_b) (hBi : IsB image_b) (hrb : Rd .u8 w (.slice before_data_a before_data_b.length before_data_c) before_data_b) (hra : Rd .u8 w (.slice after_data_a after_data_b.length after_data_c) after_data_b) (hri : Rd .u8 w (.slice image_a image_b.length image_c) image_b) (hrt : RdF 4 w ⟨txns_e, txns_a, txns_n, txns_c, txns_b⟩) (hrd : RdF 2 w ⟨dirty_e, dirty_a, dirty_n, dirty_c, dirty_b⟩) (hnt : txns_n ≤ 1125899906842624) (hnd : dirty_n ≤ 1125899906842624) :
    Calls Try.prog 37 #[.agg #[.int .i64 2, .int .i64 txn, .int .i64 prev, .int .i64 page, .int .i64 slot, .bool false, .slice none 0 0, .bool after_used, .slice after_data_a after_data_b.length after_data_c, .int .i64 undoNext, .int .i64 0, .slice none 0 0, .slice none 0 0, .slice none 0 0], .agg #[.int .i64 2, .int .i64 txn, .int .i64 prev, .int .i64 page, .int .i64 slot, .bool before_used, .slice before_data_a before_data_b.length before_data_c, .bool after_used, .slice after_data_a after_data_b.length after_data_c, .int .i64 undoNext, .int .i64 nextTxn, .slice txns_a txns_n txns_c, .slice dirty_a dirty_n dirty_c, .slice image_a image_b.length image_c]] w fun e w' => e = .returned (.bool (alone2 txn prev page slot before_used before_data_b after_used after_data_b undoNext nextTxn txns_b dirty_b image_b)) ∧ Same w w' := by
  have hlt := hrt.2.1
  have hld := hrd.2.1
  dsimp only at hlt hld
  have e1 : txns_b.length / 4 = txns_n := by omega
  have e2 : dirty_b.length / 2 = dirty_n := by omega
  have hmt := hrt.1
  have hmd := hrd.1
  dsimp only at hmt hmd
  have hbefore : ∀ wx, Same w wx → Calls Try.prog 56 #[.agg #[.bool false, .slice none 0 0], .agg #[.bool before_used, .slice before_data_a before_data_b.length before_data_c]] wx fun e w' => e = .returned (.bool (false == before_used && decide ([] = before_data_b))) ∧ Same wx w' := fun wx hk => sameSlots_any ⟨false, ⟨0, none, 0, []⟩⟩ ⟨before_used, ⟨0, before_data_a, before_data_c, before_data_b⟩⟩ wx (fun x hx => by simp at hx) hBb ((rd_nil w).same hk) (hrb.same hk)
  have hafter : ∀ wx, Same w wx → Calls Try.prog 56 #[.agg #[.bool after_used, .slice after_data_a after_data_b.length after_data_c], .agg #[.bool after_used, .slice after_data_a after_data_b.length after_data_c]] wx fun e w' => e = .returned (.bool true) ∧ Same wx w' := fun wx hk => by
    have h := sameSlots_any ⟨after_used, ⟨0, after_data_a, after_data_c, after_data_b⟩⟩ ⟨after_used, ⟨0, after_data_a, after_data_c, after_data_b⟩⟩ wx hBa hBa (hra.same hk) (hra.same hk)
    simpa [StPageRecord.val, BS.v] using h
  have htxns : ∀ wx, Same w wx → Calls Try.prog 57 #[.slice none 0 0, .slice txns_a txns_n txns_c] wx fun e w' => e = .returned (.bool (decide (txns_b.length / 4 = 0))) ∧ Same wx w' := fun wx hk => by rw [e1]; exact sameTxnEntry_nil txns_a txns_n txns_c wx hmt
  have hdirty : ∀ wx, Same w wx → Calls Try.prog 58 #[.slice none 0 0, .slice dirty_a dirty_n dirty_c] wx fun e w' => e = .returned (.bool (decide (dirty_b.length / 2 = 0))) ∧ Same wx w' := fun wx hk => by rw [e2]; exact sameDirtyEntry_nil dirty_a dirty_n dirty_c wx hmd
  have himage : ∀ wx, Same w wx → Calls Try.prog 59 #[.slice none 0 0, .slice image_a image_b.length image_c] wx fun e w' => e = .returned (.bool (decide ([] = image_b))) ∧ Same wx w' := fun wx hk => bytesEq_any _ _ [] image_b wx (fun x hx => by simp at hx) hBi ((rd_nil w).same hk) (hri.same hk)
  unfold alone2
  clear hrb hra hri hrt hrd hBb hBa hBi e1 e2 hlt hld hmt hmd hnt hnd
  generalize (false == before_used && decide ([] = before_data_b)) = B_before at *
  generalize decide (txns_b.length / 4 = 0) = B_txns at *
  generalize decide (dirty_b.length / 2 = 0) = B_dirty at *
  generalize decide ([] = image_b) = B_image at *
  cases B_before with
  | false =>
    simp only [Bool.false_and, Bool.and_false]
    exact sameRecords_5 _ _ _ _ _ _ _ _ _ _ _ _ _ _ _ _ _ _ _ _ _ _ _ _ _ _ _ _ _ _ _ _ _ _ _ _ _ _ _ _ _ _ _ _ _ _ _ _ w rfl rfl rfl rfl rfl hbefore
  | true =>
  by_cases qnextTxn : 0 = nextTxn
  case neg =>
    rw [decide_eq_false qnextTxn]
    simp only [Bool.false_and, Bool.and_false]
    exact sameRecords_8 _ _ _ _ _ _ _ _ _ _ _ _ _ _ _ _ _ _ _ _ _ _ _ _ _ _ _ _ _ _ _ _ _ _ _ _ _ _ _ _ _ _ _ _ _ _ _ _ w rfl rfl rfl rfl rfl rfl qnextTxn hbefore hafter
  rw [decide_eq_true qnextTxn]
  cases B_txns with
  | false =>
    simp only [Bool.false_and, Bool.and_false]
    exact sameRecords_9 _ _ _ _ _ _ _ _ _ _ _ _ _ _ _ _ _ _ _ _ _ _ _ _ _ _ _ _ _ _ _ _ _ _ _ _ _ _ _ _ _ _ _ _ _ _ _ _ w rfl rfl rfl rfl rfl rfl qnextTxn hbefore hafter htxns
  | true =>
  cases B_dirty with
  | false =>
    simp only [Bool.false_and, Bool.and_false]
    exact sameRecords_10 _ _ _ _ _ _ _ _ _ _ _ _ _ _ _ _ _ _ _ _ _ _ _ _ _ _ _ _ _ _ _ _ _ _ _ _ _ _ _ _ _ _ _ _ _ _ _ _ w rfl rfl rfl rfl rfl rfl qnextTxn hbefore hafter htxns hdirty
  | true =>
  cases B_image with
  | false =>
    simp only [Bool.false_and, Bool.and_false]
    exact sameRecords_11 _ _ _ _ _ _ _ _ _ _ _ _ _ _ _ _ _ _ _ _ _ _ _ _ _ _ _ _ _ _ _ _ _ _ _ _ _ _ _ _ _ _ _ _ _ _ _ _ w rfl rfl rfl rfl rfl rfl qnextTxn hbefore hafter htxns hdirty himage
  | true =>
  simp only [Bool.and_true, Bool.and_self]
  exact sameRecords_12 _ _ _ _ _ _ _ _ _ _ _ _ _ _ _ _ _ _ _ _ _ _ _ _ _ _ _ _ _ _ _ _ _ _ _ _ _ _ _ _ _ _ _ _ _ _ _ _ w rfl rfl rfl rfl rfl rfl qnextTxn hbefore hafter htxns hdirty himage
set_option maxRecDepth 100000 in
set_option maxHeartbeats 4000000 in
theorem same_3 (txn : Int) (prev : Int) (page : Int) (slot : Int) (before_used : Bool) (before_data_a : Option Addr) (before_data_c : Nat) (before_data_b : List Int) (after_used : Bool) (after_data_a : Option Addr) (after_data_c : Nat) (after_data_b : List Int) (undoNext : Int) (nextTxn : Int) (txns_e : TypeId) (txns_a : Option Addr) (txns_n txns_c : Nat) (txns_b : List Int) (dirty_e : TypeId) (dirty_a : Option Addr) (dirty_n dirty_c : Nat) (dirty_b : List Int) (image_a : Option Addr) (image_c : Nat) (image_b : List Int) (w : World) (hBb : IsB before_data_b) (hBa : IsB after_data_b) (hBi : IsB image_b) (hrb : Rd .u8 w (.slice before_data_a before_data_b.length before_data_c) before_data_b) (hra : Rd .u8 w (.slice after_data_a after_data_b.length after_data_c) after_data_b) (hri : Rd .u8 w (.slice image_a image_b.length image_c) image_b) (hrt : RdF 4 w ⟨txns_e, txns_a, txns_n, txns_c, txns_b⟩) (hrd : RdF 2 w ⟨dirty_e, dirty_a, dirty_n, dirty_c, dirty_b⟩) (hnt : txns_n ≤ 1125899906842624) (hnd : dirty_n ≤ 1125899906842624) :
    Calls Try.prog 37 #[.agg #[.int .i64 3, .int .i64 txn, .int .i64 prev, .int .i64 0, .int .i64 0, .bool false, .slice none 0 0, .bool false, .slice none 0 0, .int .i64 0, .int .i64 0, .slice none 0 0, .slice none 0 0, .slice none 0 0], .agg #[.int .i64 3, .int .i64 txn, .int .i64 prev, .int .i64 page, .int .i64 slot, .bool before_used, .slice before_data_a before_data_b.length before_data_c, .bool after_used, .slice after_data_a after_data_b.length after_data_c, .int .i64 undoNext, .int .i64 nextTxn, .slice txns_a txns_n txns_c, .slice dirty_a dirty_n dirty_c, .slice image_a image_b.length image_c]] w fun e w' => e = .returned (.bool (alone3 txn prev page slot before_used before_data_b after_used after_data_b undoNext nextTxn txns_b dirty_b image_b)) ∧ Same w w' := by
  have hlt := hrt.2.1
  have hld := hrd.2.1
  dsimp only at hlt hld
  have e1 : txns_b.length / 4 = txns_n := by omega
  have e2 : dirty_b.length / 2 = dirty_n := by omega
  have hmt := hrt.1
  have hmd := hrd.1
  dsimp only at hmt hmd
  have hbefore : ∀ wx, Same w wx → Calls Try.prog 56 #[.agg #[.bool false, .slice none 0 0], .agg #[.bool before_used, .slice before_data_a before_data_b.length before_data_c]] wx fun e w' => e = .returned (.bool (false == before_used && decide ([] = before_data_b))) ∧ Same wx w' := fun wx hk => sameSlots_any ⟨false, ⟨0, none, 0, []⟩⟩ ⟨before_used, ⟨0, before_data_a, before_data_c, before_data_b⟩⟩ wx (fun x hx => by simp at hx) hBb ((rd_nil w).same hk) (hrb.same hk)
  have hafter : ∀ wx, Same w wx → Calls Try.prog 56 #[.agg #[.bool false, .slice none 0 0], .agg #[.bool after_used, .slice after_data_a after_data_b.length after_data_c]] wx fun e w' => e = .returned (.bool (false == after_used && decide ([] = after_data_b))) ∧ Same wx w' := fun wx hk => sameSlots_any ⟨false, ⟨0, none, 0, []⟩⟩ ⟨after_used, ⟨0, after_data_a, after_data_c, after_data_b⟩⟩ wx (fun x hx => by simp at hx) hBa ((rd_nil w).same hk) (hra.same hk)
  have htxns : ∀ wx, Same w wx → Calls Try.prog 57 #[.slice none 0 0, .slice txns_a txns_n txns_c] wx fun e w' => e = .returned (.bool (decide (txns_b.length / 4 = 0))) ∧ Same wx w' := fun wx hk => by rw [e1]; exact sameTxnEntry_nil txns_a txns_n txns_c wx hmt
  have hdirty : ∀ wx, Same w wx → Calls Try.prog 58 #[.slice none 0 0, .slice dirty_a dirty_n dirty_c] wx fun e w' => e = .returned (.bool (decide (dirty_b.length / 2 = 0))) ∧ Same wx w' := fun wx hk => by rw [e2]; exact sameDirtyEntry_nil dirty_a dirty_n dirty_c wx hmd
  have himage : ∀ wx, Same w wx → Calls Try.prog 59 #[.slice none 0 0, .slice image_a image_b.length image_c] wx fun e w' => e = .returned (.bool (decide ([] = image_b))) ∧ Same wx w' := fun wx hk => bytesEq_any _ _ [] image_b wx (fun x hx => by simp at hx) hBi ((rd_nil w).same hk) (hri.same hk)
  unfold alone3
  clear hrb hra hri hrt hrd hBb hBa hBi e1 e2 hlt hld hmt hmd hnt hnd
  generalize (false == before_used && decide ([] = before_data_b)) = B_before at *
  generalize (false == after_used && decide ([] = after_data_b)) = B_after at *
  generalize decide (txns_b.length / 4 = 0) = B_txns at *
  generalize decide (dirty_b.length / 2 = 0) = B_dirty at *
  generalize decide ([] = image_b) = B_image at *
  by_cases qpage : 0 = page
  case neg =>
    rw [decide_eq_false qpage]
    simp only [Bool.false_and, Bool.and_false]
    exact sameRecords_3 _ _ _ _ _ _ _ _ _ _ _ _ _ _ _ _ _ _ _ _ _ _ _ _ _ _ _ _ _ _ _ _ _ _ _ _ _ _ _ _ _ _ _ _ _ _ _ _ w rfl rfl rfl qpage
  rw [decide_eq_true qpage]
  by_cases qslot : 0 = slot
  case neg =>
    rw [decide_eq_false qslot]
    simp only [Bool.false_and, Bool.and_false]
    exact sameRecords_4 _ _ _ _ _ _ _ _ _ _ _ _ _ _ _ _ _ _ _ _ _ _ _ _ _ _ _ _ _ _ _ _ _ _ _ _ _ _ _ _ _ _ _ _ _ _ _ _ w rfl rfl rfl qpage qslot
  rw [decide_eq_true qslot]
  cases B_before with
  | false =>
    simp only [Bool.false_and, Bool.and_false]
    exact sameRecords_5 _ _ _ _ _ _ _ _ _ _ _ _ _ _ _ _ _ _ _ _ _ _ _ _ _ _ _ _ _ _ _ _ _ _ _ _ _ _ _ _ _ _ _ _ _ _ _ _ w rfl rfl rfl qpage qslot hbefore
  | true =>
  cases B_after with
  | false =>
    simp only [Bool.false_and, Bool.and_false]
    exact sameRecords_6 _ _ _ _ _ _ _ _ _ _ _ _ _ _ _ _ _ _ _ _ _ _ _ _ _ _ _ _ _ _ _ _ _ _ _ _ _ _ _ _ _ _ _ _ _ _ _ _ w rfl rfl rfl qpage qslot hbefore hafter
  | true =>
  by_cases qundoNext : 0 = undoNext
  case neg =>
    rw [decide_eq_false qundoNext]
    simp only [Bool.false_and, Bool.and_false]
    exact sameRecords_7 _ _ _ _ _ _ _ _ _ _ _ _ _ _ _ _ _ _ _ _ _ _ _ _ _ _ _ _ _ _ _ _ _ _ _ _ _ _ _ _ _ _ _ _ _ _ _ _ w rfl rfl rfl qpage qslot qundoNext hbefore hafter
  rw [decide_eq_true qundoNext]
  by_cases qnextTxn : 0 = nextTxn
  case neg =>
    rw [decide_eq_false qnextTxn]
    simp only [Bool.false_and, Bool.and_false]
    exact sameRecords_8 _ _ _ _ _ _ _ _ _ _ _ _ _ _ _ _ _ _ _ _ _ _ _ _ _ _ _ _ _ _ _ _ _ _ _ _ _ _ _ _ _ _ _ _ _ _ _ _ w rfl rfl rfl qpage qslot qundoNext qnextTxn hbefore hafter
  rw [decide_eq_true qnextTxn]
  cases B_txns with
  | false =>
    simp only [Bool.false_and, Bool.and_false]
    exact sameRecords_9 _ _ _ _ _ _ _ _ _ _ _ _ _ _ _ _ _ _ _ _ _ _ _ _ _ _ _ _ _ _ _ _ _ _ _ _ _ _ _ _ _ _ _ _ _ _ _ _ w rfl rfl rfl qpage qslot qundoNext qnextTxn hbefore hafter htxns
  | true =>
  cases B_dirty with
  | false =>
    simp only [Bool.false_and, Bool.and_false]
    exact sameRecords_10 _ _ _ _ _ _ _ _ _ _ _ _ _ _ _ _ _ _ _ _ _ _ _ _ _ _ _ _ _ _ _ _ _ _ _ _ _ _ _ _ _ _ _ _ _ _ _ _ w rfl rfl rfl qpage qslot qundoNext qnextTxn hbefore hafter htxns hdirty
  | true =>
  cases B_image with
  | false =>
    simp only [Bool.false_and, Bool.and_false]
    exact sameRecords_11 _ _ _ _ _ _ _ _ _ _ _ _ _ _ _ _ _ _ _ _ _ _ _ _ _ _ _ _ _ _ _ _ _ _ _ _ _ _ _ _ _ _ _ _ _ _ _ _ w rfl rfl rfl qpage qslot qundoNext qnextTxn hbefore hafter htxns hdirty himage
  | true =>
  simp only [Bool.and_true, Bool.and_self]
  exact sameRecords_12 _ _ _ _ _ _ _ _ _ _ _ _ _ _ _ _ _ _ _ _ _ _ _ _ _ _ _ _ _ _ _ _ _ _ _ _ _ _ _ _ _ _ _ _ _ _ _ _ w rfl rfl rfl qpage qslot qundoNext qnextTxn hbefore hafter htxns hdirty himage
set_option maxRecDepth 100000 in
set_option maxHeartbeats 4000000 in
theorem same_4 (txn : Int) (prev : Int) (page : Int) (slot : Int) (before_used : Bool) (before_data_a : Option Addr) (before_data_c : Nat) (before_data_b : List Int) (after_used : Bool) (after_data_a : Option Addr) (after_data_c : Nat) (after_data_b : List Int) (undoNext : Int) (nextTxn : Int) (txns_e : TypeId) (txns_a : Option Addr) (txns_n txns_c : Nat) (txns_b : List Int) (dirty_e : TypeId) (dirty_a : Option Addr) (dirty_n dirty_c : Nat) (dirty_b : List Int) (image_a : Option Addr) (image_c : Nat) (image_b : List Int) (w : World) (hBb : IsB before_data_b) (hBa : IsB after_data_b) (hBi : IsB image_b) (hrb : Rd .u8 w (.slice before_data_a before_data_b.length before_data_c) before_data_b) (hra : Rd .u8 w (.slice after_data_a after_data_b.length after_data_c) after_data_b) (hri : Rd .u8 w (.slice image_a image_b.length image_c) image_b) (hrt : RdF 4 w ⟨txns_e, txns_a, txns_n, txns_c, txns_b⟩) (hrd : RdF 2 w ⟨dirty_e, dirty_a, dirty_n, dirty_c, dirty_b⟩) (hnt : txns_n ≤ 1125899906842624) (hnd : dirty_n ≤ 1125899906842624) :
    Calls Try.prog 37 #[.agg #[.int .i64 4, .int .i64 txn, .int .i64 prev, .int .i64 0, .int .i64 0, .bool false, .slice none 0 0, .bool false, .slice none 0 0, .int .i64 0, .int .i64 0, .slice none 0 0, .slice none 0 0, .slice none 0 0], .agg #[.int .i64 4, .int .i64 txn, .int .i64 prev, .int .i64 page, .int .i64 slot, .bool before_used, .slice before_data_a before_data_b.length before_data_c, .bool after_used, .slice after_data_a after_data_b.length after_data_c, .int .i64 undoNext, .int .i64 nextTxn, .slice txns_a txns_n txns_c, .slice dirty_a dirty_n dirty_c, .slice image_a image_b.length image_c]] w fun e w' => e = .returned (.bool (alone4 txn prev page slot before_used before_data_b after_used after_data_b undoNext nextTxn txns_b dirty_b image_b)) ∧ Same w w' := by
  have hlt := hrt.2.1
  have hld := hrd.2.1
  dsimp only at hlt hld
  have e1 : txns_b.length / 4 = txns_n := by omega
  have e2 : dirty_b.length / 2 = dirty_n := by omega
  have hmt := hrt.1
  have hmd := hrd.1
  dsimp only at hmt hmd
  have hbefore : ∀ wx, Same w wx → Calls Try.prog 56 #[.agg #[.bool false, .slice none 0 0], .agg #[.bool before_used, .slice before_data_a before_data_b.length before_data_c]] wx fun e w' => e = .returned (.bool (false == before_used && decide ([] = before_data_b))) ∧ Same wx w' := fun wx hk => sameSlots_any ⟨false, ⟨0, none, 0, []⟩⟩ ⟨before_used, ⟨0, before_data_a, before_data_c, before_data_b⟩⟩ wx (fun x hx => by simp at hx) hBb ((rd_nil w).same hk) (hrb.same hk)
  have hafter : ∀ wx, Same w wx → Calls Try.prog 56 #[.agg #[.bool false, .slice none 0 0], .agg #[.bool after_used, .slice after_data_a after_data_b.length after_data_c]] wx fun e w' => e = .returned (.bool (false == after_used && decide ([] = after_data_b))) ∧ Same wx w' := fun wx hk => sameSlots_any ⟨false, ⟨0, none, 0, []⟩⟩ ⟨after_used, ⟨0, after_data_a, after_data_c, after_data_b⟩⟩ wx (fun x hx => by simp at hx) hBa ((rd_nil w).same hk) (hra.same hk)
  have htxns : ∀ wx, Same w wx → Calls Try.prog 57 #[.slice none 0 0, .slice txns_a txns_n txns_c] wx fun e w' => e = .returned (.bool (decide (txns_b.length / 4 = 0))) ∧ Same wx w' := fun wx hk => by rw [e1]; exact sameTxnEntry_nil txns_a txns_n txns_c wx hmt
  have hdirty : ∀ wx, Same w wx → Calls Try.prog 58 #[.slice none 0 0, .slice dirty_a dirty_n dirty_c] wx fun e w' => e = .returned (.bool (decide (dirty_b.length / 2 = 0))) ∧ Same wx w' := fun wx hk => by rw [e2]; exact sameDirtyEntry_nil dirty_a dirty_n dirty_c wx hmd
  have himage : ∀ wx, Same w wx → Calls Try.prog 59 #[.slice none 0 0, .slice image_a image_b.length image_c] wx fun e w' => e = .returned (.bool (decide ([] = image_b))) ∧ Same wx w' := fun wx hk => bytesEq_any _ _ [] image_b wx (fun x hx => by simp at hx) hBi ((rd_nil w).same hk) (hri.same hk)
  unfold alone4
  clear hrb hra hri hrt hrd hBb hBa hBi e1 e2 hlt hld hmt hmd hnt hnd
  generalize (false == before_used && decide ([] = before_data_b)) = B_before at *
  generalize (false == after_used && decide ([] = after_data_b)) = B_after at *
  generalize decide (txns_b.length / 4 = 0) = B_txns at *
  generalize decide (dirty_b.length / 2 = 0) = B_dirty at *
  generalize decide ([] = image_b) = B_image at *
  by_cases qpage : 0 = page
  case neg =>
    rw [decide_eq_false qpage]
    simp only [Bool.false_and, Bool.and_false]
    exact sameRecords_3 _ _ _ _ _ _ _ _ _ _ _ _ _ _ _ _ _ _ _ _ _ _ _ _ _ _ _ _ _ _ _ _ _ _ _ _ _ _ _ _ _ _ _ _ _ _ _ _ w rfl rfl rfl qpage
  rw [decide_eq_true qpage]
  by_cases qslot : 0 = slot
  case neg =>
    rw [decide_eq_false qslot]
    simp only [Bool.false_and, Bool.and_false]
    exact sameRecords_4 _ _ _ _ _ _ _ _ _ _ _ _ _ _ _ _ _ _ _ _ _ _ _ _ _ _ _ _ _ _ _ _ _ _ _ _ _ _ _ _ _ _ _ _ _ _ _ _ w rfl rfl rfl qpage qslot
  rw [decide_eq_true qslot]
  cases B_before with
  | false =>
    simp only [Bool.false_and, Bool.and_false]
    exact sameRecords_5 _ _ _ _ _ _ _ _ _ _ _ _ _ _ _ _ _ _ _ _ _ _ _ _ _ _ _ _ _ _ _ _ _ _ _ _ _ _ _ _ _ _ _ _ _ _ _ _ w rfl rfl rfl qpage qslot hbefore
  | true =>
  cases B_after with
  | false =>
    simp only [Bool.false_and, Bool.and_false]
    exact sameRecords_6 _ _ _ _ _ _ _ _ _ _ _ _ _ _ _ _ _ _ _ _ _ _ _ _ _ _ _ _ _ _ _ _ _ _ _ _ _ _ _ _ _ _ _ _ _ _ _ _ w rfl rfl rfl qpage qslot hbefore hafter
  | true =>
  by_cases qundoNext : 0 = undoNext
  case neg =>
    rw [decide_eq_false qundoNext]
    simp only [Bool.false_and, Bool.and_false]
    exact sameRecords_7 _ _ _ _ _ _ _ _ _ _ _ _ _ _ _ _ _ _ _ _ _ _ _ _ _ _ _ _ _ _ _ _ _ _ _ _ _ _ _ _ _ _ _ _ _ _ _ _ w rfl rfl rfl qpage qslot qundoNext hbefore hafter
  rw [decide_eq_true qundoNext]
  by_cases qnextTxn : 0 = nextTxn
  case neg =>
    rw [decide_eq_false qnextTxn]
    simp only [Bool.false_and, Bool.and_false]
    exact sameRecords_8 _ _ _ _ _ _ _ _ _ _ _ _ _ _ _ _ _ _ _ _ _ _ _ _ _ _ _ _ _ _ _ _ _ _ _ _ _ _ _ _ _ _ _ _ _ _ _ _ w rfl rfl rfl qpage qslot qundoNext qnextTxn hbefore hafter
  rw [decide_eq_true qnextTxn]
  cases B_txns with
  | false =>
    simp only [Bool.false_and, Bool.and_false]
    exact sameRecords_9 _ _ _ _ _ _ _ _ _ _ _ _ _ _ _ _ _ _ _ _ _ _ _ _ _ _ _ _ _ _ _ _ _ _ _ _ _ _ _ _ _ _ _ _ _ _ _ _ w rfl rfl rfl qpage qslot qundoNext qnextTxn hbefore hafter htxns
  | true =>
  cases B_dirty with
  | false =>
    simp only [Bool.false_and, Bool.and_false]
    exact sameRecords_10 _ _ _ _ _ _ _ _ _ _ _ _ _ _ _ _ _ _ _ _ _ _ _ _ _ _ _ _ _ _ _ _ _ _ _ _ _ _ _ _ _ _ _ _ _ _ _ _ w rfl rfl rfl qpage qslot qundoNext qnextTxn hbefore hafter htxns hdirty
  | true =>
  cases B_image with
  | false =>
    simp only [Bool.false_and, Bool.and_false]
    exact sameRecords_11 _ _ _ _ _ _ _ _ _ _ _ _ _ _ _ _ _ _ _ _ _ _ _ _ _ _ _ _ _ _ _ _ _ _ _ _ _ _ _ _ _ _ _ _ _ _ _ _ w rfl rfl rfl qpage qslot qundoNext qnextTxn hbefore hafter htxns hdirty himage
  | true =>
  simp only [Bool.and_true, Bool.and_self]
  exact sameRecords_12 _ _ _ _ _ _ _ _ _ _ _ _ _ _ _ _ _ _ _ _ _ _ _ _ _ _ _ _ _ _ _ _ _ _ _ _ _ _ _ _ _ _ _ _ _ _ _ _ w rfl rfl rfl qpage qslot qundoNext qnextTxn hbefore hafter htxns hdirty himage
set_option maxRecDepth 100000 in
set_option maxHeartbeats 4000000 in
theorem same_5 (txn : Int) (prev : Int) (page : Int) (slot : Int) (before_used : Bool) (before_data_a : Option Addr) (before_data_c : Nat) (before_data_b : List Int) (after_used : Bool) (after_data_a : Option Addr) (after_data_c : Nat) (after_data_b : List Int) (undoNext : Int) (nextTxn : Int) (txns_e : TypeId) (txns_a : Option Addr) (txns_n txns_c : Nat) (txns_b : List Int) (dirty_e : TypeId) (dirty_a : Option Addr) (dirty_n dirty_c : Nat) (dirty_b : List Int) (image_a : Option Addr) (image_c : Nat) (image_b : List Int) (w : World) (hBb : IsB before_data_b) (hBa : IsB after_data_b) (hBi : IsB image_b) (hrb : Rd .u8 w (.slice before_data_a before_data_b.length before_data_c) before_data_b) (hra : Rd .u8 w (.slice after_data_a after_data_b.length after_data_c) after_data_b) (hri : Rd .u8 w (.slice image_a image_b.length image_c) image_b) (hrt : RdF 4 w ⟨txns_e, txns_a, txns_n, txns_c, txns_b⟩) (hrd : RdF 2 w ⟨dirty_e, dirty_a, dirty_n, dirty_c, dirty_b⟩) (hnt : txns_n ≤ 1125899906842624) (hnd : dirty_n ≤ 1125899906842624) :
    Calls Try.prog 37 #[.agg #[.int .i64 5, .int .i64 txn, .int .i64 prev, .int .i64 0, .int .i64 0, .bool false, .slice none 0 0, .bool false, .slice none 0 0, .int .i64 0, .int .i64 0, .slice none 0 0, .slice none 0 0, .slice none 0 0], .agg #[.int .i64 5, .int .i64 txn, .int .i64 prev, .int .i64 page, .int .i64 slot, .bool before_used, .slice before_data_a before_data_b.length before_data_c, .bool after_used, .slice after_data_a after_data_b.length after_data_c, .int .i64 undoNext, .int .i64 nextTxn, .slice txns_a txns_n txns_c, .slice dirty_a dirty_n dirty_c, .slice image_a image_b.length image_c]] w fun e w' => e = .returned (.bool (alone5 txn prev page slot before_used before_data_b after_used after_data_b undoNext nextTxn txns_b dirty_b image_b)) ∧ Same w w' := by
  have hlt := hrt.2.1
  have hld := hrd.2.1
  dsimp only at hlt hld
  have e1 : txns_b.length / 4 = txns_n := by omega
  have e2 : dirty_b.length / 2 = dirty_n := by omega
  have hmt := hrt.1
  have hmd := hrd.1
  dsimp only at hmt hmd
  have hbefore : ∀ wx, Same w wx → Calls Try.prog 56 #[.agg #[.bool false, .slice none 0 0], .agg #[.bool before_used, .slice before_data_a before_data_b.length before_data_c]] wx fun e w' => e = .returned (.bool (false == before_used && decide ([] = before_data_b))) ∧ Same wx w' := fun wx hk => sameSlots_any ⟨false, ⟨0, none, 0, []⟩⟩ ⟨before_used, ⟨0, before_data_a, before_data_c, before_data_b⟩⟩ wx (fun x hx => by simp at hx) hBb ((rd_nil w).same hk) (hrb.same hk)
  have hafter : ∀ wx, Same w wx → Calls Try.prog 56 #[.agg #[.bool false, .slice none 0 0], .agg #[.bool after_used, .slice after_data_a after_data_b.length after_data_c]] wx fun e w' => e = .returned (.bool (false == after_used && decide ([] = after_data_b))) ∧ Same wx w' := fun wx hk => sameSlots_any ⟨false, ⟨0, none, 0, []⟩⟩ ⟨after_used, ⟨0, after_data_a, after_data_c, after_data_b⟩⟩ wx (fun x hx => by simp at hx) hBa ((rd_nil w).same hk) (hra.same hk)
  have htxns : ∀ wx, Same w wx → Calls Try.prog 57 #[.slice none 0 0, .slice txns_a txns_n txns_c] wx fun e w' => e = .returned (.bool (decide (txns_b.length / 4 = 0))) ∧ Same wx w' := fun wx hk => by rw [e1]; exact sameTxnEntry_nil txns_a txns_n txns_c wx hmt
  have hdirty : ∀ wx, Same w wx → Calls Try.prog 58 #[.slice none 0 0, .slice dirty_a dirty_n dirty_c] wx fun e w' => e = .returned (.bool (decide (dirty_b.length / 2 = 0))) ∧ Same wx w' := fun wx hk => by rw [e2]; exact sameDirtyEntry_nil dirty_a dirty_n dirty_c wx hmd
  have himage : ∀ wx, Same w wx → Calls Try.prog 59 #[.slice none 0 0, .slice image_a image_b.length image_c] wx fun e w' => e = .returned (.bool (decide ([] = image_b))) ∧ Same wx w' := fun wx hk => bytesEq_any _ _ [] image_b wx (fun x hx => by simp at hx) hBi ((rd_nil w).same hk) (hri.same hk)
  unfold alone5
  clear hrb hra hri hrt hrd hBb hBa hBi e1 e2 hlt hld hmt hmd hnt hnd
  generalize (false == before_used && decide ([] = before_data_b)) = B_before at *
  generalize (false == after_used && decide ([] = after_data_b)) = B_after at *
  generalize decide (txns_b.length / 4 = 0) = B_txns at *
  generalize decide (dirty_b.length / 2 = 0) = B_dirty at *
  generalize decide ([] = image_b) = B_image at *
  by_cases qpage : 0 = page
  case neg =>
    rw [decide_eq_false qpage]
    simp only [Bool.false_and, Bool.and_false]
    exact sameRecords_3 _ _ _ _ _ _ _ _ _ _ _ _ _ _ _ _ _ _ _ _ _ _ _ _ _ _ _ _ _ _ _ _ _ _ _ _ _ _ _ _ _ _ _ _ _ _ _ _ w rfl rfl rfl qpage
  rw [decide_eq_true qpage]
  by_cases qslot : 0 = slot
  case neg =>
    rw [decide_eq_false qslot]
    simp only [Bool.false_and, Bool.and_false]
    exact sameRecords_4 _ _ _ _ _ _ _ _ _ _ _ _ _ _ _ _ _ _ _ _ _ _ _ _ _ _ _ _ _ _ _ _ _ _ _ _ _ _ _ _ _ _ _ _ _ _ _ _ w rfl rfl rfl qpage qslot
  rw [decide_eq_true qslot]
  cases B_before with
  | false =>
    simp only [Bool.false_and, Bool.and_false]
    exact sameRecords_5 _ _ _ _ _ _ _ _ _ _ _ _ _ _ _ _ _ _ _ _ _ _ _ _ _ _ _ _ _ _ _ _ _ _ _ _ _ _ _ _ _ _ _ _ _ _ _ _ w rfl rfl rfl qpage qslot hbefore
  | true =>
  cases B_after with
  | false =>
    simp only [Bool.false_and, Bool.and_false]
    exact sameRecords_6 _ _ _ _ _ _ _ _ _ _ _ _ _ _ _ _ _ _ _ _ _ _ _ _ _ _ _ _ _ _ _ _ _ _ _ _ _ _ _ _ _ _ _ _ _ _ _ _ w rfl rfl rfl qpage qslot hbefore hafter
  | true =>
  by_cases qundoNext : 0 = undoNext
  case neg =>
    rw [decide_eq_false qundoNext]
    simp only [Bool.false_and, Bool.and_false]
    exact sameRecords_7 _ _ _ _ _ _ _ _ _ _ _ _ _ _ _ _ _ _ _ _ _ _ _ _ _ _ _ _ _ _ _ _ _ _ _ _ _ _ _ _ _ _ _ _ _ _ _ _ w rfl rfl rfl qpage qslot qundoNext hbefore hafter
  rw [decide_eq_true qundoNext]
  by_cases qnextTxn : 0 = nextTxn
  case neg =>
    rw [decide_eq_false qnextTxn]
    simp only [Bool.false_and, Bool.and_false]
    exact sameRecords_8 _ _ _ _ _ _ _ _ _ _ _ _ _ _ _ _ _ _ _ _ _ _ _ _ _ _ _ _ _ _ _ _ _ _ _ _ _ _ _ _ _ _ _ _ _ _ _ _ w rfl rfl rfl qpage qslot qundoNext qnextTxn hbefore hafter
  rw [decide_eq_true qnextTxn]
  cases B_txns with
  | false =>
    simp only [Bool.false_and, Bool.and_false]
    exact sameRecords_9 _ _ _ _ _ _ _ _ _ _ _ _ _ _ _ _ _ _ _ _ _ _ _ _ _ _ _ _ _ _ _ _ _ _ _ _ _ _ _ _ _ _ _ _ _ _ _ _ w rfl rfl rfl qpage qslot qundoNext qnextTxn hbefore hafter htxns
  | true =>
  cases B_dirty with
  | false =>
    simp only [Bool.false_and, Bool.and_false]
    exact sameRecords_10 _ _ _ _ _ _ _ _ _ _ _ _ _ _ _ _ _ _ _ _ _ _ _ _ _ _ _ _ _ _ _ _ _ _ _ _ _ _ _ _ _ _ _ _ _ _ _ _ w rfl rfl rfl qpage qslot qundoNext qnextTxn hbefore hafter htxns hdirty
  | true =>
  cases B_image with
  | false =>
    simp only [Bool.false_and, Bool.and_false]
    exact sameRecords_11 _ _ _ _ _ _ _ _ _ _ _ _ _ _ _ _ _ _ _ _ _ _ _ _ _ _ _ _ _ _ _ _ _ _ _ _ _ _ _ _ _ _ _ _ _ _ _ _ w rfl rfl rfl qpage qslot qundoNext qnextTxn hbefore hafter htxns hdirty himage
  | true =>
  simp only [Bool.and_true, Bool.and_self]
  exact sameRecords_12 _ _ _ _ _ _ _ _ _ _ _ _ _ _ _ _ _ _ _ _ _ _ _ _ _ _ _ _ _ _ _ _ _ _ _ _ _ _ _ _ _ _ _ _ _ _ _ _ w rfl rfl rfl qpage qslot qundoNext qnextTxn hbefore hafter htxns hdirty himage
set_option maxRecDepth 100000 in
set_option maxHeartbeats 4000000 in
theorem same_6 (txn : Int) (prev : Int) (page : Int) (slot : Int) (before_used : Bool) (before_data_a : Option Addr) (before_data_c : Nat) (before_data_b : List Int) (after_used : Bool) (after_data_a : Option Addr) (after_data_c : Nat) (after_data_b : List Int) (undoNext : Int) (nextTxn : Int) (txns_e : TypeId) (txns_a : Option Addr) (txns_n txns_c : Nat) (txns_b : List Int) (dirty_e : TypeId) (dirty_a : Option Addr) (dirty_n dirty_c : Nat) (dirty_b : List Int) (image_a : Option Addr) (image_c : Nat) (image_b : List Int) (w : World) (hBb : IsB before_data_b) (hBa : IsB after_data_b) (hBi : IsB image_b) (hrb : Rd .u8 w (.slice before_data_a before_data_b.length before_data_c) before_data_b) (hra : Rd .u8 w (.slice after_data_a after_data_b.length after_data_c) after_data_b) (hri : Rd .u8 w (.slice image_a image_b.length image_c) image_b) (hrt : RdF 4 w ⟨txns_e, txns_a, txns_n, txns_c, txns_b⟩) (hrd : RdF 2 w ⟨dirty_e, dirty_a, dirty_n, dirty_c, dirty_b⟩) (hnt : txns_n ≤ 1125899906842624) (hnd : dirty_n ≤ 1125899906842624) :
    Calls Try.prog 37 #[.agg #[.int .i64 6, .int .i64 0, .int .i64 0, .int .i64 0, .int .i64 0, .bool false, .slice none 0 0, .bool false, .slice none 0 0, .int .i64 0, .int .i64 0, .slice none 0 0, .slice none 0 0, .slice none 0 0], .agg #[.int .i64 6, .int .i64 txn, .int .i64 prev, .int .i64 page, .int .i64 slot, .bool before_used, .slice before_data_a before_data_b.length before_data_c, .bool after_used, .slice after_data_a after_data_b.length after_data_c, .int .i64 undoNext, .int .i64 nextTxn, .slice txns_a txns_n txns_c, .slice dirty_a dirty_n dirty_c, .slice image_a image_b.length image_c]] w fun e w' => e = .returned (.bool (alone6 txn prev page slot before_used before_data_b after_used after_data_b undoNext nextTxn txns_b dirty_b image_b)) ∧ Same w w' := by
  have hlt := hrt.2.1
  have hld := hrd.2.1
  dsimp only at hlt hld
  have e1 : txns_b.length / 4 = txns_n := by omega
  have e2 : dirty_b.length / 2 = dirty_n := by omega
  have hmt := hrt.1
  have hmd := hrd.1
  dsimp only at hmt hmd
  have hbefore : ∀ wx, Same w wx → Calls Try.prog 56 #[.agg #[.bool false, .slice none 0 0], .agg #[.bool before_used, .slice before_data_a before_data_b.length before_data_c]] wx fun e w' => e = .returned (.bool (false == before_used && decide ([] = before_data_b))) ∧ Same wx w' := fun wx hk => sameSlots_any ⟨false, ⟨0, none, 0, []⟩⟩ ⟨before_used, ⟨0, before_data_a, before_data_c, before_data_b⟩⟩ wx (fun x hx => by simp at hx) hBb ((rd_nil w).same hk) (hrb.same hk)
  have hafter : ∀ wx, Same w wx → Calls Try.prog 56 #[.agg #[.bool false, .slice none 0 0], .agg #[.bool after_used, .slice after_data_a after_data_b.length after_data_c]] wx fun e w' => e = .returned (.bool (false == after_used && decide ([] = after_data_b))) ∧ Same wx w' := fun wx hk => sameSlots_any ⟨false, ⟨0, none, 0, []⟩⟩ ⟨after_used, ⟨0, after_data_a, after_data_c, after_data_b⟩⟩ wx (fun x hx => by simp at hx) hBa ((rd_nil w).same hk) (hra.same hk)
  have htxns : ∀ wx, Same w wx → Calls Try.prog 57 #[.slice none 0 0, .slice txns_a txns_n txns_c] wx fun e w' => e = .returned (.bool (decide (txns_b.length / 4 = 0))) ∧ Same wx w' := fun wx hk => by rw [e1]; exact sameTxnEntry_nil txns_a txns_n txns_c wx hmt
  have hdirty : ∀ wx, Same w wx → Calls Try.prog 58 #[.slice none 0 0, .slice dirty_a dirty_n dirty_c] wx fun e w' => e = .returned (.bool (decide (dirty_b.length / 2 = 0))) ∧ Same wx w' := fun wx hk => by rw [e2]; exact sameDirtyEntry_nil dirty_a dirty_n dirty_c wx hmd
  have himage : ∀ wx, Same w wx → Calls Try.prog 59 #[.slice none 0 0, .slice image_a image_b.length image_c] wx fun e w' => e = .returned (.bool (decide ([] = image_b))) ∧ Same wx w' := fun wx hk => bytesEq_any _ _ [] image_b wx (fun x hx => by simp at hx) hBi ((rd_nil w).same hk) (hri.same hk)
  unfold alone6
  clear hrb hra hri hrt hrd hBb hBa hBi e1 e2 hlt hld hmt hmd hnt hnd
  generalize (false == before_used && decide ([] = before_data_b)) = B_before at *
  generalize (false == after_used && decide ([] = after_data_b)) = B_after at *
  generalize decide (txns_b.length / 4 = 0) = B_txns at *
  generalize decide (dirty_b.length / 2 = 0) = B_dirty at *
  generalize decide ([] = image_b) = B_image at *
  by_cases qtxn : 0 = txn
  case neg =>
    rw [decide_eq_false qtxn]
    simp only [Bool.false_and, Bool.and_false]
    exact sameRecords_1 _ _ _ _ _ _ _ _ _ _ _ _ _ _ _ _ _ _ _ _ _ _ _ _ _ _ _ _ _ _ _ _ _ _ _ _ _ _ _ _ _ _ _ _ _ _ _ _ w rfl qtxn
  rw [decide_eq_true qtxn]
  by_cases qprev : 0 = prev
  case neg =>
    rw [decide_eq_false qprev]
    simp only [Bool.false_and, Bool.and_false]
    exact sameRecords_2 _ _ _ _ _ _ _ _ _ _ _ _ _ _ _ _ _ _ _ _ _ _ _ _ _ _ _ _ _ _ _ _ _ _ _ _ _ _ _ _ _ _ _ _ _ _ _ _ w rfl qtxn qprev
  rw [decide_eq_true qprev]
  by_cases qpage : 0 = page
  case neg =>
    rw [decide_eq_false qpage]
    simp only [Bool.false_and, Bool.and_false]
    exact sameRecords_3 _ _ _ _ _ _ _ _ _ _ _ _ _ _ _ _ _ _ _ _ _ _ _ _ _ _ _ _ _ _ _ _ _ _ _ _ _ _ _ _ _ _ _ _ _ _ _ _ w rfl qtxn qprev qpage
  rw [decide_eq_true qpage]
  by_cases qslot : 0 = slot
  case neg =>
    rw [decide_eq_false qslot]
    simp only [Bool.false_and, Bool.and_false]
    exact sameRecords_4 _ _ _ _ _ _ _ _ _ _ _ _ _ _ _ _ _ _ _ _ _ _ _ _ _ _ _ _ _ _ _ _ _ _ _ _ _ _ _ _ _ _ _ _ _ _ _ _ w rfl qtxn qprev qpage qslot
  rw [decide_eq_true qslot]
  cases B_before with
  | false =>
    simp only [Bool.false_and, Bool.and_false]
    exact sameRecords_5 _ _ _ _ _ _ _ _ _ _ _ _ _ _ _ _ _ _ _ _ _ _ _ _ _ _ _ _ _ _ _ _ _ _ _ _ _ _ _ _ _ _ _ _ _ _ _ _ w rfl qtxn qprev qpage qslot hbefore
  | true =>
  cases B_after with
  | false =>
    simp only [Bool.false_and, Bool.and_false]
    exact sameRecords_6 _ _ _ _ _ _ _ _ _ _ _ _ _ _ _ _ _ _ _ _ _ _ _ _ _ _ _ _ _ _ _ _ _ _ _ _ _ _ _ _ _ _ _ _ _ _ _ _ w rfl qtxn qprev qpage qslot hbefore hafter
  | true =>
  by_cases qundoNext : 0 = undoNext
  case neg =>
    rw [decide_eq_false qundoNext]
    simp only [Bool.false_and, Bool.and_false]
    exact sameRecords_7 _ _ _ _ _ _ _ _ _ _ _ _ _ _ _ _ _ _ _ _ _ _ _ _ _ _ _ _ _ _ _ _ _ _ _ _ _ _ _ _ _ _ _ _ _ _ _ _ w rfl qtxn qprev qpage qslot qundoNext hbefore hafter
  rw [decide_eq_true qundoNext]
  by_cases qnextTxn : 0 = nextTxn
  case neg =>
    rw [decide_eq_false qnextTxn]
    simp only [Bool.false_and, Bool.and_false]
    exact sameRecords_8 _ _ _ _ _ _ _ _ _ _ _ _ _ _ _ _ _ _ _ _ _ _ _ _ _ _ _ _ _ _ _ _ _ _ _ _ _ _ _ _ _ _ _ _ _ _ _ _ w rfl qtxn qprev qpage qslot qundoNext qnextTxn hbefore hafter
  rw [decide_eq_true qnextTxn]
  cases B_txns with
  | false =>
    simp only [Bool.false_and, Bool.and_false]
    exact sameRecords_9 _ _ _ _ _ _ _ _ _ _ _ _ _ _ _ _ _ _ _ _ _ _ _ _ _ _ _ _ _ _ _ _ _ _ _ _ _ _ _ _ _ _ _ _ _ _ _ _ w rfl qtxn qprev qpage qslot qundoNext qnextTxn hbefore hafter htxns
  | true =>
  cases B_dirty with
  | false =>
    simp only [Bool.false_and, Bool.and_false]
    exact sameRecords_10 _ _ _ _ _ _ _ _ _ _ _ _ _ _ _ _ _ _ _ _ _ _ _ _ _ _ _ _ _ _ _ _ _ _ _ _ _ _ _ _ _ _ _ _ _ _ _ _ w rfl qtxn qprev qpage qslot qundoNext qnextTxn hbefore hafter htxns hdirty
  | true =>
  cases B_image with
  | false =>
    simp only [Bool.false_and, Bool.and_false]
    exact sameRecords_11 _ _ _ _ _ _ _ _ _ _ _ _ _ _ _ _ _ _ _ _ _ _ _ _ _ _ _ _ _ _ _ _ _ _ _ _ _ _ _ _ _ _ _ _ _ _ _ _ w rfl qtxn qprev qpage qslot qundoNext qnextTxn hbefore hafter htxns hdirty himage
  | true =>
  simp only [Bool.and_true, Bool.and_self]
  exact sameRecords_12 _ _ _ _ _ _ _ _ _ _ _ _ _ _ _ _ _ _ _ _ _ _ _ _ _ _ _ _ _ _ _ _ _ _ _ _ _ _ _ _ _ _ _ _ _ _ _ _ w rfl qtxn qprev qpage qslot qundoNext qnextTxn hbefore hafter htxns hdirty himage
set_option maxRecDepth 100000 in
set_option maxHeartbeats 4000000 in
theorem same_7 (txn : Int) (prev : Int) (page : Int) (slot : Int) (before_used : Bool) (before_data_a : Option Addr) (before_data_c : Nat) (before_data_b : List Int) (after_used : Bool) (after_data_a : Option Addr) (after_data_c : Nat) (after_data_b : List Int) (undoNext : Int) (nextTxn : Int) (txns_e : TypeId) (txns_a : Option Addr) (txns_n txns_c : Nat) (txns_b : List Int) (dirty_e : TypeId) (dirty_a : Option Addr) (dirty_n dirty_c : Nat) (dirty_b : List Int) (image_a : Option Addr) (image_c : Nat) (image_b : List Int) (w : World) (hBb : IsB before_data_b) (hBa : IsB after_data_b) (hBi : IsB image_b) (hrb : Rd .u8 w (.slice before_data_a before_data_b.length before_data_c) before_data_b) (hra : Rd .u8 w (.slice after_data_a after_data_b.length after_data_c) after_data_b) (hri : Rd .u8 w (.slice image_a image_b.length image_c) image_b) (hrt : RdF 4 w ⟨txns_e, txns_a, txns_n, txns_c, txns_b⟩) (hrd : RdF 2 w ⟨dirty_e, dirty_a, dirty_n, dirty_c, dirty_b⟩) (hnt : txns_n ≤ 1125899906842624) (hnd : dirty_n ≤ 1125899906842624) :
    Calls Try.prog 37 #[.agg #[.int .i64 7, .int .i64 0, .int .i64 0, .int .i64 0, .int .i64 0, .bool false, .slice none 0 0, .bool false, .slice none 0 0, .int .i64 0, .int .i64 nextTxn, .slice txns_a txns_n txns_c, .slice dirty_a dirty_n dirty_c, .slice none 0 0], .agg #[.int .i64 7, .int .i64 txn, .int .i64 prev, .int .i64 page, .int .i64 slot, .bool before_used, .slice before_data_a before_data_b.length before_data_c, .bool after_used, .slice after_data_a after_data_b.length after_data_c, .int .i64 undoNext, .int .i64 nextTxn, .slice txns_a txns_n txns_c, .slice dirty_a dirty_n dirty_c, .slice image_a image_b.length image_c]] w fun e w' => e = .returned (.bool (alone7 txn prev page slot before_used before_data_b after_used after_data_b undoNext nextTxn txns_b dirty_b image_b)) ∧ Same w w' := by
  have hlt := hrt.2.1
  have hld := hrd.2.1
  dsimp only at hlt hld
  have e1 : txns_b.length / 4 = txns_n := by omega
  have e2 : dirty_b.length / 2 = dirty_n := by omega
  have hmt := hrt.1
  have hmd := hrd.1
  dsimp only at hmt hmd
  have hbefore : ∀ wx, Same w wx → Calls Try.prog 56 #[.agg #[.bool false, .slice none 0 0], .agg #[.bool before_used, .slice before_data_a before_data_b.length before_data_c]] wx fun e w' => e = .returned (.bool (false == before_used && decide ([] = before_data_b))) ∧ Same wx w' := fun wx hk => sameSlots_any ⟨false, ⟨0, none, 0, []⟩⟩ ⟨before_used, ⟨0, before_data_a, before_data_c, before_data_b⟩⟩ wx (fun x hx => by simp at hx) hBb ((rd_nil w).same hk) (hrb.same hk)
  have hafter : ∀ wx, Same w wx → Calls Try.prog 56 #[.agg #[.bool false, .slice none 0 0], .agg #[.bool after_used, .slice after_data_a after_data_b.length after_data_c]] wx fun e w' => e = .returned (.bool (false == after_used && decide ([] = after_data_b))) ∧ Same wx w' := fun wx hk => sameSlots_any ⟨false, ⟨0, none, 0, []⟩⟩ ⟨after_used, ⟨0, after_data_a, after_data_c, after_data_b⟩⟩ wx (fun x hx => by simp at hx) hBa ((rd_nil w).same hk) (hra.same hk)
  have htxns : ∀ wx, Same w wx → Calls Try.prog 57 #[.slice txns_a txns_n txns_c, .slice txns_a txns_n txns_c] wx fun e w' => e = .returned (.bool true) ∧ Same wx w' := fun wx hk => sameTxnEntry_self ⟨txns_e, txns_a, txns_n, txns_c, txns_b⟩ wx hnt (hrt.same hk)
  have hdirty : ∀ wx, Same w wx → Calls Try.prog 58 #[.slice dirty_a dirty_n dirty_c, .slice dirty_a dirty_n dirty_c] wx fun e w' => e = .returned (.bool true) ∧ Same wx w' := fun wx hk => sameDirtyEntry_self ⟨dirty_e, dirty_a, dirty_n, dirty_c, dirty_b⟩ wx hnd (hrd.same hk)
  have himage : ∀ wx, Same w wx → Calls Try.prog 59 #[.slice none 0 0, .slice image_a image_b.length image_c] wx fun e w' => e = .returned (.bool (decide ([] = image_b))) ∧ Same wx w' := fun wx hk => bytesEq_any _ _ [] image_b wx (fun x hx => by simp at hx) hBi ((rd_nil w).same hk) (hri.same hk)
  unfold alone7
  clear hrb hra hri hrt hrd hBb hBa hBi e1 e2 hlt hld hmt hmd hnt hnd
  generalize (false == before_used && decide ([] = before_data_b)) = B_before at *
  generalize (false == after_used && decide ([] = after_data_b)) = B_after at *
  generalize decide ([] = image_b) = B_image at *
  by_cases qtxn : 0 = txn
  case neg =>
    rw [decide_eq_false qtxn]
    simp only [Bool.false_and, Bool.and_false]
    exact sameRecords_1 _ _ _ _ _ _ _ _ _ _ _ _ _ _ _ _ _ _ _ _ _ _ _ _ _ _ _ _ _ _ _ _ _ _ _ _ _ _ _ _ _ _ _ _ _ _ _ _ w rfl qtxn
  rw [decide_eq_true qtxn]
  by_cases qprev : 0 = prev
  case neg =>
    rw [decide_eq_false qprev]
    simp only [Bool.false_and, Bool.and_false]
    exact sameRecords_2 _ _ _ _ _ _ _ _ _ _ _ _ _ _ _ _ _ _ _ _ _ _ _ _ _ _ _ _ _ _ _ _ _ _ _ _ _ _ _ _ _ _ _ _ _ _ _ _ w rfl qtxn qprev
  rw [decide_eq_true qprev]
  by_cases qpage : 0 = page
  case neg =>
    rw [decide_eq_false qpage]
    simp only [Bool.false_and, Bool.and_false]
    exact sameRecords_3 _ _ _ _ _ _ _ _ _ _ _ _ _ _ _ _ _ _ _ _ _ _ _ _ _ _ _ _ _ _ _ _ _ _ _ _ _ _ _ _ _ _ _ _ _ _ _ _ w rfl qtxn qprev qpage
  rw [decide_eq_true qpage]
  by_cases qslot : 0 = slot
  case neg =>
    rw [decide_eq_false qslot]
    simp only [Bool.false_and, Bool.and_false]
    exact sameRecords_4 _ _ _ _ _ _ _ _ _ _ _ _ _ _ _ _ _ _ _ _ _ _ _ _ _ _ _ _ _ _ _ _ _ _ _ _ _ _ _ _ _ _ _ _ _ _ _ _ w rfl qtxn qprev qpage qslot
  rw [decide_eq_true qslot]
  cases B_before with
  | false =>
    simp only [Bool.false_and, Bool.and_false]
    exact sameRecords_5 _ _ _ _ _ _ _ _ _ _ _ _ _ _ _ _ _ _ _ _ _ _ _ _ _ _ _ _ _ _ _ _ _ _ _ _ _ _ _ _ _ _ _ _ _ _ _ _ w rfl qtxn qprev qpage qslot hbefore
  | true =>
  cases B_after with
  | false =>
    simp only [Bool.false_and, Bool.and_false]
    exact sameRecords_6 _ _ _ _ _ _ _ _ _ _ _ _ _ _ _ _ _ _ _ _ _ _ _ _ _ _ _ _ _ _ _ _ _ _ _ _ _ _ _ _ _ _ _ _ _ _ _ _ w rfl qtxn qprev qpage qslot hbefore hafter
  | true =>
  by_cases qundoNext : 0 = undoNext
  case neg =>
    rw [decide_eq_false qundoNext]
    simp only [Bool.false_and, Bool.and_false]
    exact sameRecords_7 _ _ _ _ _ _ _ _ _ _ _ _ _ _ _ _ _ _ _ _ _ _ _ _ _ _ _ _ _ _ _ _ _ _ _ _ _ _ _ _ _ _ _ _ _ _ _ _ w rfl qtxn qprev qpage qslot qundoNext hbefore hafter
  rw [decide_eq_true qundoNext]
  cases B_image with
  | false =>
    simp only [Bool.false_and, Bool.and_false]
    exact sameRecords_11 _ _ _ _ _ _ _ _ _ _ _ _ _ _ _ _ _ _ _ _ _ _ _ _ _ _ _ _ _ _ _ _ _ _ _ _ _ _ _ _ _ _ _ _ _ _ _ _ w rfl qtxn qprev qpage qslot qundoNext rfl hbefore hafter htxns hdirty himage
  | true =>
  simp only [Bool.and_true, Bool.and_self]
  exact sameRecords_12 _ _ _ _ _ _ _ _ _ _ _ _ _ _ _ _ _ _ _ _ _ _ _ _ _ _ _ _ _ _ _ _ _ _ _ _ _ _ _ _ _ _ _ _ _ _ _ _ w rfl qtxn qprev qpage qslot qundoNext rfl hbefore hafter htxns hdirty himage
set_option maxRecDepth 100000 in
set_option maxHeartbeats 4000000 in
theorem same_8 (txn : Int) (prev : Int) (page : Int) (slot : Int) (before_used : Bool) (before_data_a : Option Addr) (before_data_c : Nat) (before_data_b : List Int) (after_used : Bool) (after_data_a : Option Addr) (after_data_c : Nat) (after_data_b : List Int) (undoNext : Int) (nextTxn : Int) (txns_e : TypeId) (txns_a : Option Addr) (txns_n txns_c : Nat) (txns_b : List Int) (dirty_e : TypeId) (dirty_a : Option Addr) (dirty_n dirty_c : Nat) (dirty_b : List Int) (image_a : Option Addr) (image_c : Nat) (image_b : List Int) (w : World) (hBb : IsB before_data_b) (hBa : IsB after_data_b) (hBi : IsB image_b) (hrb : Rd .u8 w (.slice before_data_a before_data_b.length before_data_c) before_data_b) (hra : Rd .u8 w (.slice after_data_a after_data_b.length after_data_c) after_data_b) (hri : Rd .u8 w (.slice image_a image_b.length image_c) image_b) (hrt : RdF 4 w ⟨txns_e, txns_a, txns_n, txns_c, txns_b⟩) (hrd : RdF 2 w ⟨dirty_e, dirty_a, dirty_n, dirty_c, dirty_b⟩) (hnt : txns_n ≤ 1125899906842624) (hnd : dirty_n ≤ 1125899906842624) :
    Calls Try.prog 37 #[.agg #[.int .i64 8, .int .i64 0, .int .i64 0, .int .i64 page, .int .i64 0, .bool false, .slice none 0 0, .bool false, .slice none 0 0, .int .i64 0, .int .i64 0, .slice none 0 0, .slice none 0 0, .slice image_a image_b.length image_c], .agg #[.int .i64 8, .int .i64 txn, .int .i64 prev, .int .i64 page, .int .i64 slot, .bool before_used, .slice before_data_a before_data_b.length before_data_c, .bool after_used, .slice after_data_a after_data_b.length after_data_c, .int .i64 undoNext, .int .i64 nextTxn, .slice txns_a txns_n txns_c, .slice dirty_a dirty_n dirty_c, .slice image_a image_b.length image_c]] w fun e w' => e = .returned (.bool (alone8 txn prev page slot before_used before_data_b after_used after_data_b undoNext nextTxn txns_b dirty_b image_b)) ∧ Same w w' := by
  have hlt := hrt.2.1
  have hld := hrd.2.1
  dsimp only at hlt hld
  have e1 : txns_b.length / 4 = txns_n := by omega
  have e2 : dirty_b.length / 2 = dirty_n := by omega
  have hmt := hrt.1
  have hmd := hrd.1
  dsimp only at hmt hmd
  have hbefore : ∀ wx, Same w wx → Calls Try.prog 56 #[.agg #[.bool false, .slice none 0 0], .agg #[.bool before_used, .slice before_data_a before_data_b.length before_data_c]] wx fun e w' => e = .returned (.bool (false == before_used && decide ([] = before_data_b))) ∧ Same wx w' := fun wx hk => sameSlots_any ⟨false, ⟨0, none, 0, []⟩⟩ ⟨before_used, ⟨0, before_data_a, before_data_c, before_data_b⟩⟩ wx (fun x hx => by simp at hx) hBb ((rd_nil w).same hk) (hrb.same hk)
  have hafter : ∀ wx, Same w wx → Calls Try.prog 56 #[.agg #[.bool false, .slice none 0 0], .agg #[.bool after_used, .slice after_data_a after_data_b.length after_data_c]] wx fun e w' => e = .returned (.bool (false == after_used && decide ([] = after_data_b))) ∧ Same wx w' := fun wx hk => sameSlots_any ⟨false, ⟨0, none, 0, []⟩⟩ ⟨after_used, ⟨0, after_data_a, after_data_c, after_data_b⟩⟩ wx (fun x hx => by simp at hx) hBa ((rd_nil w).same hk) (hra.same hk)
  have htxns : ∀ wx, Same w wx → Calls Try.prog 57 #[.slice none 0 0, .slice txns_a txns_n txns_c] wx fun e w' => e = .returned (.bool (decide (txns_b.length / 4 = 0))) ∧ Same wx w' := fun wx hk => by rw [e1]; exact sameTxnEntry_nil txns_a txns_n txns_c wx hmt
  have hdirty : ∀ wx, Same w wx → Calls Try.prog 58 #[.slice none 0 0, .slice dirty_a dirty_n dirty_c] wx fun e w' => e = .returned (.bool (decide (dirty_b.length / 2 = 0))) ∧ Same wx w' := fun wx hk => by rw [e2]; exact sameDirtyEntry_nil dirty_a dirty_n dirty_c wx hmd
  have himage : ∀ wx, Same w wx → Calls Try.prog 59 #[.slice image_a image_b.length image_c, .slice image_a image_b.length image_c] wx fun e w' => e = .returned (.bool true) ∧ Same wx w' := fun wx hk => by have h := bytesEq_any _ _ image_b image_b wx hBi hBi (hri.same hk) (hri.same hk); simpa using h
  unfold alone8
  clear hrb hra hri hrt hrd hBb hBa hBi e1 e2 hlt hld hmt hmd hnt hnd
  generalize (false == before_used && decide ([] = before_data_b)) = B_before at *
  generalize (false == after_used && decide ([] = after_data_b)) = B_after at *
  generalize decide (txns_b.length / 4 = 0) = B_txns at *
  generalize decide (dirty_b.length / 2 = 0) = B_dirty at *
  by_cases qtxn : 0 = txn
  case neg =>
    rw [decide_eq_false qtxn]
    simp only [Bool.false_and, Bool.and_false]
    exact sameRecords_1 _ _ _ _ _ _ _ _ _ _ _ _ _ _ _ _ _ _ _ _ _ _ _ _ _ _ _ _ _ _ _ _ _ _ _ _ _ _ _ _ _ _ _ _ _ _ _ _ w rfl qtxn
  rw [decide_eq_true qtxn]
  by_cases qprev : 0 = prev
  case neg =>
    rw [decide_eq_false qprev]
    simp only [Bool.false_and, Bool.and_false]
    exact sameRecords_2 _ _ _ _ _ _ _ _ _ _ _ _ _ _ _ _ _ _ _ _ _ _ _ _ _ _ _ _ _ _ _ _ _ _ _ _ _ _ _ _ _ _ _ _ _ _ _ _ w rfl qtxn qprev
  rw [decide_eq_true qprev]
  by_cases qslot : 0 = slot
  case neg =>
    rw [decide_eq_false qslot]
    simp only [Bool.false_and, Bool.and_false]
    exact sameRecords_4 _ _ _ _ _ _ _ _ _ _ _ _ _ _ _ _ _ _ _ _ _ _ _ _ _ _ _ _ _ _ _ _ _ _ _ _ _ _ _ _ _ _ _ _ _ _ _ _ w rfl qtxn qprev rfl qslot
  rw [decide_eq_true qslot]
  cases B_before with
  | false =>
    simp only [Bool.false_and, Bool.and_false]
    exact sameRecords_5 _ _ _ _ _ _ _ _ _ _ _ _ _ _ _ _ _ _ _ _ _ _ _ _ _ _ _ _ _ _ _ _ _ _ _ _ _ _ _ _ _ _ _ _ _ _ _ _ w rfl qtxn qprev rfl qslot hbefore
  | true =>
  cases B_after with
  | false =>
    simp only [Bool.false_and, Bool.and_false]
    exact sameRecords_6 _ _ _ _ _ _ _ _ _ _ _ _ _ _ _ _ _ _ _ _ _ _ _ _ _ _ _ _ _ _ _ _ _ _ _ _ _ _ _ _ _ _ _ _ _ _ _ _ w rfl qtxn qprev rfl qslot hbefore hafter
  | true =>
  by_cases qundoNext : 0 = undoNext
  case neg =>
    rw [decide_eq_false qundoNext]
    simp only [Bool.false_and, Bool.and_false]
    exact sameRecords_7 _ _ _ _ _ _ _ _ _ _ _ _ _ _ _ _ _ _ _ _ _ _ _ _ _ _ _ _ _ _ _ _ _ _ _ _ _ _ _ _ _ _ _ _ _ _ _ _ w rfl qtxn qprev rfl qslot qundoNext hbefore hafter
  rw [decide_eq_true qundoNext]
  by_cases qnextTxn : 0 = nextTxn
  case neg =>
    rw [decide_eq_false qnextTxn]
    simp only [Bool.false_and, Bool.and_false]
    exact sameRecords_8 _ _ _ _ _ _ _ _ _ _ _ _ _ _ _ _ _ _ _ _ _ _ _ _ _ _ _ _ _ _ _ _ _ _ _ _ _ _ _ _ _ _ _ _ _ _ _ _ w rfl qtxn qprev rfl qslot qundoNext qnextTxn hbefore hafter
  rw [decide_eq_true qnextTxn]
  cases B_txns with
  | false =>
    simp only [Bool.false_and, Bool.and_false]
    exact sameRecords_9 _ _ _ _ _ _ _ _ _ _ _ _ _ _ _ _ _ _ _ _ _ _ _ _ _ _ _ _ _ _ _ _ _ _ _ _ _ _ _ _ _ _ _ _ _ _ _ _ w rfl qtxn qprev rfl qslot qundoNext qnextTxn hbefore hafter htxns
  | true =>
  cases B_dirty with
  | false =>
    simp only [Bool.false_and, Bool.and_false]
    exact sameRecords_10 _ _ _ _ _ _ _ _ _ _ _ _ _ _ _ _ _ _ _ _ _ _ _ _ _ _ _ _ _ _ _ _ _ _ _ _ _ _ _ _ _ _ _ _ _ _ _ _ w rfl qtxn qprev rfl qslot qundoNext qnextTxn hbefore hafter htxns hdirty
  | true =>
  simp only [Bool.and_true, Bool.and_self]
  exact sameRecords_12 _ _ _ _ _ _ _ _ _ _ _ _ _ _ _ _ _ _ _ _ _ _ _ _ _ _ _ _ _ _ _ _ _ _ _ _ _ _ _ _ _ _ _ _ _ _ _ _ w rfl qtxn qprev rfl qslot qundoNext qnextTxn hbefore hafter htxns hdirty himage
end Go.Proofs.Ytclmdpmelifplab
