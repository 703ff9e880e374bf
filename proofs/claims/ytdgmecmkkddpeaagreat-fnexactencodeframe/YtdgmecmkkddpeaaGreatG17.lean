import Derived.Test.YtdgmecmkkddpeaaGreatG16
import Derived.Deep.RegionWith
import Derived.Deep.DeepMust
namespace Go.Proofs.YtdgmecmkkddpeaaGreat
set_option maxRecDepth 100000
set_option maxHeartbeats 4000000
set_option linter.unusedVariables false
set_option linter.unusedSimpArgs false
open Go.RowKit
theorem rd_nil (w : World) : Rd .u8 w (.slice none 0 0) [] := ⟨Nat.zero_le _, .inl ⟨rfl, none, 0, rfl, fun _ => rfl⟩⟩
theorem same_1 (txn : Int) (prev : Int) (page : Int) (slot : Int) (bU : Bool) (bDa : Option Addr) (bDc : Nat) (bDb : List Int) (aU : Bool) (aDa : Option Addr) (aDc : Nat) (aDb : List Int) (uN : Int) (nT : Int) (tXe : TypeId) (tXa : Option Addr) (tXn tXc : Nat) (tXb : List Int) (dYe : TypeId) (dYa : Option Addr) (dYn dYc : Nat) (dYb : List Int) (iMa : Option Addr) (iMc : Nat) (iMb : List Int) (w : World) (hBb : IsB bDb) (hBa : IsB aDb) (hBi : IsB iMb) (hrb : Rd .u8 w (.slice bDa bDb.length bDc) bDb) (hra : Rd .u8 w (.slice aDa aDb.length aDc) aDb) (hri : Rd .u8 w (.slice iMa iMb.length iMc) iMb) (hrt : RdF 4 w ⟨tXe, tXa, tXn, tXc, tXb⟩) (hrd : RdF 2 w ⟨dYe, dYa, dYn, dYc, dYb⟩) (hnt : tXn ≤ 1125899906842624) (hnd : dYn ≤ 1125899906842624) :
  Calls Tryz.prog 56 #[.agg #[.int .i64 1, .int .i64 txn, .int .i64 prev, .int .i64 page, .int .i64 slot, .bool bU, .slice bDa bDb.length bDc, .bool aU, .slice aDa aDb.length aDc, .int .i64 0, .int .i64 0, .slice none 0 0, .slice none 0 0, .slice none 0 0], .agg #[.int .i64 1, .int .i64 txn, .int .i64 prev, .int .i64 page, .int .i64 slot, .bool bU, .slice bDa bDb.length bDc, .bool aU, .slice aDa aDb.length aDc, .int .i64 uN, .int .i64 nT, .slice tXa tXn tXc, .slice dYa dYn dYc, .slice iMa iMb.length iMc]] w fun e w' => e = .returned (.bool (alone1 txn prev page slot bU bDb aU aDb uN nT tXb dYb iMb)) ∧ Same w w' := by
 have hlt := hrt.2.1
 have hld := hrd.2.1
 dsimp only at hlt hld
 have e1 : tXb.length / 4 = tXn := by omega
 have e2 : dYb.length / 2 = dYn := by omega
 have hmt := hrt.1
 have hmd := hrd.1
 dsimp only at hmt hmd
 have hbefore : ∀ wx, Same w wx → Calls Tryz.prog 62 #[.agg #[.bool bU, .slice bDa bDb.length bDc], .agg #[.bool bU, .slice bDa bDb.length bDc]] wx fun e w' => e = .returned (.bool true) ∧ Same wx w' := fun wx hk => by
  have h := sameSlots_any ⟨bU, ⟨0, bDa, bDc, bDb⟩⟩ ⟨bU, ⟨0, bDa, bDc, bDb⟩⟩ wx hBb hBb (hrb.same hk) (hrb.same hk)
  simpa [StPageRecord.val, BS.v] using h
 have hafter : ∀ wx, Same w wx → Calls Tryz.prog 62 #[.agg #[.bool aU, .slice aDa aDb.length aDc], .agg #[.bool aU, .slice aDa aDb.length aDc]] wx fun e w' => e = .returned (.bool true) ∧ Same wx w' := fun wx hk => by
  have h := sameSlots_any ⟨aU, ⟨0, aDa, aDc, aDb⟩⟩ ⟨aU, ⟨0, aDa, aDc, aDb⟩⟩ wx hBa hBa (hra.same hk) (hra.same hk)
  simpa [StPageRecord.val, BS.v] using h
 have htxns : ∀ wx, Same w wx → Calls Tryz.prog 63 #[.slice none 0 0, .slice tXa tXn tXc] wx fun e w' => e = .returned (.bool (decide (tXb.length / 4 = 0))) ∧ Same wx w' := fun wx hk => by rw [e1]; exact sameTxnEntry_nil tXa tXn tXc wx hmt
 have hdirty : ∀ wx, Same w wx → Calls Tryz.prog 64 #[.slice none 0 0, .slice dYa dYn dYc] wx fun e w' => e = .returned (.bool (decide (dYb.length / 2 = 0))) ∧ Same wx w' := fun wx hk => by rw [e2]; exact sameDirtyEntry_nil dYa dYn dYc wx hmd
 have himage : ∀ wx, Same w wx → Calls Tryz.prog 65 #[.slice none 0 0, .slice iMa iMb.length iMc] wx fun e w' => e = .returned (.bool (decide ([] = iMb))) ∧ Same wx w' := fun wx hk => bytesEq_any _ _ [] iMb wx (fun x hx => by simp at hx) hBi ((rd_nil w).same hk) (hri.same hk)
 unfold alone1
 clear hrb hra hri hrt hrd hBb hBa hBi e1 e2 hlt hld hmt hmd hnt hnd
 generalize decide (tXb.length / 4 = 0) = B_txns at *
 generalize decide (dYb.length / 2 = 0) = B_dirty at *
 generalize decide ([] = iMb) = B_image at *
 by_cases quN : 0 = uN
 case neg =>
  rw [decide_eq_false quN]
  simp only [Bool.false_and, Bool.and_false]
  exact sameRecords_7 _ _ _ _ _ _ _ _ _ _ _ _ _ _ _ _ _ _ _ _ _ _ _ _ _ _ _ _ _ _ _ _ _ _ _ _ _ _ _ _ _ _ _ _ _ _ _ _ w rfl rfl rfl rfl rfl quN hbefore hafter
 rw [decide_eq_true quN]
 by_cases qnT : 0 = nT
 case neg =>
  rw [decide_eq_false qnT]
  simp only [Bool.false_and, Bool.and_false]
  exact sameRecords_8 _ _ _ _ _ _ _ _ _ _ _ _ _ _ _ _ _ _ _ _ _ _ _ _ _ _ _ _ _ _ _ _ _ _ _ _ _ _ _ _ _ _ _ _ _ _ _ _ w rfl rfl rfl rfl rfl quN qnT hbefore hafter
 rw [decide_eq_true qnT]
 cases B_txns with
 | false =>
  simp only [Bool.false_and, Bool.and_false]
  exact sameRecords_9 _ _ _ _ _ _ _ _ _ _ _ _ _ _ _ _ _ _ _ _ _ _ _ _ _ _ _ _ _ _ _ _ _ _ _ _ _ _ _ _ _ _ _ _ _ _ _ _ w rfl rfl rfl rfl rfl quN qnT hbefore hafter htxns
 | true =>
 cases B_dirty with
 | false =>
  simp only [Bool.false_and, Bool.and_false]
  exact sameRecords_10 _ _ _ _ _ _ _ _ _ _ _ _ _ _ _ _ _ _ _ _ _ _ _ _ _ _ _ _ _ _ _ _ _ _ _ _ _ _ _ _ _ _ _ _ _ _ _ _ w rfl rfl rfl rfl rfl quN qnT hbefore hafter htxns hdirty
 | true =>
 cases B_image with
 | false =>
  simp only [Bool.false_and, Bool.and_false]
  exact sameRecords_11 _ _ _ _ _ _ _ _ _ _ _ _ _ _ _ _ _ _ _ _ _ _ _ _ _ _ _ _ _ _ _ _ _ _ _ _ _ _ _ _ _ _ _ _ _ _ _ _ w rfl rfl rfl rfl rfl quN qnT hbefore hafter htxns hdirty himage
 | true =>
 simp only [Bool.and_true, Bool.and_self]
 exact sameRecords_12 _ _ _ _ _ _ _ _ _ _ _ _ _ _ _ _ _ _ _ _ _ _ _ _ _ _ _ _ _ _ _ _ _ _ _ _ _ _ _ _ _ _ _ _ _ _ _ _ w rfl rfl rfl rfl rfl quN qnT hbefore hafter htxns hdirty himage
theorem same_2 (txn : Int) (prev : Int) (page : Int) (slot : Int) (bU : Bool) (bDa : Option Addr) (bDc : Nat) (bDb : List Int) (aU : Bool) (aDa : Option Addr) (aDc : Nat) (aDb : List Int) (uN : Int) (nT : Int) (tXe : TypeId) (tXa : Option Addr) (tXn tXc : Nat) (tXb : List Int) (dYe : TypeId) (dYa : Option Addr) (dYn dYc : Nat) (dYb : List Int) (iMa : Option Addr) (iMc : Nat) (iMb : List Int) (w : World) (hBb : IsB bDb) (hBa : IsB aDb) (hBi : IsB iMb) (hrb : Rd .u8 w (.slice bDa bDb.length bDc) bDb) (hra : Rd .u8 w (.slice aDa aDb.length aDc) aDb) (hri : Rd .u8 w (.slice iMa iMb.length iMc) iMb) (hrt : RdF 4 w ⟨tXe, tXa, tXn, tXc, tXb⟩) (hrd : RdF 2 w ⟨dYe, dYa, dYn, dYc, dYb⟩) (hnt : tXn ≤ 1125899906842624) (hnd : dYn ≤ 1125899906842624) :
  Calls Tryz.prog 56 #[.agg #[.int .i64 2, .int .i64 txn, .int .i64 prev, .int .i64 page, .int .i64 slot, .bool false, .slice none 0 0, .bool aU, .slice aDa aDb.length aDc, .int .i64 uN, .int .i64 0, .slice none 0 0, .slice none 0 0, .slice none 0 0], .agg #[.int .i64 2, .int .i64 txn, .int .i64 prev, .int .i64 page, .int .i64 slot, .bool bU, .slice bDa bDb.length bDc, .bool aU, .slice aDa aDb.length aDc, .int .i64 uN, .int .i64 nT, .slice tXa tXn tXc, .slice dYa dYn dYc, .slice iMa iMb.length iMc]] w fun e w' => e = .returned (.bool (alone2 txn prev page slot bU bDb aU aDb uN nT tXb dYb iMb)) ∧ Same w w' := by
 have hlt := hrt.2.1
 have hld := hrd.2.1
 dsimp only at hlt hld
 have e1 : tXb.length / 4 = tXn := by omega
 have e2 : dYb.length / 2 = dYn := by omega
 have hmt := hrt.1
 have hmd := hrd.1
 dsimp only at hmt hmd
 have hbefore : ∀ wx, Same w wx → Calls Tryz.prog 62 #[.agg #[.bool false, .slice none 0 0], .agg #[.bool bU, .slice bDa bDb.length bDc]] wx fun e w' => e = .returned (.bool (false == bU && decide ([] = bDb))) ∧ Same wx w' := fun wx hk => sameSlots_any ⟨false, ⟨0, none, 0, []⟩⟩ ⟨bU, ⟨0, bDa, bDc, bDb⟩⟩ wx (fun x hx => by simp at hx) hBb ((rd_nil w).same hk) (hrb.same hk)
 have hafter : ∀ wx, Same w wx → Calls Tryz.prog 62 #[.agg #[.bool aU, .slice aDa aDb.length aDc], .agg #[.bool aU, .slice aDa aDb.length aDc]] wx fun e w' => e = .returned (.bool true) ∧ Same wx w' := fun wx hk => by
  have h := sameSlots_any ⟨aU, ⟨0, aDa, aDc, aDb⟩⟩ ⟨aU, ⟨0, aDa, aDc, aDb⟩⟩ wx hBa hBa (hra.same hk) (hra.same hk)
  simpa [StPageRecord.val, BS.v] using h
 have htxns : ∀ wx, Same w wx → Calls Tryz.prog 63 #[.slice none 0 0, .slice tXa tXn tXc] wx fun e w' => e = .returned (.bool (decide (tXb.length / 4 = 0))) ∧ Same wx w' := fun wx hk => by rw [e1]; exact sameTxnEntry_nil tXa tXn tXc wx hmt
 have hdirty : ∀ wx, Same w wx → Calls Tryz.prog 64 #[.slice none 0 0, .slice dYa dYn dYc] wx fun e w' => e = .returned (.bool (decide (dYb.length / 2 = 0))) ∧ Same wx w' := fun wx hk => by rw [e2]; exact sameDirtyEntry_nil dYa dYn dYc wx hmd
 have himage : ∀ wx, Same w wx → Calls Tryz.prog 65 #[.slice none 0 0, .slice iMa iMb.length iMc] wx fun e w' => e = .returned (.bool (decide ([] = iMb))) ∧ Same wx w' := fun wx hk => bytesEq_any _ _ [] iMb wx (fun x hx => by simp at hx) hBi ((rd_nil w).same hk) (hri.same hk)
 unfold alone2
 clear hrb hra hri hrt hrd hBb hBa hBi e1 e2 hlt hld hmt hmd hnt hnd
 generalize (false == bU && decide ([] = bDb)) = B_before at *
 generalize decide (tXb.length / 4 = 0) = B_txns at *
 generalize decide (dYb.length / 2 = 0) = B_dirty at *
 generalize decide ([] = iMb) = B_image at *
 cases B_before with
 | false =>
  simp only [Bool.false_and, Bool.and_false]
  exact sameRecords_5 _ _ _ _ _ _ _ _ _ _ _ _ _ _ _ _ _ _ _ _ _ _ _ _ _ _ _ _ _ _ _ _ _ _ _ _ _ _ _ _ _ _ _ _ _ _ _ _ w rfl rfl rfl rfl rfl hbefore
 | true =>
 by_cases qnT : 0 = nT
 case neg =>
  rw [decide_eq_false qnT]
  simp only [Bool.false_and, Bool.and_false]
  exact sameRecords_8 _ _ _ _ _ _ _ _ _ _ _ _ _ _ _ _ _ _ _ _ _ _ _ _ _ _ _ _ _ _ _ _ _ _ _ _ _ _ _ _ _ _ _ _ _ _ _ _ w rfl rfl rfl rfl rfl rfl qnT hbefore hafter
 rw [decide_eq_true qnT]
 cases B_txns with
 | false =>
  simp only [Bool.false_and, Bool.and_false]
  exact sameRecords_9 _ _ _ _ _ _ _ _ _ _ _ _ _ _ _ _ _ _ _ _ _ _ _ _ _ _ _ _ _ _ _ _ _ _ _ _ _ _ _ _ _ _ _ _ _ _ _ _ w rfl rfl rfl rfl rfl rfl qnT hbefore hafter htxns
 | true =>
 cases B_dirty with
 | false =>
  simp only [Bool.false_and, Bool.and_false]
  exact sameRecords_10 _ _ _ _ _ _ _ _ _ _ _ _ _ _ _ _ _ _ _ _ _ _ _ _ _ _ _ _ _ _ _ _ _ _ _ _ _ _ _ _ _ _ _ _ _ _ _ _ w rfl rfl rfl rfl rfl rfl qnT hbefore hafter htxns hdirty
 | true =>
 cases B_image with
 | false =>
  simp only [Bool.false_and, Bool.and_false]
  exact sameRecords_11 _ _ _ _ _ _ _ _ _ _ _ _ _ _ _ _ _ _ _ _ _ _ _ _ _ _ _ _ _ _ _ _ _ _ _ _ _ _ _ _ _ _ _ _ _ _ _ _ w rfl rfl rfl rfl rfl rfl qnT hbefore hafter htxns hdirty himage
 | true =>
 simp only [Bool.and_true, Bool.and_self]
 exact sameRecords_12 _ _ _ _ _ _ _ _ _ _ _ _ _ _ _ _ _ _ _ _ _ _ _ _ _ _ _ _ _ _ _ _ _ _ _ _ _ _ _ _ _ _ _ _ _ _ _ _ w rfl rfl rfl rfl rfl rfl qnT hbefore hafter htxns hdirty himage
theorem same_3 (txn : Int) (prev : Int) (page : Int) (slot : Int) (bU : Bool) (bDa : Option Addr) (bDc : Nat) (bDb : List Int) (aU : Bool) (aDa : Option Addr) (aDc : Nat) (aDb : List Int) (uN : Int) (nT : Int) (tXe : TypeId) (tXa : Option Addr) (tXn tXc : Nat) (tXb : List Int) (dYe : TypeId) (dYa : Option Addr) (dYn dYc : Nat) (dYb : List Int) (iMa : Option Addr) (iMc : Nat) (iMb : List Int) (w : World) (hBb : IsB bDb) (hBa : IsB aDb) (hBi : IsB iMb) (hrb : Rd .u8 w (.slice bDa bDb.length bDc) bDb) (hra : Rd .u8 w (.slice aDa aDb.length aDc) aDb) (hri : Rd .u8 w (.slice iMa iMb.length iMc) iMb) (hrt : RdF 4 w ⟨tXe, tXa, tXn, tXc, tXb⟩) (hrd : RdF 2 w ⟨dYe, dYa, dYn, dYc, dYb⟩) (hnt : tXn ≤ 1125899906842624) (hnd : dYn ≤ 1125899906842624) :
  Calls Tryz.prog 56 #[.agg #[.int .i64 3, .int .i64 txn, .int .i64 prev, .int .i64 0, .int .i64 0, .bool false, .slice none 0 0, .bool false, .slice none 0 0, .int .i64 0, .int .i64 0, .slice none 0 0, .slice none 0 0, .slice none 0 0], .agg #[.int .i64 3, .int .i64 txn, .int .i64 prev, .int .i64 page, .int .i64 slot, .bool bU, .slice bDa bDb.length bDc, .bool aU, .slice aDa aDb.length aDc, .int .i64 uN, .int .i64 nT, .slice tXa tXn tXc, .slice dYa dYn dYc, .slice iMa iMb.length iMc]] w fun e w' => e = .returned (.bool (alone3 txn prev page slot bU bDb aU aDb uN nT tXb dYb iMb)) ∧ Same w w' := by
 have hlt := hrt.2.1
 have hld := hrd.2.1
 dsimp only at hlt hld
 have e1 : tXb.length / 4 = tXn := by omega
 have e2 : dYb.length / 2 = dYn := by omega
 have hmt := hrt.1
 have hmd := hrd.1
 dsimp only at hmt hmd
 have hbefore : ∀ wx, Same w wx → Calls Tryz.prog 62 #[.agg #[.bool false, .slice none 0 0], .agg #[.bool bU, .slice bDa bDb.length bDc]] wx fun e w' => e = .returned (.bool (false == bU && decide ([] = bDb))) ∧ Same wx w' := fun wx hk => sameSlots_any ⟨false, ⟨0, none, 0, []⟩⟩ ⟨bU, ⟨0, bDa, bDc, bDb⟩⟩ wx (fun x hx => by simp at hx) hBb ((rd_nil w).same hk) (hrb.same hk)
 have hafter : ∀ wx, Same w wx → Calls Tryz.prog 62 #[.agg #[.bool false, .slice none 0 0], .agg #[.bool aU, .slice aDa aDb.length aDc]] wx fun e w' => e = .returned (.bool (false == aU && decide ([] = aDb))) ∧ Same wx w' := fun wx hk => sameSlots_any ⟨false, ⟨0, none, 0, []⟩⟩ ⟨aU, ⟨0, aDa, aDc, aDb⟩⟩ wx (fun x hx => by simp at hx) hBa ((rd_nil w).same hk) (hra.same hk)
 have htxns : ∀ wx, Same w wx → Calls Tryz.prog 63 #[.slice none 0 0, .slice tXa tXn tXc] wx fun e w' => e = .returned (.bool (decide (tXb.length / 4 = 0))) ∧ Same wx w' := fun wx hk => by rw [e1]; exact sameTxnEntry_nil tXa tXn tXc wx hmt
 have hdirty : ∀ wx, Same w wx → Calls Tryz.prog 64 #[.slice none 0 0, .slice dYa dYn dYc] wx fun e w' => e = .returned (.bool (decide (dYb.length / 2 = 0))) ∧ Same wx w' := fun wx hk => by rw [e2]; exact sameDirtyEntry_nil dYa dYn dYc wx hmd
 have himage : ∀ wx, Same w wx → Calls Tryz.prog 65 #[.slice none 0 0, .slice iMa iMb.length iMc] wx fun e w' => e = .returned (.bool (decide ([] = iMb))) ∧ Same wx w' := fun wx hk => bytesEq_any _ _ [] iMb wx (fun x hx => by simp at hx) hBi ((rd_nil w).same hk) (hri.same hk)
 unfold alone3
 clear hrb hra hri hrt hrd hBb hBa hBi e1 e2 hlt hld hmt hmd hnt hnd
 generalize (false == bU && decide ([] = bDb)) = B_before at *
 generalize (false == aU && decide ([] = aDb)) = B_after at *
 generalize decide (tXb.length / 4 = 0) = B_txns at *
 generalize decide (dYb.length / 2 = 0) = B_dirty at *
 generalize decide ([] = iMb) = B_image at *
 by_cases qpage : 0 = page
 case neg =>
  rw [decide_eq_false qpage]
  simp only [Bool.false_and, Bool.and_false]
  exact sameRecords_3 _ _ _ _ _ _ _ _ _ _ _ _ _ _ _ _ _ _ _ _ _ _ _ _ _ _ _ _ _ _ _ _ _ _ _ _ _ _ _ _ _ _ _ _ _ _ _ _ w rfl rfl rfl qpage
 rw [decide_eq_true qpage]
 by_cases qslot : 0 = slot
 case neg =>
  rw [decide_eq_false qslot]
  simp only [Bool.false_and, Bool.and_false]
  exact sameRecords_4 _ _ _ _ _ _ _ _ _ _ _ _ _ _ _ _ _ _ _ _ _ _ _ _ _ _ _ _ _ _ _ _ _ _ _ _ _ _ _ _ _ _ _ _ _ _ _ _ w rfl rfl rfl qpage qslot
 rw [decide_eq_true qslot]
 cases B_before with
 | false =>
  simp only [Bool.false_and, Bool.and_false]
  exact sameRecords_5 _ _ _ _ _ _ _ _ _ _ _ _ _ _ _ _ _ _ _ _ _ _ _ _ _ _ _ _ _ _ _ _ _ _ _ _ _ _ _ _ _ _ _ _ _ _ _ _ w rfl rfl rfl qpage qslot hbefore
 | true =>
 cases B_after with
 | false =>
  simp only [Bool.false_and, Bool.and_false]
  exact sameRecords_6 _ _ _ _ _ _ _ _ _ _ _ _ _ _ _ _ _ _ _ _ _ _ _ _ _ _ _ _ _ _ _ _ _ _ _ _ _ _ _ _ _ _ _ _ _ _ _ _ w rfl rfl rfl qpage qslot hbefore hafter
 | true =>
 by_cases quN : 0 = uN
 case neg =>
  rw [decide_eq_false quN]
  simp only [Bool.false_and, Bool.and_false]
  exact sameRecords_7 _ _ _ _ _ _ _ _ _ _ _ _ _ _ _ _ _ _ _ _ _ _ _ _ _ _ _ _ _ _ _ _ _ _ _ _ _ _ _ _ _ _ _ _ _ _ _ _ w rfl rfl rfl qpage qslot quN hbefore hafter
 rw [decide_eq_true quN]
 by_cases qnT : 0 = nT
 case neg =>
  rw [decide_eq_false qnT]
  simp only [Bool.false_and, Bool.and_false]
  exact sameRecords_8 _ _ _ _ _ _ _ _ _ _ _ _ _ _ _ _ _ _ _ _ _ _ _ _ _ _ _ _ _ _ _ _ _ _ _ _ _ _ _ _ _ _ _ _ _ _ _ _ w rfl rfl rfl qpage qslot quN qnT hbefore hafter
 rw [decide_eq_true qnT]
 cases B_txns with
 | false =>
  simp only [Bool.false_and, Bool.and_false]
  exact sameRecords_9 _ _ _ _ _ _ _ _ _ _ _ _ _ _ _ _ _ _ _ _ _ _ _ _ _ _ _ _ _ _ _ _ _ _ _ _ _ _ _ _ _ _ _ _ _ _ _ _ w rfl rfl rfl qpage qslot quN qnT hbefore hafter htxns
 | true =>
 cases B_dirty with
 | false =>
  simp only [Bool.false_and, Bool.and_false]
  exact sameRecords_10 _ _ _ _ _ _ _ _ _ _ _ _ _ _ _ _ _ _ _ _ _ _ _ _ _ _ _ _ _ _ _ _ _ _ _ _ _ _ _ _ _ _ _ _ _ _ _ _ w rfl rfl rfl qpage qslot quN qnT hbefore hafter htxns hdirty
 | true =>
 cases B_image with
 | false =>
  simp only [Bool.false_and, Bool.and_false]
  exact sameRecords_11 _ _ _ _ _ _ _ _ _ _ _ _ _ _ _ _ _ _ _ _ _ _ _ _ _ _ _ _ _ _ _ _ _ _ _ _ _ _ _ _ _ _ _ _ _ _ _ _ w rfl rfl rfl qpage qslot quN qnT hbefore hafter htxns hdirty himage
 | true =>
 simp only [Bool.and_true, Bool.and_self]
 exact sameRecords_12 _ _ _ _ _ _ _ _ _ _ _ _ _ _ _ _ _ _ _ _ _ _ _ _ _ _ _ _ _ _ _ _ _ _ _ _ _ _ _ _ _ _ _ _ _ _ _ _ w rfl rfl rfl qpage qslot quN qnT hbefore hafter htxns hdirty himage
theorem same_4 (txn : Int) (prev : Int) (page : Int) (slot : Int) (bU : Bool) (bDa : Option Addr) (bDc : Nat) (bDb : List Int) (aU : Bool) (aDa : Option Addr) (aDc : Nat) (aDb : List Int) (uN : Int) (nT : Int) (tXe : TypeId) (tXa : Option Addr) (tXn tXc : Nat) (tXb : List Int) (dYe : TypeId) (dYa : Option Addr) (dYn dYc : Nat) (dYb : List Int) (iMa : Option Addr) (iMc : Nat) (iMb : List Int) (w : World) (hBb : IsB bDb) (hBa : IsB aDb) (hBi : IsB iMb) (hrb : Rd .u8 w (.slice bDa bDb.length bDc) bDb) (hra : Rd .u8 w (.slice aDa aDb.length aDc) aDb) (hri : Rd .u8 w (.slice iMa iMb.length iMc) iMb) (hrt : RdF 4 w ⟨tXe, tXa, tXn, tXc, tXb⟩) (hrd : RdF 2 w ⟨dYe, dYa, dYn, dYc, dYb⟩) (hnt : tXn ≤ 1125899906842624) (hnd : dYn ≤ 1125899906842624) :
  Calls Tryz.prog 56 #[.agg #[.int .i64 4, .int .i64 txn, .int .i64 prev, .int .i64 0, .int .i64 0, .bool false, .slice none 0 0, .bool false, .slice none 0 0, .int .i64 0, .int .i64 0, .slice none 0 0, .slice none 0 0, .slice none 0 0], .agg #[.int .i64 4, .int .i64 txn, .int .i64 prev, .int .i64 page, .int .i64 slot, .bool bU, .slice bDa bDb.length bDc, .bool aU, .slice aDa aDb.length aDc, .int .i64 uN, .int .i64 nT, .slice tXa tXn tXc, .slice dYa dYn dYc, .slice iMa iMb.length iMc]] w fun e w' => e = .returned (.bool (alone4 txn prev page slot bU bDb aU aDb uN nT tXb dYb iMb)) ∧ Same w w' := by
 have hlt := hrt.2.1
 have hld := hrd.2.1
 dsimp only at hlt hld
 have e1 : tXb.length / 4 = tXn := by omega
 have e2 : dYb.length / 2 = dYn := by omega
 have hmt := hrt.1
 have hmd := hrd.1
 dsimp only at hmt hmd
 have hbefore : ∀ wx, Same w wx → Calls Tryz.prog 62 #[.agg #[.bool false, .slice none 0 0], .agg #[.bool bU, .slice bDa bDb.length bDc]] wx fun e w' => e = .returned (.bool (false == bU && decide ([] = bDb))) ∧ Same wx w' := fun wx hk => sameSlots_any ⟨false, ⟨0, none, 0, []⟩⟩ ⟨bU, ⟨0, bDa, bDc, bDb⟩⟩ wx (fun x hx => by simp at hx) hBb ((rd_nil w).same hk) (hrb.same hk)
 have hafter : ∀ wx, Same w wx → Calls Tryz.prog 62 #[.agg #[.bool false, .slice none 0 0], .agg #[.bool aU, .slice aDa aDb.length aDc]] wx fun e w' => e = .returned (.bool (false == aU && decide ([] = aDb))) ∧ Same wx w' := fun wx hk => sameSlots_any ⟨false, ⟨0, none, 0, []⟩⟩ ⟨aU, ⟨0, aDa, aDc, aDb⟩⟩ wx (fun x hx => by simp at hx) hBa ((rd_nil w).same hk) (hra.same hk)
 have htxns : ∀ wx, Same w wx → Calls Tryz.prog 63 #[.slice none 0 0, .slice tXa tXn tXc] wx fun e w' => e = .returned (.bool (decide (tXb.length / 4 = 0))) ∧ Same wx w' := fun wx hk => by rw [e1]; exact sameTxnEntry_nil tXa tXn tXc wx hmt
 have hdirty : ∀ wx, Same w wx → Calls Tryz.prog 64 #[.slice none 0 0, .slice dYa dYn dYc] wx fun e w' => e = .returned (.bool (decide (dYb.length / 2 = 0))) ∧ Same wx w' := fun wx hk => by rw [e2]; exact sameDirtyEntry_nil dYa dYn dYc wx hmd
 have himage : ∀ wx, Same w wx → Calls Tryz.prog 65 #[.slice none 0 0, .slice iMa iMb.length iMc] wx fun e w' => e = .returned (.bool (decide ([] = iMb))) ∧ Same wx w' := fun wx hk => bytesEq_any _ _ [] iMb wx (fun x hx => by simp at hx) hBi ((rd_nil w).same hk) (hri.same hk)
 unfold alone4
 clear hrb hra hri hrt hrd hBb hBa hBi e1 e2 hlt hld hmt hmd hnt hnd
 generalize (false == bU && decide ([] = bDb)) = B_before at *
 generalize (false == aU && decide ([] = aDb)) = B_after at *
 generalize decide (tXb.length / 4 = 0) = B_txns at *
 generalize decide (dYb.length / 2 = 0) = B_dirty at *
 generalize decide ([] = iMb) = B_image at *
 by_cases qpage : 0 = page
 case neg =>
  rw [decide_eq_false qpage]
  simp only [Bool.false_and, Bool.and_false]
  exact sameRecords_3 _ _ _ _ _ _ _ _ _ _ _ _ _ _ _ _ _ _ _ _ _ _ _ _ _ _ _ _ _ _ _ _ _ _ _ _ _ _ _ _ _ _ _ _ _ _ _ _ w rfl rfl rfl qpage
 rw [decide_eq_true qpage]
 by_cases qslot : 0 = slot
 case neg =>
  rw [decide_eq_false qslot]
  simp only [Bool.false_and, Bool.and_false]
  exact sameRecords_4 _ _ _ _ _ _ _ _ _ _ _ _ _ _ _ _ _ _ _ _ _ _ _ _ _ _ _ _ _ _ _ _ _ _ _ _ _ _ _ _ _ _ _ _ _ _ _ _ w rfl rfl rfl qpage qslot
 rw [decide_eq_true qslot]
 cases B_before with
 | false =>
  simp only [Bool.false_and, Bool.and_false]
  exact sameRecords_5 _ _ _ _ _ _ _ _ _ _ _ _ _ _ _ _ _ _ _ _ _ _ _ _ _ _ _ _ _ _ _ _ _ _ _ _ _ _ _ _ _ _ _ _ _ _ _ _ w rfl rfl rfl qpage qslot hbefore
 | true =>
 cases B_after with
 | false =>
  simp only [Bool.false_and, Bool.and_false]
  exact sameRecords_6 _ _ _ _ _ _ _ _ _ _ _ _ _ _ _ _ _ _ _ _ _ _ _ _ _ _ _ _ _ _ _ _ _ _ _ _ _ _ _ _ _ _ _ _ _ _ _ _ w rfl rfl rfl qpage qslot hbefore hafter
 | true =>
 by_cases quN : 0 = uN
 case neg =>
  rw [decide_eq_false quN]
  simp only [Bool.false_and, Bool.and_false]
  exact sameRecords_7 _ _ _ _ _ _ _ _ _ _ _ _ _ _ _ _ _ _ _ _ _ _ _ _ _ _ _ _ _ _ _ _ _ _ _ _ _ _ _ _ _ _ _ _ _ _ _ _ w rfl rfl rfl qpage qslot quN hbefore hafter
 rw [decide_eq_true quN]
 by_cases qnT : 0 = nT
 case neg =>
  rw [decide_eq_false qnT]
  simp only [Bool.false_and, Bool.and_false]
  exact sameRecords_8 _ _ _ _ _ _ _ _ _ _ _ _ _ _ _ _ _ _ _ _ _ _ _ _ _ _ _ _ _ _ _ _ _ _ _ _ _ _ _ _ _ _ _ _ _ _ _ _ w rfl rfl rfl qpage qslot quN qnT hbefore hafter
 rw [decide_eq_true qnT]
 cases B_txns with
 | false =>
  simp only [Bool.false_and, Bool.and_false]
  exact sameRecords_9 _ _ _ _ _ _ _ _ _ _ _ _ _ _ _ _ _ _ _ _ _ _ _ _ _ _ _ _ _ _ _ _ _ _ _ _ _ _ _ _ _ _ _ _ _ _ _ _ w rfl rfl rfl qpage qslot quN qnT hbefore hafter htxns
 | true =>
 cases B_dirty with
 | false =>
  simp only [Bool.false_and, Bool.and_false]
  exact sameRecords_10 _ _ _ _ _ _ _ _ _ _ _ _ _ _ _ _ _ _ _ _ _ _ _ _ _ _ _ _ _ _ _ _ _ _ _ _ _ _ _ _ _ _ _ _ _ _ _ _ w rfl rfl rfl qpage qslot quN qnT hbefore hafter htxns hdirty
 | true =>
 cases B_image with
 | false =>
  simp only [Bool.false_and, Bool.and_false]
  exact sameRecords_11 _ _ _ _ _ _ _ _ _ _ _ _ _ _ _ _ _ _ _ _ _ _ _ _ _ _ _ _ _ _ _ _ _ _ _ _ _ _ _ _ _ _ _ _ _ _ _ _ w rfl rfl rfl qpage qslot quN qnT hbefore hafter htxns hdirty himage
 | true =>
 simp only [Bool.and_true, Bool.and_self]
 exact sameRecords_12 _ _ _ _ _ _ _ _ _ _ _ _ _ _ _ _ _ _ _ _ _ _ _ _ _ _ _ _ _ _ _ _ _ _ _ _ _ _ _ _ _ _ _ _ _ _ _ _ w rfl rfl rfl qpage qslot quN qnT hbefore hafter htxns hdirty himage
theorem same_5 (txn : Int) (prev : Int) (page : Int) (slot : Int) (bU : Bool) (bDa : Option Addr) (bDc : Nat) (bDb : List Int) (aU : Bool) (aDa : Option Addr) (aDc : Nat) (aDb : List Int) (uN : Int) (nT : Int) (tXe : TypeId) (tXa : Option Addr) (tXn tXc : Nat) (tXb : List Int) (dYe : TypeId) (dYa : Option Addr) (dYn dYc : Nat) (dYb : List Int) (iMa : Option Addr) (iMc : Nat) (iMb : List Int) (w : World) (hBb : IsB bDb) (hBa : IsB aDb) (hBi : IsB iMb) (hrb : Rd .u8 w (.slice bDa bDb.length bDc) bDb) (hra : Rd .u8 w (.slice aDa aDb.length aDc) aDb) (hri : Rd .u8 w (.slice iMa iMb.length iMc) iMb) (hrt : RdF 4 w ⟨tXe, tXa, tXn, tXc, tXb⟩) (hrd : RdF 2 w ⟨dYe, dYa, dYn, dYc, dYb⟩) (hnt : tXn ≤ 1125899906842624) (hnd : dYn ≤ 1125899906842624) :
  Calls Tryz.prog 56 #[.agg #[.int .i64 5, .int .i64 txn, .int .i64 prev, .int .i64 0, .int .i64 0, .bool false, .slice none 0 0, .bool false, .slice none 0 0, .int .i64 0, .int .i64 0, .slice none 0 0, .slice none 0 0, .slice none 0 0], .agg #[.int .i64 5, .int .i64 txn, .int .i64 prev, .int .i64 page, .int .i64 slot, .bool bU, .slice bDa bDb.length bDc, .bool aU, .slice aDa aDb.length aDc, .int .i64 uN, .int .i64 nT, .slice tXa tXn tXc, .slice dYa dYn dYc, .slice iMa iMb.length iMc]] w fun e w' => e = .returned (.bool (alone5 txn prev page slot bU bDb aU aDb uN nT tXb dYb iMb)) ∧ Same w w' := by
 have hlt := hrt.2.1
 have hld := hrd.2.1
 dsimp only at hlt hld
 have e1 : tXb.length / 4 = tXn := by omega
 have e2 : dYb.length / 2 = dYn := by omega
 have hmt := hrt.1
 have hmd := hrd.1
 dsimp only at hmt hmd
 have hbefore : ∀ wx, Same w wx → Calls Tryz.prog 62 #[.agg #[.bool false, .slice none 0 0], .agg #[.bool bU, .slice bDa bDb.length bDc]] wx fun e w' => e = .returned (.bool (false == bU && decide ([] = bDb))) ∧ Same wx w' := fun wx hk => sameSlots_any ⟨false, ⟨0, none, 0, []⟩⟩ ⟨bU, ⟨0, bDa, bDc, bDb⟩⟩ wx (fun x hx => by simp at hx) hBb ((rd_nil w).same hk) (hrb.same hk)
 have hafter : ∀ wx, Same w wx → Calls Tryz.prog 62 #[.agg #[.bool false, .slice none 0 0], .agg #[.bool aU, .slice aDa aDb.length aDc]] wx fun e w' => e = .returned (.bool (false == aU && decide ([] = aDb))) ∧ Same wx w' := fun wx hk => sameSlots_any ⟨false, ⟨0, none, 0, []⟩⟩ ⟨aU, ⟨0, aDa, aDc, aDb⟩⟩ wx (fun x hx => by simp at hx) hBa ((rd_nil w).same hk) (hra.same hk)
 have htxns : ∀ wx, Same w wx → Calls Tryz.prog 63 #[.slice none 0 0, .slice tXa tXn tXc] wx fun e w' => e = .returned (.bool (decide (tXb.length / 4 = 0))) ∧ Same wx w' := fun wx hk => by rw [e1]; exact sameTxnEntry_nil tXa tXn tXc wx hmt
 have hdirty : ∀ wx, Same w wx → Calls Tryz.prog 64 #[.slice none 0 0, .slice dYa dYn dYc] wx fun e w' => e = .returned (.bool (decide (dYb.length / 2 = 0))) ∧ Same wx w' := fun wx hk => by rw [e2]; exact sameDirtyEntry_nil dYa dYn dYc wx hmd
 have himage : ∀ wx, Same w wx → Calls Tryz.prog 65 #[.slice none 0 0, .slice iMa iMb.length iMc] wx fun e w' => e = .returned (.bool (decide ([] = iMb))) ∧ Same wx w' := fun wx hk => bytesEq_any _ _ [] iMb wx (fun x hx => by simp at hx) hBi ((rd_nil w).same hk) (hri.same hk)
 unfold alone5
 clear hrb hra hri hrt hrd hBb hBa hBi e1 e2 hlt hld hmt hmd hnt hnd
 generalize (false == bU && decide ([] = bDb)) = B_before at *
 generalize (false == aU && decide ([] = aDb)) = B_after at *
 generalize decide (tXb.length / 4 = 0) = B_txns at *
 generalize decide (dYb.length / 2 = 0) = B_dirty at *
 generalize decide ([] = iMb) = B_image at *
 by_cases qpage : 0 = page
 case neg =>
  rw [decide_eq_false qpage]
  simp only [Bool.false_and, Bool.and_false]
  exact sameRecords_3 _ _ _ _ _ _ _ _ _ _ _ _ _ _ _ _ _ _ _ _ _ _ _ _ _ _ _ _ _ _ _ _ _ _ _ _ _ _ _ _ _ _ _ _ _ _ _ _ w rfl rfl rfl qpage
 rw [decide_eq_true qpage]
 by_cases qslot : 0 = slot
 case neg =>
  rw [decide_eq_false qslot]
  simp only [Bool.false_and, Bool.and_false]
  exact sameRecords_4 _ _ _ _ _ _ _ _ _ _ _ _ _ _ _ _ _ _ _ _ _ _ _ _ _ _ _ _ _ _ _ _ _ _ _ _ _ _ _ _ _ _ _ _ _ _ _ _ w rfl rfl rfl qpage qslot
 rw [decide_eq_true qslot]
 cases B_before with
 | false =>
  simp only [Bool.false_and, Bool.and_false]
  exact sameRecords_5 _ _ _ _ _ _ _ _ _ _ _ _ _ _ _ _ _ _ _ _ _ _ _ _ _ _ _ _ _ _ _ _ _ _ _ _ _ _ _ _ _ _ _ _ _ _ _ _ w rfl rfl rfl qpage qslot hbefore
 | true =>
 cases B_after with
 | false =>
  simp only [Bool.false_and, Bool.and_false]
  exact sameRecords_6 _ _ _ _ _ _ _ _ _ _ _ _ _ _ _ _ _ _ _ _ _ _ _ _ _ _ _ _ _ _ _ _ _ _ _ _ _ _ _ _ _ _ _ _ _ _ _ _ w rfl rfl rfl qpage qslot hbefore hafter
 | true =>
 by_cases quN : 0 = uN
 case neg =>
  rw [decide_eq_false quN]
  simp only [Bool.false_and, Bool.and_false]
  exact sameRecords_7 _ _ _ _ _ _ _ _ _ _ _ _ _ _ _ _ _ _ _ _ _ _ _ _ _ _ _ _ _ _ _ _ _ _ _ _ _ _ _ _ _ _ _ _ _ _ _ _ w rfl rfl rfl qpage qslot quN hbefore hafter
 rw [decide_eq_true quN]
 by_cases qnT : 0 = nT
 case neg =>
  rw [decide_eq_false qnT]
  simp only [Bool.false_and, Bool.and_false]
  exact sameRecords_8 _ _ _ _ _ _ _ _ _ _ _ _ _ _ _ _ _ _ _ _ _ _ _ _ _ _ _ _ _ _ _ _ _ _ _ _ _ _ _ _ _ _ _ _ _ _ _ _ w rfl rfl rfl qpage qslot quN qnT hbefore hafter
 rw [decide_eq_true qnT]
 cases B_txns with
 | false =>
  simp only [Bool.false_and, Bool.and_false]
  exact sameRecords_9 _ _ _ _ _ _ _ _ _ _ _ _ _ _ _ _ _ _ _ _ _ _ _ _ _ _ _ _ _ _ _ _ _ _ _ _ _ _ _ _ _ _ _ _ _ _ _ _ w rfl rfl rfl qpage qslot quN qnT hbefore hafter htxns
 | true =>
 cases B_dirty with
 | false =>
  simp only [Bool.false_and, Bool.and_false]
  exact sameRecords_10 _ _ _ _ _ _ _ _ _ _ _ _ _ _ _ _ _ _ _ _ _ _ _ _ _ _ _ _ _ _ _ _ _ _ _ _ _ _ _ _ _ _ _ _ _ _ _ _ w rfl rfl rfl qpage qslot quN qnT hbefore hafter htxns hdirty
 | true =>
 cases B_image with
 | false =>
  simp only [Bool.false_and, Bool.and_false]
  exact sameRecords_11 _ _ _ _ _ _ _ _ _ _ _ _ _ _ _ _ _ _ _ _ _ _ _ _ _ _ _ _ _ _ _ _ _ _ _ _ _ _ _ _ _ _ _ _ _ _ _ _ w rfl rfl rfl qpage qslot quN qnT hbefore hafter htxns hdirty himage
 | true =>
 simp only [Bool.and_true, Bool.and_self]
 exact sameRecords_12 _ _ _ _ _ _ _ _ _ _ _ _ _ _ _ _ _ _ _ _ _ _ _ _ _ _ _ _ _ _ _ _ _ _ _ _ _ _ _ _ _ _ _ _ _ _ _ _ w rfl rfl rfl qpage qslot quN qnT hbefore hafter htxns hdirty himage
theorem same_6 (txn : Int) (prev : Int) (page : Int) (slot : Int) (bU : Bool) (bDa : Option Addr) (bDc : Nat) (bDb : List Int) (aU : Bool) (aDa : Option Addr) (aDc : Nat) (aDb : List Int) (uN : Int) (nT : Int) (tXe : TypeId) (tXa : Option Addr) (tXn tXc : Nat) (tXb : List Int) (dYe : TypeId) (dYa : Option Addr) (dYn dYc : Nat) (dYb : List Int) (iMa : Option Addr) (iMc : Nat) (iMb : List Int) (w : World) (hBb : IsB bDb) (hBa : IsB aDb) (hBi : IsB iMb) (hrb : Rd .u8 w (.slice bDa bDb.length bDc) bDb) (hra : Rd .u8 w (.slice aDa aDb.length aDc) aDb) (hri : Rd .u8 w (.slice iMa iMb.length iMc) iMb) (hrt : RdF 4 w ⟨tXe, tXa, tXn, tXc, tXb⟩) (hrd : RdF 2 w ⟨dYe, dYa, dYn, dYc, dYb⟩) (hnt : tXn ≤ 1125899906842624) (hnd : dYn ≤ 1125899906842624) :
  Calls Tryz.prog 56 #[.agg #[.int .i64 6, .int .i64 0, .int .i64 0, .int .i64 0, .int .i64 0, .bool false, .slice none 0 0, .bool false, .slice none 0 0, .int .i64 0, .int .i64 0, .slice none 0 0, .slice none 0 0, .slice none 0 0], .agg #[.int .i64 6, .int .i64 txn, .int .i64 prev, .int .i64 page, .int .i64 slot, .bool bU, .slice bDa bDb.length bDc, .bool aU, .slice aDa aDb.length aDc, .int .i64 uN, .int .i64 nT, .slice tXa tXn tXc, .slice dYa dYn dYc, .slice iMa iMb.length iMc]] w fun e w' => e = .returned (.bool (alone6 txn prev page slot bU bDb aU aDb uN nT tXb dYb iMb)) ∧ Same w w' := by
 have hlt := hrt.2.1
 have hld := hrd.2.1
 dsimp only at hlt hld
 have e1 : tXb.length / 4 = tXn := by omega
 have e2 : dYb.length / 2 = dYn := by omega
 have hmt := hrt.1
 have hmd := hrd.1
 dsimp only at hmt hmd
 have hbefore : ∀ wx, Same w wx → Calls Tryz.prog 62 #[.agg #[.bool false, .slice none 0 0], .agg #[.bool bU, .slice bDa bDb.length bDc]] wx fun e w' => e = .returned (.bool (false == bU && decide ([] = bDb))) ∧ Same wx w' := fun wx hk => sameSlots_any ⟨false, ⟨0, none, 0, []⟩⟩ ⟨bU, ⟨0, bDa, bDc, bDb⟩⟩ wx (fun x hx => by simp at hx) hBb ((rd_nil w).same hk) (hrb.same hk)
 have hafter : ∀ wx, Same w wx → Calls Tryz.prog 62 #[.agg #[.bool false, .slice none 0 0], .agg #[.bool aU, .slice aDa aDb.length aDc]] wx fun e w' => e = .returned (.bool (false == aU && decide ([] = aDb))) ∧ Same wx w' := fun wx hk => sameSlots_any ⟨false, ⟨0, none, 0, []⟩⟩ ⟨aU, ⟨0, aDa, aDc, aDb⟩⟩ wx (fun x hx => by simp at hx) hBa ((rd_nil w).same hk) (hra.same hk)
 have htxns : ∀ wx, Same w wx → Calls Tryz.prog 63 #[.slice none 0 0, .slice tXa tXn tXc] wx fun e w' => e = .returned (.bool (decide (tXb.length / 4 = 0))) ∧ Same wx w' := fun wx hk => by rw [e1]; exact sameTxnEntry_nil tXa tXn tXc wx hmt
 have hdirty : ∀ wx, Same w wx → Calls Tryz.prog 64 #[.slice none 0 0, .slice dYa dYn dYc] wx fun e w' => e = .returned (.bool (decide (dYb.length / 2 = 0))) ∧ Same wx w' := fun wx hk => by rw [e2]; exact sameDirtyEntry_nil dYa dYn dYc wx hmd
 have himage : ∀ wx, Same w wx → Calls Tryz.prog 65 #[.slice none 0 0, .slice iMa iMb.length iMc] wx fun e w' => e = .returned (.bool (decide ([] = iMb))) ∧ Same wx w' := fun wx hk => bytesEq_any _ _ [] iMb wx (fun x hx => by simp at hx) hBi ((rd_nil w).same hk) (hri.same hk)
 unfold alone6
 clear hrb hra hri hrt hrd hBb hBa hBi e1 e2 hlt hld hmt hmd hnt hnd
 generalize (false == bU && decide ([] = bDb)) = B_before at *
 generalize (false == aU && decide ([] = aDb)) = B_after at *
 generalize decide (tXb.length / 4 = 0) = B_txns at *
 generalize decide (dYb.length / 2 = 0) = B_dirty at *
 generalize decide ([] = iMb) = B_image at *
 by_cases qtxn : 0 = txn
 case neg =>
  rw [decide_eq_false qtxn]
  simp only [Bool.false_and, Bool.and_false]
  exact sameRecords_1 _ _ _ _ _ _ _ _ _ _ _ _ _ _ _ _ _ _ _ _ _ _ _ _ _ _ _ _ _ _ _ _ _ _ _ _ _ _ _ _ _ _ _ _ _ _ _ _ w rfl qtxn
 rw [decide_eq_true qtxn]
 by_cases qprev : 0 = prev
 case neg =>
  rw [decide_eq_false qprev]
  simp only [Bool.false_and, Bool.and_false]
  exact sameRecords_2 _ _ _ _ _ _ _ _ _ _ _ _ _ _ _ _ _ _ _ _ _ _ _ _ _ _ _ _ _ _ _ _ _ _ _ _ _ _ _ _ _ _ _ _ _ _ _ _ w rfl qtxn qprev
 rw [decide_eq_true qprev]
 by_cases qpage : 0 = page
 case neg =>
  rw [decide_eq_false qpage]
  simp only [Bool.false_and, Bool.and_false]
  exact sameRecords_3 _ _ _ _ _ _ _ _ _ _ _ _ _ _ _ _ _ _ _ _ _ _ _ _ _ _ _ _ _ _ _ _ _ _ _ _ _ _ _ _ _ _ _ _ _ _ _ _ w rfl qtxn qprev qpage
 rw [decide_eq_true qpage]
 by_cases qslot : 0 = slot
 case neg =>
  rw [decide_eq_false qslot]
  simp only [Bool.false_and, Bool.and_false]
  exact sameRecords_4 _ _ _ _ _ _ _ _ _ _ _ _ _ _ _ _ _ _ _ _ _ _ _ _ _ _ _ _ _ _ _ _ _ _ _ _ _ _ _ _ _ _ _ _ _ _ _ _ w rfl qtxn qprev qpage qslot
 rw [decide_eq_true qslot]
 cases B_before with
 | false =>
  simp only [Bool.false_and, Bool.and_false]
  exact sameRecords_5 _ _ _ _ _ _ _ _ _ _ _ _ _ _ _ _ _ _ _ _ _ _ _ _ _ _ _ _ _ _ _ _ _ _ _ _ _ _ _ _ _ _ _ _ _ _ _ _ w rfl qtxn qprev qpage qslot hbefore
 | true =>
 cases B_after with
 | false =>
  simp only [Bool.false_and, Bool.and_false]
  exact sameRecords_6 _ _ _ _ _ _ _ _ _ _ _ _ _ _ _ _ _ _ _ _ _ _ _ _ _ _ _ _ _ _ _ _ _ _ _ _ _ _ _ _ _ _ _ _ _ _ _ _ w rfl qtxn qprev qpage qslot hbefore hafter
 | true =>
 by_cases quN : 0 = uN
 case neg =>
  rw [decide_eq_false quN]
  simp only [Bool.false_and, Bool.and_false]
  exact sameRecords_7 _ _ _ _ _ _ _ _ _ _ _ _ _ _ _ _ _ _ _ _ _ _ _ _ _ _ _ _ _ _ _ _ _ _ _ _ _ _ _ _ _ _ _ _ _ _ _ _ w rfl qtxn qprev qpage qslot quN hbefore hafter
 rw [decide_eq_true quN]
 by_cases qnT : 0 = nT
 case neg =>
  rw [decide_eq_false qnT]
  simp only [Bool.false_and, Bool.and_false]
  exact sameRecords_8 _ _ _ _ _ _ _ _ _ _ _ _ _ _ _ _ _ _ _ _ _ _ _ _ _ _ _ _ _ _ _ _ _ _ _ _ _ _ _ _ _ _ _ _ _ _ _ _ w rfl qtxn qprev qpage qslot quN qnT hbefore hafter
 rw [decide_eq_true qnT]
 cases B_txns with
 | false =>
  simp only [Bool.false_and, Bool.and_false]
  exact sameRecords_9 _ _ _ _ _ _ _ _ _ _ _ _ _ _ _ _ _ _ _ _ _ _ _ _ _ _ _ _ _ _ _ _ _ _ _ _ _ _ _ _ _ _ _ _ _ _ _ _ w rfl qtxn qprev qpage qslot quN qnT hbefore hafter htxns
 | true =>
 cases B_dirty with
 | false =>
  simp only [Bool.false_and, Bool.and_false]
  exact sameRecords_10 _ _ _ _ _ _ _ _ _ _ _ _ _ _ _ _ _ _ _ _ _ _ _ _ _ _ _ _ _ _ _ _ _ _ _ _ _ _ _ _ _ _ _ _ _ _ _ _ w rfl qtxn qprev qpage qslot quN qnT hbefore hafter htxns hdirty
 | true =>
 cases B_image with
 | false =>
  simp only [Bool.false_and, Bool.and_false]
  exact sameRecords_11 _ _ _ _ _ _ _ _ _ _ _ _ _ _ _ _ _ _ _ _ _ _ _ _ _ _ _ _ _ _ _ _ _ _ _ _ _ _ _ _ _ _ _ _ _ _ _ _ w rfl qtxn qprev qpage qslot quN qnT hbefore hafter htxns hdirty himage
 | true =>
 simp only [Bool.and_true, Bool.and_self]
 exact sameRecords_12 _ _ _ _ _ _ _ _ _ _ _ _ _ _ _ _ _ _ _ _ _ _ _ _ _ _ _ _ _ _ _ _ _ _ _ _ _ _ _ _ _ _ _ _ _ _ _ _ w rfl qtxn qprev qpage qslot quN qnT hbefore hafter htxns hdirty himage
theorem same_7 (txn : Int) (prev : Int) (page : Int) (slot : Int) (bU : Bool) (bDa : Option Addr) (bDc : Nat) (bDb : List Int) (aU : Bool) (aDa : Option Addr) (aDc : Nat) (aDb : List Int) (uN : Int) (nT : Int) (tXe : TypeId) (tXa : Option Addr) (tXn tXc : Nat) (tXb : List Int) (dYe : TypeId) (dYa : Option Addr) (dYn dYc : Nat) (dYb : List Int) (iMa : Option Addr) (iMc : Nat) (iMb : List Int) (w : World) (hBb : IsB bDb) (hBa : IsB aDb) (hBi : IsB iMb) (hrb : Rd .u8 w (.slice bDa bDb.length bDc) bDb) (hra : Rd .u8 w (.slice aDa aDb.length aDc) aDb) (hri : Rd .u8 w (.slice iMa iMb.length iMc) iMb) (hrt : RdF 4 w ⟨tXe, tXa, tXn, tXc, tXb⟩) (hrd : RdF 2 w ⟨dYe, dYa, dYn, dYc, dYb⟩) (hnt : tXn ≤ 1125899906842624) (hnd : dYn ≤ 1125899906842624) :
  Calls Tryz.prog 56 #[.agg #[.int .i64 7, .int .i64 0, .int .i64 0, .int .i64 0, .int .i64 0, .bool false, .slice none 0 0, .bool false, .slice none 0 0, .int .i64 0, .int .i64 nT, .slice tXa tXn tXc, .slice dYa dYn dYc, .slice none 0 0], .agg #[.int .i64 7, .int .i64 txn, .int .i64 prev, .int .i64 page, .int .i64 slot, .bool bU, .slice bDa bDb.length bDc, .bool aU, .slice aDa aDb.length aDc, .int .i64 uN, .int .i64 nT, .slice tXa tXn tXc, .slice dYa dYn dYc, .slice iMa iMb.length iMc]] w fun e w' => e = .returned (.bool (alone7 txn prev page slot bU bDb aU aDb uN nT tXb dYb iMb)) ∧ Same w w' := by
 have hlt := hrt.2.1
 have hld := hrd.2.1
 dsimp only at hlt hld
 have e1 : tXb.length / 4 = tXn := by omega
 have e2 : dYb.length / 2 = dYn := by omega
 have hmt := hrt.1
 have hmd := hrd.1
 dsimp only at hmt hmd
 have hbefore : ∀ wx, Same w wx → Calls Tryz.prog 62 #[.agg #[.bool false, .slice none 0 0], .agg #[.bool bU, .slice bDa bDb.length bDc]] wx fun e w' => e = .returned (.bool (false == bU && decide ([] = bDb))) ∧ Same wx w' := fun wx hk => sameSlots_any ⟨false, ⟨0, none, 0, []⟩⟩ ⟨bU, ⟨0, bDa, bDc, bDb⟩⟩ wx (fun x hx => by simp at hx) hBb ((rd_nil w).same hk) (hrb.same hk)
 have hafter : ∀ wx, Same w wx → Calls Tryz.prog 62 #[.agg #[.bool false, .slice none 0 0], .agg #[.bool aU, .slice aDa aDb.length aDc]] wx fun e w' => e = .returned (.bool (false == aU && decide ([] = aDb))) ∧ Same wx w' := fun wx hk => sameSlots_any ⟨false, ⟨0, none, 0, []⟩⟩ ⟨aU, ⟨0, aDa, aDc, aDb⟩⟩ wx (fun x hx => by simp at hx) hBa ((rd_nil w).same hk) (hra.same hk)
 have htxns : ∀ wx, Same w wx → Calls Tryz.prog 63 #[.slice tXa tXn tXc, .slice tXa tXn tXc] wx fun e w' => e = .returned (.bool true) ∧ Same wx w' := fun wx hk => sameTxnEntry_self ⟨tXe, tXa, tXn, tXc, tXb⟩ wx hnt (hrt.same hk)
 have hdirty : ∀ wx, Same w wx → Calls Tryz.prog 64 #[.slice dYa dYn dYc, .slice dYa dYn dYc] wx fun e w' => e = .returned (.bool true) ∧ Same wx w' := fun wx hk => sameDirtyEntry_self ⟨dYe, dYa, dYn, dYc, dYb⟩ wx hnd (hrd.same hk)
 have himage : ∀ wx, Same w wx → Calls Tryz.prog 65 #[.slice none 0 0, .slice iMa iMb.length iMc] wx fun e w' => e = .returned (.bool (decide ([] = iMb))) ∧ Same wx w' := fun wx hk => bytesEq_any _ _ [] iMb wx (fun x hx => by simp at hx) hBi ((rd_nil w).same hk) (hri.same hk)
 unfold alone7
 clear hrb hra hri hrt hrd hBb hBa hBi e1 e2 hlt hld hmt hmd hnt hnd
 generalize (false == bU && decide ([] = bDb)) = B_before at *
 generalize (false == aU && decide ([] = aDb)) = B_after at *
 generalize decide ([] = iMb) = B_image at *
 by_cases qtxn : 0 = txn
 case neg =>
  rw [decide_eq_false qtxn]
  simp only [Bool.false_and, Bool.and_false]
  exact sameRecords_1 _ _ _ _ _ _ _ _ _ _ _ _ _ _ _ _ _ _ _ _ _ _ _ _ _ _ _ _ _ _ _ _ _ _ _ _ _ _ _ _ _ _ _ _ _ _ _ _ w rfl qtxn
 rw [decide_eq_true qtxn]
 by_cases qprev : 0 = prev
 case neg =>
  rw [decide_eq_false qprev]
  simp only [Bool.false_and, Bool.and_false]
  exact sameRecords_2 _ _ _ _ _ _ _ _ _ _ _ _ _ _ _ _ _ _ _ _ _ _ _ _ _ _ _ _ _ _ _ _ _ _ _ _ _ _ _ _ _ _ _ _ _ _ _ _ w rfl qtxn qprev
 rw [decide_eq_true qprev]
 by_cases qpage : 0 = page
 case neg =>
  rw [decide_eq_false qpage]
  simp only [Bool.false_and, Bool.and_false]
  exact sameRecords_3 _ _ _ _ _ _ _ _ _ _ _ _ _ _ _ _ _ _ _ _ _ _ _ _ _ _ _ _ _ _ _ _ _ _ _ _ _ _ _ _ _ _ _ _ _ _ _ _ w rfl qtxn qprev qpage
 rw [decide_eq_true qpage]
 by_cases qslot : 0 = slot
 case neg =>
  rw [decide_eq_false qslot]
  simp only [Bool.false_and, Bool.and_false]
  exact sameRecords_4 _ _ _ _ _ _ _ _ _ _ _ _ _ _ _ _ _ _ _ _ _ _ _ _ _ _ _ _ _ _ _ _ _ _ _ _ _ _ _ _ _ _ _ _ _ _ _ _ w rfl qtxn qprev qpage qslot
 rw [decide_eq_true qslot]
 cases B_before with
 | false =>
  simp only [Bool.false_and, Bool.and_false]
  exact sameRecords_5 _ _ _ _ _ _ _ _ _ _ _ _ _ _ _ _ _ _ _ _ _ _ _ _ _ _ _ _ _ _ _ _ _ _ _ _ _ _ _ _ _ _ _ _ _ _ _ _ w rfl qtxn qprev qpage qslot hbefore
 | true =>
 cases B_after with
 | false =>
  simp only [Bool.false_and, Bool.and_false]
  exact sameRecords_6 _ _ _ _ _ _ _ _ _ _ _ _ _ _ _ _ _ _ _ _ _ _ _ _ _ _ _ _ _ _ _ _ _ _ _ _ _ _ _ _ _ _ _ _ _ _ _ _ w rfl qtxn qprev qpage qslot hbefore hafter
 | true =>
 by_cases quN : 0 = uN
 case neg =>
  rw [decide_eq_false quN]
  simp only [Bool.false_and, Bool.and_false]
  exact sameRecords_7 _ _ _ _ _ _ _ _ _ _ _ _ _ _ _ _ _ _ _ _ _ _ _ _ _ _ _ _ _ _ _ _ _ _ _ _ _ _ _ _ _ _ _ _ _ _ _ _ w rfl qtxn qprev qpage qslot quN hbefore hafter
 rw [decide_eq_true quN]
 cases B_image with
 | false =>
  simp only [Bool.false_and, Bool.and_false]
  exact sameRecords_11 _ _ _ _ _ _ _ _ _ _ _ _ _ _ _ _ _ _ _ _ _ _ _ _ _ _ _ _ _ _ _ _ _ _ _ _ _ _ _ _ _ _ _ _ _ _ _ _ w rfl qtxn qprev qpage qslot quN rfl hbefore hafter htxns hdirty himage
 | true =>
 simp only [Bool.and_true, Bool.and_self]
 exact sameRecords_12 _ _ _ _ _ _ _ _ _ _ _ _ _ _ _ _ _ _ _ _ _ _ _ _ _ _ _ _ _ _ _ _ _ _ _ _ _ _ _ _ _ _ _ _ _ _ _ _ w rfl qtxn qprev qpage qslot quN rfl hbefore hafter htxns hdirty himage
theorem same_8 (txn : Int) (prev : Int) (page : Int) (slot : Int) (bU : Bool) (bDa : Option Addr) (bDc : Nat) (bDb : List Int) (aU : Bool) (aDa : Option Addr) (aDc : Nat) (aDb : List Int) (uN : Int) (nT : Int) (tXe : TypeId) (tXa : Option Addr) (tXn tXc : Nat) (tXb : List Int) (dYe : TypeId) (dYa : Option Addr) (dYn dYc : Nat) (dYb : List Int) (iMa : Option Addr) (iMc : Nat) (iMb : List Int) (w : World) (hBb : IsB bDb) (hBa : IsB aDb) (hBi : IsB iMb) (hrb : Rd .u8 w (.slice bDa bDb.length bDc) bDb) (hra : Rd .u8 w (.slice aDa aDb.length aDc) aDb) (hri : Rd .u8 w (.slice iMa iMb.length iMc) iMb) (hrt : RdF 4 w ⟨tXe, tXa, tXn, tXc, tXb⟩) (hrd : RdF 2 w ⟨dYe, dYa, dYn, dYc, dYb⟩) (hnt : tXn ≤ 1125899906842624) (hnd : dYn ≤ 1125899906842624) :
  Calls Tryz.prog 56 #[.agg #[.int .i64 8, .int .i64 0, .int .i64 0, .int .i64 page, .int .i64 0, .bool false, .slice none 0 0, .bool false, .slice none 0 0, .int .i64 0, .int .i64 0, .slice none 0 0, .slice none 0 0, .slice iMa iMb.length iMc], .agg #[.int .i64 8, .int .i64 txn, .int .i64 prev, .int .i64 page, .int .i64 slot, .bool bU, .slice bDa bDb.length bDc, .bool aU, .slice aDa aDb.length aDc, .int .i64 uN, .int .i64 nT, .slice tXa tXn tXc, .slice dYa dYn dYc, .slice iMa iMb.length iMc]] w fun e w' => e = .returned (.bool (alone8 txn prev page slot bU bDb aU aDb uN nT tXb dYb iMb)) ∧ Same w w' := by
 have hlt := hrt.2.1
 have hld := hrd.2.1
 dsimp only at hlt hld
 have e1 : tXb.length / 4 = tXn := by omega
 have e2 : dYb.length / 2 = dYn := by omega
 have hmt := hrt.1
 have hmd := hrd.1
 dsimp only at hmt hmd
 have hbefore : ∀ wx, Same w wx → Calls Tryz.prog 62 #[.agg #[.bool false, .slice none 0 0], .agg #[.bool bU, .slice bDa bDb.length bDc]] wx fun e w' => e = .returned (.bool (false == bU && decide ([] = bDb))) ∧ Same wx w' := fun wx hk => sameSlots_any ⟨false, ⟨0, none, 0, []⟩⟩ ⟨bU, ⟨0, bDa, bDc, bDb⟩⟩ wx (fun x hx => by simp at hx) hBb ((rd_nil w).same hk) (hrb.same hk)
 have hafter : ∀ wx, Same w wx → Calls Tryz.prog 62 #[.agg #[.bool false, .slice none 0 0], .agg #[.bool aU, .slice aDa aDb.length aDc]] wx fun e w' => e = .returned (.bool (false == aU && decide ([] = aDb))) ∧ Same wx w' := fun wx hk => sameSlots_any ⟨false, ⟨0, none, 0, []⟩⟩ ⟨aU, ⟨0, aDa, aDc, aDb⟩⟩ wx (fun x hx => by simp at hx) hBa ((rd_nil w).same hk) (hra.same hk)
 have htxns : ∀ wx, Same w wx → Calls Tryz.prog 63 #[.slice none 0 0, .slice tXa tXn tXc] wx fun e w' => e = .returned (.bool (decide (tXb.length / 4 = 0))) ∧ Same wx w' := fun wx hk => by rw [e1]; exact sameTxnEntry_nil tXa tXn tXc wx hmt
 have hdirty : ∀ wx, Same w wx → Calls Tryz.prog 64 #[.slice none 0 0, .slice dYa dYn dYc] wx fun e w' => e = .returned (.bool (decide (dYb.length / 2 = 0))) ∧ Same wx w' := fun wx hk => by rw [e2]; exact sameDirtyEntry_nil dYa dYn dYc wx hmd
 have himage : ∀ wx, Same w wx → Calls Tryz.prog 65 #[.slice iMa iMb.length iMc, .slice iMa iMb.length iMc] wx fun e w' => e = .returned (.bool true) ∧ Same wx w' := fun wx hk => by have h := bytesEq_any _ _ iMb iMb wx hBi hBi (hri.same hk) (hri.same hk); simpa using h
 unfold alone8
 clear hrb hra hri hrt hrd hBb hBa hBi e1 e2 hlt hld hmt hmd hnt hnd
 generalize (false == bU && decide ([] = bDb)) = B_before at *
 generalize (false == aU && decide ([] = aDb)) = B_after at *
 generalize decide (tXb.length / 4 = 0) = B_txns at *
 generalize decide (dYb.length / 2 = 0) = B_dirty at *
 by_cases qtxn : 0 = txn
 case neg =>
  rw [decide_eq_false qtxn]
  simp only [Bool.false_and, Bool.and_false]
  exact sameRecords_1 _ _ _ _ _ _ _ _ _ _ _ _ _ _ _ _ _ _ _ _ _ _ _ _ _ _ _ _ _ _ _ _ _ _ _ _ _ _ _ _ _ _ _ _ _ _ _ _ w rfl qtxn
 rw [decide_eq_true qtxn]
 by_cases qprev : 0 = prev
 case neg =>
  rw [decide_eq_false qprev]
  simp only [Bool.false_and, Bool.and_false]
  exact sameRecords_2 _ _ _ _ _ _ _ _ _ _ _ _ _ _ _ _ _ _ _ _ _ _ _ _ _ _ _ _ _ _ _ _ _ _ _ _ _ _ _ _ _ _ _ _ _ _ _ _ w rfl qtxn qprev
 rw [decide_eq_true qprev]
 by_cases qslot : 0 = slot
 case neg =>
  rw [decide_eq_false qslot]
  simp only [Bool.false_and, Bool.and_false]
  exact sameRecords_4 _ _ _ _ _ _ _ _ _ _ _ _ _ _ _ _ _ _ _ _ _ _ _ _ _ _ _ _ _ _ _ _ _ _ _ _ _ _ _ _ _ _ _ _ _ _ _ _ w rfl qtxn qprev rfl qslot
 rw [decide_eq_true qslot]
 cases B_before with
 | false =>
  simp only [Bool.false_and, Bool.and_false]
  exact sameRecords_5 _ _ _ _ _ _ _ _ _ _ _ _ _ _ _ _ _ _ _ _ _ _ _ _ _ _ _ _ _ _ _ _ _ _ _ _ _ _ _ _ _ _ _ _ _ _ _ _ w rfl qtxn qprev rfl qslot hbefore
 | true =>
 cases B_after with
 | false =>
  simp only [Bool.false_and, Bool.and_false]
  exact sameRecords_6 _ _ _ _ _ _ _ _ _ _ _ _ _ _ _ _ _ _ _ _ _ _ _ _ _ _ _ _ _ _ _ _ _ _ _ _ _ _ _ _ _ _ _ _ _ _ _ _ w rfl qtxn qprev rfl qslot hbefore hafter
 | true =>
 by_cases quN : 0 = uN
 case neg =>
  rw [decide_eq_false quN]
  simp only [Bool.false_and, Bool.and_false]
  exact sameRecords_7 _ _ _ _ _ _ _ _ _ _ _ _ _ _ _ _ _ _ _ _ _ _ _ _ _ _ _ _ _ _ _ _ _ _ _ _ _ _ _ _ _ _ _ _ _ _ _ _ w rfl qtxn qprev rfl qslot quN hbefore hafter
 rw [decide_eq_true quN]
 by_cases qnT : 0 = nT
 case neg =>
  rw [decide_eq_false qnT]
  simp only [Bool.false_and, Bool.and_false]
  exact sameRecords_8 _ _ _ _ _ _ _ _ _ _ _ _ _ _ _ _ _ _ _ _ _ _ _ _ _ _ _ _ _ _ _ _ _ _ _ _ _ _ _ _ _ _ _ _ _ _ _ _ w rfl qtxn qprev rfl qslot quN qnT hbefore hafter
 rw [decide_eq_true qnT]
 cases B_txns with
 | false =>
  simp only [Bool.false_and, Bool.and_false]
  exact sameRecords_9 _ _ _ _ _ _ _ _ _ _ _ _ _ _ _ _ _ _ _ _ _ _ _ _ _ _ _ _ _ _ _ _ _ _ _ _ _ _ _ _ _ _ _ _ _ _ _ _ w rfl qtxn qprev rfl qslot quN qnT hbefore hafter htxns
 | true =>
 cases B_dirty with
 | false =>
  simp only [Bool.false_and, Bool.and_false]
  exact sameRecords_10 _ _ _ _ _ _ _ _ _ _ _ _ _ _ _ _ _ _ _ _ _ _ _ _ _ _ _ _ _ _ _ _ _ _ _ _ _ _ _ _ _ _ _ _ _ _ _ _ w rfl qtxn qprev rfl qslot quN qnT hbefore hafter htxns hdirty
 | true =>
 simp only [Bool.and_true, Bool.and_self]
 exact sameRecords_12 _ _ _ _ _ _ _ _ _ _ _ _ _ _ _ _ _ _ _ _ _ _ _ _ _ _ _ _ _ _ _ _ _ _ _ _ _ _ _ _ _ _ _ _ _ _ _ _ w rfl qtxn qprev rfl qslot quN qnT hbefore hafter htxns hdirty himage
@[go_sem] theorem inv_1 (n : Nat) (txn : Int) (prev : Int) (page : Int) (slot : Int) (bU : Bool) (aU : Bool) (bDa : Option Addr) (bDc : Nat) (bDb : List Int) (aDa : Option Addr) (aDc : Nat) (aDb : List Int)  (w : World) : (method (n + 1) 96 (.agg #[.int .i64 txn, .int .i64 prev, .int .i64 page, .int .i64 slot, .bool bU, .slice bDa bDb.length bDc, .bool aU, .slice aDa aDb.length aDc]) "loop.example/s02544/impl.fault").run Tryz.prog w = .ok (127, .agg #[.int .i64 txn, .int .i64 prev, .int .i64 page, .int .i64 slot, .bool bU, .slice bDa bDb.length bDc, .bool aU, .slice aDa aDb.length aDc]) w := by kernel_rfl
@[go_sem] theorem inv_2 (n : Nat) (txn : Int) (prev : Int) (page : Int) (slot : Int) (uN : Int) (aU : Bool) (aDa : Option Addr) (aDc : Nat) (aDb : List Int)  (w : World) : (method (n + 1) 98 (.agg #[.int .i64 txn, .int .i64 prev, .int .i64 page, .int .i64 slot, .bool aU, .slice aDa aDb.length aDc, .int .i64 uN]) "loop.example/s02544/impl.fault").run Tryz.prog w = .ok (133, .agg #[.int .i64 txn, .int .i64 prev, .int .i64 page, .int .i64 slot, .bool aU, .slice aDa aDb.length aDc, .int .i64 uN]) w := by kernel_rfl
@[go_sem] theorem inv_3 (n : Nat) (txn : Int) (prev : Int)  (w : World) : (method (n + 1) 100 (.agg #[.int .i64 txn, .int .i64 prev]) "loop.example/s02544/impl.fault").run Tryz.prog w = .ok (120, .agg #[.int .i64 txn, .int .i64 prev]) w := by kernel_rfl
@[go_sem] theorem inv_4 (n : Nat) (txn : Int) (prev : Int)  (w : World) : (method (n + 1) 101 (.agg #[.int .i64 txn, .int .i64 prev]) "loop.example/s02544/impl.fault").run Tryz.prog w = .ok (120, .agg #[.int .i64 txn, .int .i64 prev]) w := by kernel_rfl
@[go_sem] theorem inv_5 (n : Nat) (txn : Int) (prev : Int)  (w : World) : (method (n + 1) 102 (.agg #[.int .i64 txn, .int .i64 prev]) "loop.example/s02544/impl.fault").run Tryz.prog w = .ok (120, .agg #[.int .i64 txn, .int .i64 prev]) w := by kernel_rfl
@[go_sem] theorem inv_6 (n : Nat)  (w : World) : (method (n + 1) 103 (.agg #[.int .i64 0, .int .i64 0]) "loop.example/s02544/impl.fault").run Tryz.prog w = .ok (134, .agg #[.int .i64 0, .int .i64 0]) w := by kernel_rfl
@[go_sem] theorem inv_7 (n : Nat) (nT : Int) (tXa : Option Addr) (tXn : Nat) (tXc : Nat) (dYa : Option Addr) (dYn : Nat) (dYc : Nat)  (w : World) : (method (n + 1) 105 (.agg #[.int .i64 0, .int .i64 0, .int .i64 nT, .slice tXa tXn tXc, .slice dYa dYn dYc]) "loop.example/s02544/impl.fault").run Tryz.prog w = .ok (136, .agg #[.int .i64 0, .int .i64 0, .int .i64 nT, .slice tXa tXn tXc, .slice dYa dYn dYc]) w := by kernel_rfl
@[go_sem] theorem inv_8 (n : Nat) (page : Int) (iMa : Option Addr) (iMc : Nat) (iMb : List Int)  (w : World) : (method (n + 1) 107 (.agg #[.int .i64 0, .int .i64 0, .int .i64 page, .slice iMa iMb.length iMc]) "loop.example/s02544/impl.fault").run Tryz.prog w = .ok (140, .agg #[.int .i64 0, .int .i64 0, .int .i64 page, .slice iMa iMb.length iMc]) w := by kernel_rfl
end Go.Proofs.YtdgmecmkkddpeaaGreat
