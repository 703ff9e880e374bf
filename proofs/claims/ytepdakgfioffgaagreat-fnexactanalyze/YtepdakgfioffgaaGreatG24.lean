import Derived.Test.YtepdakgfioffgaaGreatG13
import Derived.Deep.RegionWith
import Derived.Deep.DeepMust
namespace Go.Proofs.YtepdakgfioffgaaGreat
set_option maxRecDepth 100000
set_option maxHeartbeats 4000000
set_option linter.unusedVariables false
set_option linter.unusedSimpArgs false
open Go.RowKit
theorem rd_nil (w : World) : Rd .u8 w (.slice none 0 0) [] := ⟨Nat.zero_le _, .inl ⟨rfl, none, 0, rfl, fun _ => rfl⟩⟩
theorem same_1 (txn prev page slot : Int) (bU : Bool) (bN : Option Addr) (bO : Nat) (aY : List Int) (aU : Bool) (bH : Option Addr) (bI : Nat) (aX : List Int) (uN nT : Int) (fQ : TypeId) (b9 : Option Addr) (bp cf : Nat) (df : List Int) (fP : TypeId) (ch : Option Addr) (bo cj : Nat) (dj : List Int) (cg : Option Addr) (cm : Nat) (aZ : List Int) (w : World) (iB : IsB aY) (iz : IsB aX) (ij : IsB aZ) (fT : Rd .u8 w (.slice bN aY.length bO) aY) (fE : Rd .u8 w (.slice bH aX.length bI) aX) (gY : Rd .u8 w (.slice cg aZ.length cm) aZ) (gw : RdF 4 w ⟨fQ, b9, bp, cf, df⟩) (fG : RdF 2 w ⟨fP, ch, bo, cj, dj⟩) (fX : bp ≤ 1125899906842624) (gK : bo ≤ 1125899906842624) :
  Calls Tryz.prog 74 #[.agg #[.int .i64 1, .int .i64 txn, .int .i64 prev, .int .i64 page, .int .i64 slot, .bool bU, .slice bN aY.length bO, .bool aU, .slice bH aX.length bI, .int .i64 0, .int .i64 0, .slice none 0 0, .slice none 0 0, .slice none 0 0], .agg #[.int .i64 1, .int .i64 txn, .int .i64 prev, .int .i64 page, .int .i64 slot, .bool bU, .slice bN aY.length bO, .bool aU, .slice bH aX.length bI, .int .i64 uN, .int .i64 nT, .slice b9 bp cf, .slice ch bo cj, .slice cg aZ.length cm]] w fun e w' => e = .returned (.bool (alone1 txn prev page slot bU aY aU aX uN nT df dj aZ)) ∧ Same w w' := by
 have dh := gw.2.1
 have ly := fG.2.1
 dsimp only at dh ly
 have e1 : df.length / 4 = bp := by omega
 have e2 : dj.length / 2 = bo := by omega
 have kZ := gw.1
 have k8 := fG.1
 dsimp only at kZ k8
 have al : ∀ wx, Same w wx → Calls Tryz.prog 94 #[.agg #[.bool bU, .slice bN aY.length bO], .agg #[.bool bU, .slice bN aY.length bO]] wx fun e w' => e = .returned (.bool true) ∧ Same wx w' := fun wx hk => by
  have h := sameSlots_any ⟨bU, ⟨0, bN, bO, aY⟩⟩ ⟨bU, ⟨0, bN, bO, aY⟩⟩ wx iB iB (fT.same hk) (fT.same hk)
  simpa [StPageRecord.val, BS.v] using h
 have aG : ∀ wx, Same w wx → Calls Tryz.prog 94 #[.agg #[.bool aU, .slice bH aX.length bI], .agg #[.bool aU, .slice bH aX.length bI]] wx fun e w' => e = .returned (.bool true) ∧ Same wx w' := fun wx hk => by
  have h := sameSlots_any ⟨aU, ⟨0, bH, bI, aX⟩⟩ ⟨aU, ⟨0, bH, bI, aX⟩⟩ wx iz iz (fE.same hk) (fE.same hk)
  simpa [StPageRecord.val, BS.v] using h
 have dW : ∀ wx, Same w wx → Calls Tryz.prog 95 #[.slice none 0 0, .slice b9 bp cf] wx fun e w' => e = .returned (.bool (decide (df.length / 4 = 0))) ∧ Same wx w' := fun wx hk => by rw [e1]; exact sameTxnEntry_nil b9 bp cf wx kZ
 have dQ : ∀ wx, Same w wx → Calls Tryz.prog 96 #[.slice none 0 0, .slice ch bo cj] wx fun e w' => e = .returned (.bool (decide (dj.length / 2 = 0))) ∧ Same wx w' := fun wx hk => by rw [e2]; exact sameDirtyEntry_nil ch bo cj wx k8
 have eS : ∀ wx, Same w wx → Calls Tryz.prog 97 #[.slice none 0 0, .slice cg aZ.length cm] wx fun e w' => e = .returned (.bool (decide ([] = aZ))) ∧ Same wx w' := fun wx hk => bytesEq_any _ _ [] aZ wx (fun x hx => by simp at hx) ij ((rd_nil w).same hk) (gY.same hk)
 unfold alone1
 clear fT fE gY gw fG iB iz ij e1 e2 dh ly kZ k8 fX gK
 generalize decide (df.length / 4 = 0) = iO at *
 generalize decide (dj.length / 2 = 0) = gL at *
 generalize decide ([] = aZ) = gP at *
 by_cases quN : 0 = uN
 case neg =>
  rw [decide_eq_false quN]
  simp only [Bool.false_and, Bool.and_false]
  exact sameRecords_7 _ _ _ _ _ _ _ _ _ _ _ _ _ _ _ _ _ _ _ _ _ _ _ _ _ _ _ _ _ _ _ _ _ _ _ _ _ _ _ _ _ _ _ _ _ _ _ _ w rfl rfl rfl rfl rfl quN al aG
 rw [decide_eq_true quN]
 by_cases qnT : 0 = nT
 case neg =>
  rw [decide_eq_false qnT]
  simp only [Bool.false_and, Bool.and_false]
  exact sameRecords_8 _ _ _ _ _ _ _ _ _ _ _ _ _ _ _ _ _ _ _ _ _ _ _ _ _ _ _ _ _ _ _ _ _ _ _ _ _ _ _ _ _ _ _ _ _ _ _ _ w rfl rfl rfl rfl rfl quN qnT al aG
 rw [decide_eq_true qnT]
 cases iO with
 | false =>
  simp only [Bool.false_and, Bool.and_false]
  exact sameRecords_9 _ _ _ _ _ _ _ _ _ _ _ _ _ _ _ _ _ _ _ _ _ _ _ _ _ _ _ _ _ _ _ _ _ _ _ _ _ _ _ _ _ _ _ _ _ _ _ _ w rfl rfl rfl rfl rfl quN qnT al aG dW
 | true =>
 cases gL with
 | false =>
  simp only [Bool.false_and, Bool.and_false]
  exact sameRecords_10 _ _ _ _ _ _ _ _ _ _ _ _ _ _ _ _ _ _ _ _ _ _ _ _ _ _ _ _ _ _ _ _ _ _ _ _ _ _ _ _ _ _ _ _ _ _ _ _ w rfl rfl rfl rfl rfl quN qnT al aG dW dQ
 | true =>
 cases gP with
 | false =>
  simp only [Bool.false_and, Bool.and_false]
  exact sameRecords_11 _ _ _ _ _ _ _ _ _ _ _ _ _ _ _ _ _ _ _ _ _ _ _ _ _ _ _ _ _ _ _ _ _ _ _ _ _ _ _ _ _ _ _ _ _ _ _ _ w rfl rfl rfl rfl rfl quN qnT al aG dW dQ eS
 | true =>
 simp only [Bool.and_true, Bool.and_self]
 exact sameRecords_12 _ _ _ _ _ _ _ _ _ _ _ _ _ _ _ _ _ _ _ _ _ _ _ _ _ _ _ _ _ _ _ _ _ _ _ _ _ _ _ _ _ _ _ _ _ _ _ _ w rfl rfl rfl rfl rfl quN qnT al aG dW dQ eS
theorem same_2 (txn prev page slot : Int) (bU : Bool) (bN : Option Addr) (bO : Nat) (aY : List Int) (aU : Bool) (bH : Option Addr) (bI : Nat) (aX : List Int) (uN nT : Int) (fQ : TypeId) (b9 : Option Addr) (bp cf : Nat) (df : List Int) (fP : TypeId) (ch : Option Addr) (bo cj : Nat) (dj : List Int) (cg : Option Addr) (cm : Nat) (aZ : List Int) (w : World) (iB : IsB aY) (iz : IsB aX) (ij : IsB aZ) (fT : Rd .u8 w (.slice bN aY.length bO) aY) (fE : Rd .u8 w (.slice bH aX.length bI) aX) (gY : Rd .u8 w (.slice cg aZ.length cm) aZ) (gw : RdF 4 w ⟨fQ, b9, bp, cf, df⟩) (fG : RdF 2 w ⟨fP, ch, bo, cj, dj⟩) (fX : bp ≤ 1125899906842624) (gK : bo ≤ 1125899906842624) :
  Calls Tryz.prog 74 #[.agg #[.int .i64 2, .int .i64 txn, .int .i64 prev, .int .i64 page, .int .i64 slot, .bool false, .slice none 0 0, .bool aU, .slice bH aX.length bI, .int .i64 uN, .int .i64 0, .slice none 0 0, .slice none 0 0, .slice none 0 0], .agg #[.int .i64 2, .int .i64 txn, .int .i64 prev, .int .i64 page, .int .i64 slot, .bool bU, .slice bN aY.length bO, .bool aU, .slice bH aX.length bI, .int .i64 uN, .int .i64 nT, .slice b9 bp cf, .slice ch bo cj, .slice cg aZ.length cm]] w fun e w' => e = .returned (.bool (alone2 txn prev page slot bU aY aU aX uN nT df dj aZ)) ∧ Same w w' := by
 have dh := gw.2.1
 have ly := fG.2.1
 dsimp only at dh ly
 have e1 : df.length / 4 = bp := by omega
 have e2 : dj.length / 2 = bo := by omega
 have kZ := gw.1
 have k8 := fG.1
 dsimp only at kZ k8
 have al : ∀ wx, Same w wx → Calls Tryz.prog 94 #[.agg #[.bool false, .slice none 0 0], .agg #[.bool bU, .slice bN aY.length bO]] wx fun e w' => e = .returned (.bool (false == bU && decide ([] = aY))) ∧ Same wx w' := fun wx hk => sameSlots_any ⟨false, ⟨0, none, 0, []⟩⟩ ⟨bU, ⟨0, bN, bO, aY⟩⟩ wx (fun x hx => by simp at hx) iB ((rd_nil w).same hk) (fT.same hk)
 have aG : ∀ wx, Same w wx → Calls Tryz.prog 94 #[.agg #[.bool aU, .slice bH aX.length bI], .agg #[.bool aU, .slice bH aX.length bI]] wx fun e w' => e = .returned (.bool true) ∧ Same wx w' := fun wx hk => by
  have h := sameSlots_any ⟨aU, ⟨0, bH, bI, aX⟩⟩ ⟨aU, ⟨0, bH, bI, aX⟩⟩ wx iz iz (fE.same hk) (fE.same hk)
  simpa [StPageRecord.val, BS.v] using h
 have dW : ∀ wx, Same w wx → Calls Tryz.prog 95 #[.slice none 0 0, .slice b9 bp cf] wx fun e w' => e = .returned (.bool (decide (df.length / 4 = 0))) ∧ Same wx w' := fun wx hk => by rw [e1]; exact sameTxnEntry_nil b9 bp cf wx kZ
 have dQ : ∀ wx, Same w wx → Calls Tryz.prog 96 #[.slice none 0 0, .slice ch bo cj] wx fun e w' => e = .returned (.bool (decide (dj.length / 2 = 0))) ∧ Same wx w' := fun wx hk => by rw [e2]; exact sameDirtyEntry_nil ch bo cj wx k8
 have eS : ∀ wx, Same w wx → Calls Tryz.prog 97 #[.slice none 0 0, .slice cg aZ.length cm] wx fun e w' => e = .returned (.bool (decide ([] = aZ))) ∧ Same wx w' := fun wx hk => bytesEq_any _ _ [] aZ wx (fun x hx => by simp at hx) ij ((rd_nil w).same hk) (gY.same hk)
 unfold alone2
 clear fT fE gY gw fG iB iz ij e1 e2 dh ly kZ k8 fX gK
 generalize (false == bU && decide ([] = aY)) = fK at *
 generalize decide (df.length / 4 = 0) = iO at *
 generalize decide (dj.length / 2 = 0) = gL at *
 generalize decide ([] = aZ) = gP at *
 cases fK with
 | false =>
  simp only [Bool.false_and, Bool.and_false]
  exact sameRecords_5 _ _ _ _ _ _ _ _ _ _ _ _ _ _ _ _ _ _ _ _ _ _ _ _ _ _ _ _ _ _ _ _ _ _ _ _ _ _ _ _ _ _ _ _ _ _ _ _ w rfl rfl rfl rfl rfl al
 | true =>
 by_cases qnT : 0 = nT
 case neg =>
  rw [decide_eq_false qnT]
  simp only [Bool.false_and, Bool.and_false]
  exact sameRecords_8 _ _ _ _ _ _ _ _ _ _ _ _ _ _ _ _ _ _ _ _ _ _ _ _ _ _ _ _ _ _ _ _ _ _ _ _ _ _ _ _ _ _ _ _ _ _ _ _ w rfl rfl rfl rfl rfl rfl qnT al aG
 rw [decide_eq_true qnT]
 cases iO with
 | false =>
  simp only [Bool.false_and, Bool.and_false]
  exact sameRecords_9 _ _ _ _ _ _ _ _ _ _ _ _ _ _ _ _ _ _ _ _ _ _ _ _ _ _ _ _ _ _ _ _ _ _ _ _ _ _ _ _ _ _ _ _ _ _ _ _ w rfl rfl rfl rfl rfl rfl qnT al aG dW
 | true =>
 cases gL with
 | false =>
  simp only [Bool.false_and, Bool.and_false]
  exact sameRecords_10 _ _ _ _ _ _ _ _ _ _ _ _ _ _ _ _ _ _ _ _ _ _ _ _ _ _ _ _ _ _ _ _ _ _ _ _ _ _ _ _ _ _ _ _ _ _ _ _ w rfl rfl rfl rfl rfl rfl qnT al aG dW dQ
 | true =>
 cases gP with
 | false =>
  simp only [Bool.false_and, Bool.and_false]
  exact sameRecords_11 _ _ _ _ _ _ _ _ _ _ _ _ _ _ _ _ _ _ _ _ _ _ _ _ _ _ _ _ _ _ _ _ _ _ _ _ _ _ _ _ _ _ _ _ _ _ _ _ w rfl rfl rfl rfl rfl rfl qnT al aG dW dQ eS
 | true =>
 simp only [Bool.and_true, Bool.and_self]
 exact sameRecords_12 _ _ _ _ _ _ _ _ _ _ _ _ _ _ _ _ _ _ _ _ _ _ _ _ _ _ _ _ _ _ _ _ _ _ _ _ _ _ _ _ _ _ _ _ _ _ _ _ w rfl rfl rfl rfl rfl rfl qnT al aG dW dQ eS
theorem same_3 (txn prev page slot : Int) (bU : Bool) (bN : Option Addr) (bO : Nat) (aY : List Int) (aU : Bool) (bH : Option Addr) (bI : Nat) (aX : List Int) (uN nT : Int) (fQ : TypeId) (b9 : Option Addr) (bp cf : Nat) (df : List Int) (fP : TypeId) (ch : Option Addr) (bo cj : Nat) (dj : List Int) (cg : Option Addr) (cm : Nat) (aZ : List Int) (w : World) (iB : IsB aY) (iz : IsB aX) (ij : IsB aZ) (fT : Rd .u8 w (.slice bN aY.length bO) aY) (fE : Rd .u8 w (.slice bH aX.length bI) aX) (gY : Rd .u8 w (.slice cg aZ.length cm) aZ) (gw : RdF 4 w ⟨fQ, b9, bp, cf, df⟩) (fG : RdF 2 w ⟨fP, ch, bo, cj, dj⟩) (fX : bp ≤ 1125899906842624) (gK : bo ≤ 1125899906842624) :
  Calls Tryz.prog 74 #[.agg #[.int .i64 3, .int .i64 txn, .int .i64 prev, .int .i64 0, .int .i64 0, .bool false, .slice none 0 0, .bool false, .slice none 0 0, .int .i64 0, .int .i64 0, .slice none 0 0, .slice none 0 0, .slice none 0 0], .agg #[.int .i64 3, .int .i64 txn, .int .i64 prev, .int .i64 page, .int .i64 slot, .bool bU, .slice bN aY.length bO, .bool aU, .slice bH aX.length bI, .int .i64 uN, .int .i64 nT, .slice b9 bp cf, .slice ch bo cj, .slice cg aZ.length cm]] w fun e w' => e = .returned (.bool (alone3 txn prev page slot bU aY aU aX uN nT df dj aZ)) ∧ Same w w' := by
 have dh := gw.2.1
 have ly := fG.2.1
 dsimp only at dh ly
 have e1 : df.length / 4 = bp := by omega
 have e2 : dj.length / 2 = bo := by omega
 have kZ := gw.1
 have k8 := fG.1
 dsimp only at kZ k8
 have al : ∀ wx, Same w wx → Calls Tryz.prog 94 #[.agg #[.bool false, .slice none 0 0], .agg #[.bool bU, .slice bN aY.length bO]] wx fun e w' => e = .returned (.bool (false == bU && decide ([] = aY))) ∧ Same wx w' := fun wx hk => sameSlots_any ⟨false, ⟨0, none, 0, []⟩⟩ ⟨bU, ⟨0, bN, bO, aY⟩⟩ wx (fun x hx => by simp at hx) iB ((rd_nil w).same hk) (fT.same hk)
 have aG : ∀ wx, Same w wx → Calls Tryz.prog 94 #[.agg #[.bool false, .slice none 0 0], .agg #[.bool aU, .slice bH aX.length bI]] wx fun e w' => e = .returned (.bool (false == aU && decide ([] = aX))) ∧ Same wx w' := fun wx hk => sameSlots_any ⟨false, ⟨0, none, 0, []⟩⟩ ⟨aU, ⟨0, bH, bI, aX⟩⟩ wx (fun x hx => by simp at hx) iz ((rd_nil w).same hk) (fE.same hk)
 have dW : ∀ wx, Same w wx → Calls Tryz.prog 95 #[.slice none 0 0, .slice b9 bp cf] wx fun e w' => e = .returned (.bool (decide (df.length / 4 = 0))) ∧ Same wx w' := fun wx hk => by rw [e1]; exact sameTxnEntry_nil b9 bp cf wx kZ
 have dQ : ∀ wx, Same w wx → Calls Tryz.prog 96 #[.slice none 0 0, .slice ch bo cj] wx fun e w' => e = .returned (.bool (decide (dj.length / 2 = 0))) ∧ Same wx w' := fun wx hk => by rw [e2]; exact sameDirtyEntry_nil ch bo cj wx k8
 have eS : ∀ wx, Same w wx → Calls Tryz.prog 97 #[.slice none 0 0, .slice cg aZ.length cm] wx fun e w' => e = .returned (.bool (decide ([] = aZ))) ∧ Same wx w' := fun wx hk => bytesEq_any _ _ [] aZ wx (fun x hx => by simp at hx) ij ((rd_nil w).same hk) (gY.same hk)
 unfold alone3
 clear fT fE gY gw fG iB iz ij e1 e2 dh ly kZ k8 fX gK
 generalize (false == bU && decide ([] = aY)) = fK at *
 generalize (false == aU && decide ([] = aX)) = iq at *
 generalize decide (df.length / 4 = 0) = iO at *
 generalize decide (dj.length / 2 = 0) = gL at *
 generalize decide ([] = aZ) = gP at *
 by_cases qpage : 0 = page
 case neg =>
  rw [decide_eq_false qpage]
  simp only [Bool.false_and, Bool.and_false]
  exact sameRecords_3 _ _ _ _ _ _ _ _ _ _ _ _ _ _ _ _ _ _ _ _ _ _ _ _ _ _ _ _ _ _ _ _ _ _ _ _ _ _ _ _ _ _ _ _ _ _ _ _ w rfl rfl rfl qpage
 rw [decide_eq_true qpage]
 by_cases qslot : 0 = slot
 case neg =>
  rw [decide_eq_false qslot]
  simp only [Bool.false_and, Bool.and_false]
  exact sameRecords_4 _ _ _ _ _ _ _ _ _ _ _ _ _ _ _ _ _ _ _ _ _ _ _ _ _ _ _ _ _ _ _ _ _ _ _ _ _ _ _ _ _ _ _ _ _ _ _ _ w rfl rfl rfl qpage qslot
 rw [decide_eq_true qslot]
 cases fK with
 | false =>
  simp only [Bool.false_and, Bool.and_false]
  exact sameRecords_5 _ _ _ _ _ _ _ _ _ _ _ _ _ _ _ _ _ _ _ _ _ _ _ _ _ _ _ _ _ _ _ _ _ _ _ _ _ _ _ _ _ _ _ _ _ _ _ _ w rfl rfl rfl qpage qslot al
 | true =>
 cases iq with
 | false =>
  simp only [Bool.false_and, Bool.and_false]
  exact sameRecords_6 _ _ _ _ _ _ _ _ _ _ _ _ _ _ _ _ _ _ _ _ _ _ _ _ _ _ _ _ _ _ _ _ _ _ _ _ _ _ _ _ _ _ _ _ _ _ _ _ w rfl rfl rfl qpage qslot al aG
 | true =>
 by_cases quN : 0 = uN
 case neg =>
  rw [decide_eq_false quN]
  simp only [Bool.false_and, Bool.and_false]
  exact sameRecords_7 _ _ _ _ _ _ _ _ _ _ _ _ _ _ _ _ _ _ _ _ _ _ _ _ _ _ _ _ _ _ _ _ _ _ _ _ _ _ _ _ _ _ _ _ _ _ _ _ w rfl rfl rfl qpage qslot quN al aG
 rw [decide_eq_true quN]
 by_cases qnT : 0 = nT
 case neg =>
  rw [decide_eq_false qnT]
  simp only [Bool.false_and, Bool.and_false]
  exact sameRecords_8 _ _ _ _ _ _ _ _ _ _ _ _ _ _ _ _ _ _ _ _ _ _ _ _ _ _ _ _ _ _ _ _ _ _ _ _ _ _ _ _ _ _ _ _ _ _ _ _ w rfl rfl rfl qpage qslot quN qnT al aG
 rw [decide_eq_true qnT]
 cases iO with
 | false =>
  simp only [Bool.false_and, Bool.and_false]
  exact sameRecords_9 _ _ _ _ _ _ _ _ _ _ _ _ _ _ _ _ _ _ _ _ _ _ _ _ _ _ _ _ _ _ _ _ _ _ _ _ _ _ _ _ _ _ _ _ _ _ _ _ w rfl rfl rfl qpage qslot quN qnT al aG dW
 | true =>
 cases gL with
 | false =>
  simp only [Bool.false_and, Bool.and_false]
  exact sameRecords_10 _ _ _ _ _ _ _ _ _ _ _ _ _ _ _ _ _ _ _ _ _ _ _ _ _ _ _ _ _ _ _ _ _ _ _ _ _ _ _ _ _ _ _ _ _ _ _ _ w rfl rfl rfl qpage qslot quN qnT al aG dW dQ
 | true =>
 cases gP with
 | false =>
  simp only [Bool.false_and, Bool.and_false]
  exact sameRecords_11 _ _ _ _ _ _ _ _ _ _ _ _ _ _ _ _ _ _ _ _ _ _ _ _ _ _ _ _ _ _ _ _ _ _ _ _ _ _ _ _ _ _ _ _ _ _ _ _ w rfl rfl rfl qpage qslot quN qnT al aG dW dQ eS
 | true =>
 simp only [Bool.and_true, Bool.and_self]
 exact sameRecords_12 _ _ _ _ _ _ _ _ _ _ _ _ _ _ _ _ _ _ _ _ _ _ _ _ _ _ _ _ _ _ _ _ _ _ _ _ _ _ _ _ _ _ _ _ _ _ _ _ w rfl rfl rfl qpage qslot quN qnT al aG dW dQ eS
theorem same_4 (txn prev page slot : Int) (bU : Bool) (bN : Option Addr) (bO : Nat) (aY : List Int) (aU : Bool) (bH : Option Addr) (bI : Nat) (aX : List Int) (uN nT : Int) (fQ : TypeId) (b9 : Option Addr) (bp cf : Nat) (df : List Int) (fP : TypeId) (ch : Option Addr) (bo cj : Nat) (dj : List Int) (cg : Option Addr) (cm : Nat) (aZ : List Int) (w : World) (iB : IsB aY) (iz : IsB aX) (ij : IsB aZ) (fT : Rd .u8 w (.slice bN aY.length bO) aY) (fE : Rd .u8 w (.slice bH aX.length bI) aX) (gY : Rd .u8 w (.slice cg aZ.length cm) aZ) (gw : RdF 4 w ⟨fQ, b9, bp, cf, df⟩) (fG : RdF 2 w ⟨fP, ch, bo, cj, dj⟩) (fX : bp ≤ 1125899906842624) (gK : bo ≤ 1125899906842624) :
  Calls Tryz.prog 74 #[.agg #[.int .i64 4, .int .i64 txn, .int .i64 prev, .int .i64 0, .int .i64 0, .bool false, .slice none 0 0, .bool false, .slice none 0 0, .int .i64 0, .int .i64 0, .slice none 0 0, .slice none 0 0, .slice none 0 0], .agg #[.int .i64 4, .int .i64 txn, .int .i64 prev, .int .i64 page, .int .i64 slot, .bool bU, .slice bN aY.length bO, .bool aU, .slice bH aX.length bI, .int .i64 uN, .int .i64 nT, .slice b9 bp cf, .slice ch bo cj, .slice cg aZ.length cm]] w fun e w' => e = .returned (.bool (alone4 txn prev page slot bU aY aU aX uN nT df dj aZ)) ∧ Same w w' := by
 have dh := gw.2.1
 have ly := fG.2.1
 dsimp only at dh ly
 have e1 : df.length / 4 = bp := by omega
 have e2 : dj.length / 2 = bo := by omega
 have kZ := gw.1
 have k8 := fG.1
 dsimp only at kZ k8
 have al : ∀ wx, Same w wx → Calls Tryz.prog 94 #[.agg #[.bool false, .slice none 0 0], .agg #[.bool bU, .slice bN aY.length bO]] wx fun e w' => e = .returned (.bool (false == bU && decide ([] = aY))) ∧ Same wx w' := fun wx hk => sameSlots_any ⟨false, ⟨0, none, 0, []⟩⟩ ⟨bU, ⟨0, bN, bO, aY⟩⟩ wx (fun x hx => by simp at hx) iB ((rd_nil w).same hk) (fT.same hk)
 have aG : ∀ wx, Same w wx → Calls Tryz.prog 94 #[.agg #[.bool false, .slice none 0 0], .agg #[.bool aU, .slice bH aX.length bI]] wx fun e w' => e = .returned (.bool (false == aU && decide ([] = aX))) ∧ Same wx w' := fun wx hk => sameSlots_any ⟨false, ⟨0, none, 0, []⟩⟩ ⟨aU, ⟨0, bH, bI, aX⟩⟩ wx (fun x hx => by simp at hx) iz ((rd_nil w).same hk) (fE.same hk)
 have dW : ∀ wx, Same w wx → Calls Tryz.prog 95 #[.slice none 0 0, .slice b9 bp cf] wx fun e w' => e = .returned (.bool (decide (df.length / 4 = 0))) ∧ Same wx w' := fun wx hk => by rw [e1]; exact sameTxnEntry_nil b9 bp cf wx kZ
 have dQ : ∀ wx, Same w wx → Calls Tryz.prog 96 #[.slice none 0 0, .slice ch bo cj] wx fun e w' => e = .returned (.bool (decide (dj.length / 2 = 0))) ∧ Same wx w' := fun wx hk => by rw [e2]; exact sameDirtyEntry_nil ch bo cj wx k8
 have eS : ∀ wx, Same w wx → Calls Tryz.prog 97 #[.slice none 0 0, .slice cg aZ.length cm] wx fun e w' => e = .returned (.bool (decide ([] = aZ))) ∧ Same wx w' := fun wx hk => bytesEq_any _ _ [] aZ wx (fun x hx => by simp at hx) ij ((rd_nil w).same hk) (gY.same hk)
 unfold alone4
 clear fT fE gY gw fG iB iz ij e1 e2 dh ly kZ k8 fX gK
 generalize (false == bU && decide ([] = aY)) = fK at *
 generalize (false == aU && decide ([] = aX)) = iq at *
 generalize decide (df.length / 4 = 0) = iO at *
 generalize decide (dj.length / 2 = 0) = gL at *
 generalize decide ([] = aZ) = gP at *
 by_cases qpage : 0 = page
 case neg =>
  rw [decide_eq_false qpage]
  simp only [Bool.false_and, Bool.and_false]
  exact sameRecords_3 _ _ _ _ _ _ _ _ _ _ _ _ _ _ _ _ _ _ _ _ _ _ _ _ _ _ _ _ _ _ _ _ _ _ _ _ _ _ _ _ _ _ _ _ _ _ _ _ w rfl rfl rfl qpage
 rw [decide_eq_true qpage]
 by_cases qslot : 0 = slot
 case neg =>
  rw [decide_eq_false qslot]
  simp only [Bool.false_and, Bool.and_false]
  exact sameRecords_4 _ _ _ _ _ _ _ _ _ _ _ _ _ _ _ _ _ _ _ _ _ _ _ _ _ _ _ _ _ _ _ _ _ _ _ _ _ _ _ _ _ _ _ _ _ _ _ _ w rfl rfl rfl qpage qslot
 rw [decide_eq_true qslot]
 cases fK with
 | false =>
  simp only [Bool.false_and, Bool.and_false]
  exact sameRecords_5 _ _ _ _ _ _ _ _ _ _ _ _ _ _ _ _ _ _ _ _ _ _ _ _ _ _ _ _ _ _ _ _ _ _ _ _ _ _ _ _ _ _ _ _ _ _ _ _ w rfl rfl rfl qpage qslot al
 | true =>
 cases iq with
 | false =>
  simp only [Bool.false_and, Bool.and_false]
  exact sameRecords_6 _ _ _ _ _ _ _ _ _ _ _ _ _ _ _ _ _ _ _ _ _ _ _ _ _ _ _ _ _ _ _ _ _ _ _ _ _ _ _ _ _ _ _ _ _ _ _ _ w rfl rfl rfl qpage qslot al aG
 | true =>
 by_cases quN : 0 = uN
 case neg =>
  rw [decide_eq_false quN]
  simp only [Bool.false_and, Bool.and_false]
  exact sameRecords_7 _ _ _ _ _ _ _ _ _ _ _ _ _ _ _ _ _ _ _ _ _ _ _ _ _ _ _ _ _ _ _ _ _ _ _ _ _ _ _ _ _ _ _ _ _ _ _ _ w rfl rfl rfl qpage qslot quN al aG
 rw [decide_eq_true quN]
 by_cases qnT : 0 = nT
 case neg =>
  rw [decide_eq_false qnT]
  simp only [Bool.false_and, Bool.and_false]
  exact sameRecords_8 _ _ _ _ _ _ _ _ _ _ _ _ _ _ _ _ _ _ _ _ _ _ _ _ _ _ _ _ _ _ _ _ _ _ _ _ _ _ _ _ _ _ _ _ _ _ _ _ w rfl rfl rfl qpage qslot quN qnT al aG
 rw [decide_eq_true qnT]
 cases iO with
 | false =>
  simp only [Bool.false_and, Bool.and_false]
  exact sameRecords_9 _ _ _ _ _ _ _ _ _ _ _ _ _ _ _ _ _ _ _ _ _ _ _ _ _ _ _ _ _ _ _ _ _ _ _ _ _ _ _ _ _ _ _ _ _ _ _ _ w rfl rfl rfl qpage qslot quN qnT al aG dW
 | true =>
 cases gL with
 | false =>
  simp only [Bool.false_and, Bool.and_false]
  exact sameRecords_10 _ _ _ _ _ _ _ _ _ _ _ _ _ _ _ _ _ _ _ _ _ _ _ _ _ _ _ _ _ _ _ _ _ _ _ _ _ _ _ _ _ _ _ _ _ _ _ _ w rfl rfl rfl qpage qslot quN qnT al aG dW dQ
 | true =>
 cases gP with
 | false =>
  simp only [Bool.false_and, Bool.and_false]
  exact sameRecords_11 _ _ _ _ _ _ _ _ _ _ _ _ _ _ _ _ _ _ _ _ _ _ _ _ _ _ _ _ _ _ _ _ _ _ _ _ _ _ _ _ _ _ _ _ _ _ _ _ w rfl rfl rfl qpage qslot quN qnT al aG dW dQ eS
 | true =>
 simp only [Bool.and_true, Bool.and_self]
 exact sameRecords_12 _ _ _ _ _ _ _ _ _ _ _ _ _ _ _ _ _ _ _ _ _ _ _ _ _ _ _ _ _ _ _ _ _ _ _ _ _ _ _ _ _ _ _ _ _ _ _ _ w rfl rfl rfl qpage qslot quN qnT al aG dW dQ eS
theorem same_5 (txn prev page slot : Int) (bU : Bool) (bN : Option Addr) (bO : Nat) (aY : List Int) (aU : Bool) (bH : Option Addr) (bI : Nat) (aX : List Int) (uN nT : Int) (fQ : TypeId) (b9 : Option Addr) (bp cf : Nat) (df : List Int) (fP : TypeId) (ch : Option Addr) (bo cj : Nat) (dj : List Int) (cg : Option Addr) (cm : Nat) (aZ : List Int) (w : World) (iB : IsB aY) (iz : IsB aX) (ij : IsB aZ) (fT : Rd .u8 w (.slice bN aY.length bO) aY) (fE : Rd .u8 w (.slice bH aX.length bI) aX) (gY : Rd .u8 w (.slice cg aZ.length cm) aZ) (gw : RdF 4 w ⟨fQ, b9, bp, cf, df⟩) (fG : RdF 2 w ⟨fP, ch, bo, cj, dj⟩) (fX : bp ≤ 1125899906842624) (gK : bo ≤ 1125899906842624) :
  Calls Tryz.prog 74 #[.agg #[.int .i64 5, .int .i64 txn, .int .i64 prev, .int .i64 0, .int .i64 0, .bool false, .slice none 0 0, .bool false, .slice none 0 0, .int .i64 0, .int .i64 0, .slice none 0 0, .slice none 0 0, .slice none 0 0], .agg #[.int .i64 5, .int .i64 txn, .int .i64 prev, .int .i64 page, .int .i64 slot, .bool bU, .slice bN aY.length bO, .bool aU, .slice bH aX.length bI, .int .i64 uN, .int .i64 nT, .slice b9 bp cf, .slice ch bo cj, .slice cg aZ.length cm]] w fun e w' => e = .returned (.bool (alone5 txn prev page slot bU aY aU aX uN nT df dj aZ)) ∧ Same w w' := by
 have dh := gw.2.1
 have ly := fG.2.1
 dsimp only at dh ly
 have e1 : df.length / 4 = bp := by omega
 have e2 : dj.length / 2 = bo := by omega
 have kZ := gw.1
 have k8 := fG.1
 dsimp only at kZ k8
 have al : ∀ wx, Same w wx → Calls Tryz.prog 94 #[.agg #[.bool false, .slice none 0 0], .agg #[.bool bU, .slice bN aY.length bO]] wx fun e w' => e = .returned (.bool (false == bU && decide ([] = aY))) ∧ Same wx w' := fun wx hk => sameSlots_any ⟨false, ⟨0, none, 0, []⟩⟩ ⟨bU, ⟨0, bN, bO, aY⟩⟩ wx (fun x hx => by simp at hx) iB ((rd_nil w).same hk) (fT.same hk)
 have aG : ∀ wx, Same w wx → Calls Tryz.prog 94 #[.agg #[.bool false, .slice none 0 0], .agg #[.bool aU, .slice bH aX.length bI]] wx fun e w' => e = .returned (.bool (false == aU && decide ([] = aX))) ∧ Same wx w' := fun wx hk => sameSlots_any ⟨false, ⟨0, none, 0, []⟩⟩ ⟨aU, ⟨0, bH, bI, aX⟩⟩ wx (fun x hx => by simp at hx) iz ((rd_nil w).same hk) (fE.same hk)
 have dW : ∀ wx, Same w wx → Calls Tryz.prog 95 #[.slice none 0 0, .slice b9 bp cf] wx fun e w' => e = .returned (.bool (decide (df.length / 4 = 0))) ∧ Same wx w' := fun wx hk => by rw [e1]; exact sameTxnEntry_nil b9 bp cf wx kZ
 have dQ : ∀ wx, Same w wx → Calls Tryz.prog 96 #[.slice none 0 0, .slice ch bo cj] wx fun e w' => e = .returned (.bool (decide (dj.length / 2 = 0))) ∧ Same wx w' := fun wx hk => by rw [e2]; exact sameDirtyEntry_nil ch bo cj wx k8
 have eS : ∀ wx, Same w wx → Calls Tryz.prog 97 #[.slice none 0 0, .slice cg aZ.length cm] wx fun e w' => e = .returned (.bool (decide ([] = aZ))) ∧ Same wx w' := fun wx hk => bytesEq_any _ _ [] aZ wx (fun x hx => by simp at hx) ij ((rd_nil w).same hk) (gY.same hk)
 unfold alone5
 clear fT fE gY gw fG iB iz ij e1 e2 dh ly kZ k8 fX gK
 generalize (false == bU && decide ([] = aY)) = fK at *
 generalize (false == aU && decide ([] = aX)) = iq at *
 generalize decide (df.length / 4 = 0) = iO at *
 generalize decide (dj.length / 2 = 0) = gL at *
 generalize decide ([] = aZ) = gP at *
 by_cases qpage : 0 = page
 case neg =>
  rw [decide_eq_false qpage]
  simp only [Bool.false_and, Bool.and_false]
  exact sameRecords_3 _ _ _ _ _ _ _ _ _ _ _ _ _ _ _ _ _ _ _ _ _ _ _ _ _ _ _ _ _ _ _ _ _ _ _ _ _ _ _ _ _ _ _ _ _ _ _ _ w rfl rfl rfl qpage
 rw [decide_eq_true qpage]
 by_cases qslot : 0 = slot
 case neg =>
  rw [decide_eq_false qslot]
  simp only [Bool.false_and, Bool.and_false]
  exact sameRecords_4 _ _ _ _ _ _ _ _ _ _ _ _ _ _ _ _ _ _ _ _ _ _ _ _ _ _ _ _ _ _ _ _ _ _ _ _ _ _ _ _ _ _ _ _ _ _ _ _ w rfl rfl rfl qpage qslot
 rw [decide_eq_true qslot]
 cases fK with
 | false =>
  simp only [Bool.false_and, Bool.and_false]
  exact sameRecords_5 _ _ _ _ _ _ _ _ _ _ _ _ _ _ _ _ _ _ _ _ _ _ _ _ _ _ _ _ _ _ _ _ _ _ _ _ _ _ _ _ _ _ _ _ _ _ _ _ w rfl rfl rfl qpage qslot al
 | true =>
 cases iq with
 | false =>
  simp only [Bool.false_and, Bool.and_false]
  exact sameRecords_6 _ _ _ _ _ _ _ _ _ _ _ _ _ _ _ _ _ _ _ _ _ _ _ _ _ _ _ _ _ _ _ _ _ _ _ _ _ _ _ _ _ _ _ _ _ _ _ _ w rfl rfl rfl qpage qslot al aG
 | true =>
 by_cases quN : 0 = uN
 case neg =>
  rw [decide_eq_false quN]
  simp only [Bool.false_and, Bool.and_false]
  exact sameRecords_7 _ _ _ _ _ _ _ _ _ _ _ _ _ _ _ _ _ _ _ _ _ _ _ _ _ _ _ _ _ _ _ _ _ _ _ _ _ _ _ _ _ _ _ _ _ _ _ _ w rfl rfl rfl qpage qslot quN al aG
 rw [decide_eq_true quN]
 by_cases qnT : 0 = nT
 case neg =>
  rw [decide_eq_false qnT]
  simp only [Bool.false_and, Bool.and_false]
  exact sameRecords_8 _ _ _ _ _ _ _ _ _ _ _ _ _ _ _ _ _ _ _ _ _ _ _ _ _ _ _ _ _ _ _ _ _ _ _ _ _ _ _ _ _ _ _ _ _ _ _ _ w rfl rfl rfl qpage qslot quN qnT al aG
 rw [decide_eq_true qnT]
 cases iO with
 | false =>
  simp only [Bool.false_and, Bool.and_false]
  exact sameRecords_9 _ _ _ _ _ _ _ _ _ _ _ _ _ _ _ _ _ _ _ _ _ _ _ _ _ _ _ _ _ _ _ _ _ _ _ _ _ _ _ _ _ _ _ _ _ _ _ _ w rfl rfl rfl qpage qslot quN qnT al aG dW
 | true =>
 cases gL with
 | false =>
  simp only [Bool.false_and, Bool.and_false]
  exact sameRecords_10 _ _ _ _ _ _ _ _ _ _ _ _ _ _ _ _ _ _ _ _ _ _ _ _ _ _ _ _ _ _ _ _ _ _ _ _ _ _ _ _ _ _ _ _ _ _ _ _ w rfl rfl rfl qpage qslot quN qnT al aG dW dQ
 | true =>
 cases gP with
 | false =>
  simp only [Bool.false_and, Bool.and_false]
  exact sameRecords_11 _ _ _ _ _ _ _ _ _ _ _ _ _ _ _ _ _ _ _ _ _ _ _ _ _ _ _ _ _ _ _ _ _ _ _ _ _ _ _ _ _ _ _ _ _ _ _ _ w rfl rfl rfl qpage qslot quN qnT al aG dW dQ eS
 | true =>
 simp only [Bool.and_true, Bool.and_self]
 exact sameRecords_12 _ _ _ _ _ _ _ _ _ _ _ _ _ _ _ _ _ _ _ _ _ _ _ _ _ _ _ _ _ _ _ _ _ _ _ _ _ _ _ _ _ _ _ _ _ _ _ _ w rfl rfl rfl qpage qslot quN qnT al aG dW dQ eS
theorem same_6 (txn prev page slot : Int) (bU : Bool) (bN : Option Addr) (bO : Nat) (aY : List Int) (aU : Bool) (bH : Option Addr) (bI : Nat) (aX : List Int) (uN nT : Int) (fQ : TypeId) (b9 : Option Addr) (bp cf : Nat) (df : List Int) (fP : TypeId) (ch : Option Addr) (bo cj : Nat) (dj : List Int) (cg : Option Addr) (cm : Nat) (aZ : List Int) (w : World) (iB : IsB aY) (iz : IsB aX) (ij : IsB aZ) (fT : Rd .u8 w (.slice bN aY.length bO) aY) (fE : Rd .u8 w (.slice bH aX.length bI) aX) (gY : Rd .u8 w (.slice cg aZ.length cm) aZ) (gw : RdF 4 w ⟨fQ, b9, bp, cf, df⟩) (fG : RdF 2 w ⟨fP, ch, bo, cj, dj⟩) (fX : bp ≤ 1125899906842624) (gK : bo ≤ 1125899906842624) :
  Calls Tryz.prog 74 #[.agg #[.int .i64 6, .int .i64 0, .int .i64 0, .int .i64 0, .int .i64 0, .bool false, .slice none 0 0, .bool false, .slice none 0 0, .int .i64 0, .int .i64 0, .slice none 0 0, .slice none 0 0, .slice none 0 0], .agg #[.int .i64 6, .int .i64 txn, .int .i64 prev, .int .i64 page, .int .i64 slot, .bool bU, .slice bN aY.length bO, .bool aU, .slice bH aX.length bI, .int .i64 uN, .int .i64 nT, .slice b9 bp cf, .slice ch bo cj, .slice cg aZ.length cm]] w fun e w' => e = .returned (.bool (alone6 txn prev page slot bU aY aU aX uN nT df dj aZ)) ∧ Same w w' := by
 have dh := gw.2.1
 have ly := fG.2.1
 dsimp only at dh ly
 have e1 : df.length / 4 = bp := by omega
 have e2 : dj.length / 2 = bo := by omega
 have kZ := gw.1
 have k8 := fG.1
 dsimp only at kZ k8
 have al : ∀ wx, Same w wx → Calls Tryz.prog 94 #[.agg #[.bool false, .slice none 0 0], .agg #[.bool bU, .slice bN aY.length bO]] wx fun e w' => e = .returned (.bool (false == bU && decide ([] = aY))) ∧ Same wx w' := fun wx hk => sameSlots_any ⟨false, ⟨0, none, 0, []⟩⟩ ⟨bU, ⟨0, bN, bO, aY⟩⟩ wx (fun x hx => by simp at hx) iB ((rd_nil w).same hk) (fT.same hk)
 have aG : ∀ wx, Same w wx → Calls Tryz.prog 94 #[.agg #[.bool false, .slice none 0 0], .agg #[.bool aU, .slice bH aX.length bI]] wx fun e w' => e = .returned (.bool (false == aU && decide ([] = aX))) ∧ Same wx w' := fun wx hk => sameSlots_any ⟨false, ⟨0, none, 0, []⟩⟩ ⟨aU, ⟨0, bH, bI, aX⟩⟩ wx (fun x hx => by simp at hx) iz ((rd_nil w).same hk) (fE.same hk)
 have dW : ∀ wx, Same w wx → Calls Tryz.prog 95 #[.slice none 0 0, .slice b9 bp cf] wx fun e w' => e = .returned (.bool (decide (df.length / 4 = 0))) ∧ Same wx w' := fun wx hk => by rw [e1]; exact sameTxnEntry_nil b9 bp cf wx kZ
 have dQ : ∀ wx, Same w wx → Calls Tryz.prog 96 #[.slice none 0 0, .slice ch bo cj] wx fun e w' => e = .returned (.bool (decide (dj.length / 2 = 0))) ∧ Same wx w' := fun wx hk => by rw [e2]; exact sameDirtyEntry_nil ch bo cj wx k8
 have eS : ∀ wx, Same w wx → Calls Tryz.prog 97 #[.slice none 0 0, .slice cg aZ.length cm] wx fun e w' => e = .returned (.bool (decide ([] = aZ))) ∧ Same wx w' := fun wx hk => bytesEq_any _ _ [] aZ wx (fun x hx => by simp at hx) ij ((rd_nil w).same hk) (gY.same hk)
 unfold alone6
 clear fT fE gY gw fG iB iz ij e1 e2 dh ly kZ k8 fX gK
 generalize (false == bU && decide ([] = aY)) = fK at *
 generalize (false == aU && decide ([] = aX)) = iq at *
 generalize decide (df.length / 4 = 0) = iO at *
 generalize decide (dj.length / 2 = 0) = gL at *
 generalize decide ([] = aZ) = gP at *
 by_cases qtxn : 0 = txn
 case neg =>
  rw [decide_eq_false qtxn]
  simp only [Bool.false_and, Bool.and_false]
  exact sameRecords_1 _ _ _ _ _ _ _ _ _ _ _ _ _ _ _ _ _ _ _ _ _ _ _ _ _ _ _ _ _ _ _ _ _ _ _ _ _ _ _ _ _ _ _ _ _ _ _ _ w rfl qtxn
 rw [decide_eq_true qtxn]
 by_cases qprev : 0 = prev
 case neg =>
  rw [decide_eq_false qprev]
  simp only [Bool.false_and, Bool.and_false]
  exact sameRecords_2 _ _ _ _ _ _ _ _ _ _ _ _ _ _ _ _ _ _ _ _ _ _ _ _ _ _ _ _ _ _ _ _ _ _ _ _ _ _ _ _ _ _ _ _ _ _ _ _ w rfl qtxn qprev
 rw [decide_eq_true qprev]
 by_cases qpage : 0 = page
 case neg =>
  rw [decide_eq_false qpage]
  simp only [Bool.false_and, Bool.and_false]
  exact sameRecords_3 _ _ _ _ _ _ _ _ _ _ _ _ _ _ _ _ _ _ _ _ _ _ _ _ _ _ _ _ _ _ _ _ _ _ _ _ _ _ _ _ _ _ _ _ _ _ _ _ w rfl qtxn qprev qpage
 rw [decide_eq_true qpage]
 by_cases qslot : 0 = slot
 case neg =>
  rw [decide_eq_false qslot]
  simp only [Bool.false_and, Bool.and_false]
  exact sameRecords_4 _ _ _ _ _ _ _ _ _ _ _ _ _ _ _ _ _ _ _ _ _ _ _ _ _ _ _ _ _ _ _ _ _ _ _ _ _ _ _ _ _ _ _ _ _ _ _ _ w rfl qtxn qprev qpage qslot
 rw [decide_eq_true qslot]
 cases fK with
 | false =>
  simp only [Bool.false_and, Bool.and_false]
  exact sameRecords_5 _ _ _ _ _ _ _ _ _ _ _ _ _ _ _ _ _ _ _ _ _ _ _ _ _ _ _ _ _ _ _ _ _ _ _ _ _ _ _ _ _ _ _ _ _ _ _ _ w rfl qtxn qprev qpage qslot al
 | true =>
 cases iq with
 | false =>
  simp only [Bool.false_and, Bool.and_false]
  exact sameRecords_6 _ _ _ _ _ _ _ _ _ _ _ _ _ _ _ _ _ _ _ _ _ _ _ _ _ _ _ _ _ _ _ _ _ _ _ _ _ _ _ _ _ _ _ _ _ _ _ _ w rfl qtxn qprev qpage qslot al aG
 | true =>
 by_cases quN : 0 = uN
 case neg =>
  rw [decide_eq_false quN]
  simp only [Bool.false_and, Bool.and_false]
  exact sameRecords_7 _ _ _ _ _ _ _ _ _ _ _ _ _ _ _ _ _ _ _ _ _ _ _ _ _ _ _ _ _ _ _ _ _ _ _ _ _ _ _ _ _ _ _ _ _ _ _ _ w rfl qtxn qprev qpage qslot quN al aG
 rw [decide_eq_true quN]
 by_cases qnT : 0 = nT
 case neg =>
  rw [decide_eq_false qnT]
  simp only [Bool.false_and, Bool.and_false]
  exact sameRecords_8 _ _ _ _ _ _ _ _ _ _ _ _ _ _ _ _ _ _ _ _ _ _ _ _ _ _ _ _ _ _ _ _ _ _ _ _ _ _ _ _ _ _ _ _ _ _ _ _ w rfl qtxn qprev qpage qslot quN qnT al aG
 rw [decide_eq_true qnT]
 cases iO with
 | false =>
  simp only [Bool.false_and, Bool.and_false]
  exact sameRecords_9 _ _ _ _ _ _ _ _ _ _ _ _ _ _ _ _ _ _ _ _ _ _ _ _ _ _ _ _ _ _ _ _ _ _ _ _ _ _ _ _ _ _ _ _ _ _ _ _ w rfl qtxn qprev qpage qslot quN qnT al aG dW
 | true =>
 cases gL with
 | false =>
  simp only [Bool.false_and, Bool.and_false]
  exact sameRecords_10 _ _ _ _ _ _ _ _ _ _ _ _ _ _ _ _ _ _ _ _ _ _ _ _ _ _ _ _ _ _ _ _ _ _ _ _ _ _ _ _ _ _ _ _ _ _ _ _ w rfl qtxn qprev qpage qslot quN qnT al aG dW dQ
 | true =>
 cases gP with
 | false =>
  simp only [Bool.false_and, Bool.and_false]
  exact sameRecords_11 _ _ _ _ _ _ _ _ _ _ _ _ _ _ _ _ _ _ _ _ _ _ _ _ _ _ _ _ _ _ _ _ _ _ _ _ _ _ _ _ _ _ _ _ _ _ _ _ w rfl qtxn qprev qpage qslot quN qnT al aG dW dQ eS
 | true =>
 simp only [Bool.and_true, Bool.and_self]
 exact sameRecords_12 _ _ _ _ _ _ _ _ _ _ _ _ _ _ _ _ _ _ _ _ _ _ _ _ _ _ _ _ _ _ _ _ _ _ _ _ _ _ _ _ _ _ _ _ _ _ _ _ w rfl qtxn qprev qpage qslot quN qnT al aG dW dQ eS
theorem same_7 (txn prev page slot : Int) (bU : Bool) (bN : Option Addr) (bO : Nat) (aY : List Int) (aU : Bool) (bH : Option Addr) (bI : Nat) (aX : List Int) (uN nT : Int) (fQ : TypeId) (b9 : Option Addr) (bp cf : Nat) (df : List Int) (fP : TypeId) (ch : Option Addr) (bo cj : Nat) (dj : List Int) (cg : Option Addr) (cm : Nat) (aZ : List Int) (w : World) (iB : IsB aY) (iz : IsB aX) (ij : IsB aZ) (fT : Rd .u8 w (.slice bN aY.length bO) aY) (fE : Rd .u8 w (.slice bH aX.length bI) aX) (gY : Rd .u8 w (.slice cg aZ.length cm) aZ) (gw : RdF 4 w ⟨fQ, b9, bp, cf, df⟩) (fG : RdF 2 w ⟨fP, ch, bo, cj, dj⟩) (fX : bp ≤ 1125899906842624) (gK : bo ≤ 1125899906842624) :
  Calls Tryz.prog 74 #[.agg #[.int .i64 7, .int .i64 0, .int .i64 0, .int .i64 0, .int .i64 0, .bool false, .slice none 0 0, .bool false, .slice none 0 0, .int .i64 0, .int .i64 nT, .slice b9 bp cf, .slice ch bo cj, .slice none 0 0], .agg #[.int .i64 7, .int .i64 txn, .int .i64 prev, .int .i64 page, .int .i64 slot, .bool bU, .slice bN aY.length bO, .bool aU, .slice bH aX.length bI, .int .i64 uN, .int .i64 nT, .slice b9 bp cf, .slice ch bo cj, .slice cg aZ.length cm]] w fun e w' => e = .returned (.bool (alone7 txn prev page slot bU aY aU aX uN nT df dj aZ)) ∧ Same w w' := by
 have dh := gw.2.1
 have ly := fG.2.1
 dsimp only at dh ly
 have e1 : df.length / 4 = bp := by omega
 have e2 : dj.length / 2 = bo := by omega
 have kZ := gw.1
 have k8 := fG.1
 dsimp only at kZ k8
 have al : ∀ wx, Same w wx → Calls Tryz.prog 94 #[.agg #[.bool false, .slice none 0 0], .agg #[.bool bU, .slice bN aY.length bO]] wx fun e w' => e = .returned (.bool (false == bU && decide ([] = aY))) ∧ Same wx w' := fun wx hk => sameSlots_any ⟨false, ⟨0, none, 0, []⟩⟩ ⟨bU, ⟨0, bN, bO, aY⟩⟩ wx (fun x hx => by simp at hx) iB ((rd_nil w).same hk) (fT.same hk)
 have aG : ∀ wx, Same w wx → Calls Tryz.prog 94 #[.agg #[.bool false, .slice none 0 0], .agg #[.bool aU, .slice bH aX.length bI]] wx fun e w' => e = .returned (.bool (false == aU && decide ([] = aX))) ∧ Same wx w' := fun wx hk => sameSlots_any ⟨false, ⟨0, none, 0, []⟩⟩ ⟨aU, ⟨0, bH, bI, aX⟩⟩ wx (fun x hx => by simp at hx) iz ((rd_nil w).same hk) (fE.same hk)
 have dW : ∀ wx, Same w wx → Calls Tryz.prog 95 #[.slice b9 bp cf, .slice b9 bp cf] wx fun e w' => e = .returned (.bool true) ∧ Same wx w' := fun wx hk => sameTxnEntry_self ⟨fQ, b9, bp, cf, df⟩ wx fX (gw.same hk)
 have dQ : ∀ wx, Same w wx → Calls Tryz.prog 96 #[.slice ch bo cj, .slice ch bo cj] wx fun e w' => e = .returned (.bool true) ∧ Same wx w' := fun wx hk => sameDirtyEntry_self ⟨fP, ch, bo, cj, dj⟩ wx gK (fG.same hk)
 have eS : ∀ wx, Same w wx → Calls Tryz.prog 97 #[.slice none 0 0, .slice cg aZ.length cm] wx fun e w' => e = .returned (.bool (decide ([] = aZ))) ∧ Same wx w' := fun wx hk => bytesEq_any _ _ [] aZ wx (fun x hx => by simp at hx) ij ((rd_nil w).same hk) (gY.same hk)
 unfold alone7
 clear fT fE gY gw fG iB iz ij e1 e2 dh ly kZ k8 fX gK
 generalize (false == bU && decide ([] = aY)) = fK at *
 generalize (false == aU && decide ([] = aX)) = iq at *
 generalize decide ([] = aZ) = gP at *
 by_cases qtxn : 0 = txn
 case neg =>
  rw [decide_eq_false qtxn]
  simp only [Bool.false_and, Bool.and_false]
  exact sameRecords_1 _ _ _ _ _ _ _ _ _ _ _ _ _ _ _ _ _ _ _ _ _ _ _ _ _ _ _ _ _ _ _ _ _ _ _ _ _ _ _ _ _ _ _ _ _ _ _ _ w rfl qtxn
 rw [decide_eq_true qtxn]
 by_cases qprev : 0 = prev
 case neg =>
  rw [decide_eq_false qprev]
  simp only [Bool.false_and, Bool.and_false]
  exact sameRecords_2 _ _ _ _ _ _ _ _ _ _ _ _ _ _ _ _ _ _ _ _ _ _ _ _ _ _ _ _ _ _ _ _ _ _ _ _ _ _ _ _ _ _ _ _ _ _ _ _ w rfl qtxn qprev
 rw [decide_eq_true qprev]
 by_cases qpage : 0 = page
 case neg =>
  rw [decide_eq_false qpage]
  simp only [Bool.false_and, Bool.and_false]
  exact sameRecords_3 _ _ _ _ _ _ _ _ _ _ _ _ _ _ _ _ _ _ _ _ _ _ _ _ _ _ _ _ _ _ _ _ _ _ _ _ _ _ _ _ _ _ _ _ _ _ _ _ w rfl qtxn qprev qpage
 rw [decide_eq_true qpage]
 by_cases qslot : 0 = slot
 case neg =>
  rw [decide_eq_false qslot]
  simp only [Bool.false_and, Bool.and_false]
  exact sameRecords_4 _ _ _ _ _ _ _ _ _ _ _ _ _ _ _ _ _ _ _ _ _ _ _ _ _ _ _ _ _ _ _ _ _ _ _ _ _ _ _ _ _ _ _ _ _ _ _ _ w rfl qtxn qprev qpage qslot
 rw [decide_eq_true qslot]
 cases fK with
 | false =>
  simp only [Bool.false_and, Bool.and_false]
  exact sameRecords_5 _ _ _ _ _ _ _ _ _ _ _ _ _ _ _ _ _ _ _ _ _ _ _ _ _ _ _ _ _ _ _ _ _ _ _ _ _ _ _ _ _ _ _ _ _ _ _ _ w rfl qtxn qprev qpage qslot al
 | true =>
 cases iq with
 | false =>
  simp only [Bool.false_and, Bool.and_false]
  exact sameRecords_6 _ _ _ _ _ _ _ _ _ _ _ _ _ _ _ _ _ _ _ _ _ _ _ _ _ _ _ _ _ _ _ _ _ _ _ _ _ _ _ _ _ _ _ _ _ _ _ _ w rfl qtxn qprev qpage qslot al aG
 | true =>
 by_cases quN : 0 = uN
 case neg =>
  rw [decide_eq_false quN]
  simp only [Bool.false_and, Bool.and_false]
  exact sameRecords_7 _ _ _ _ _ _ _ _ _ _ _ _ _ _ _ _ _ _ _ _ _ _ _ _ _ _ _ _ _ _ _ _ _ _ _ _ _ _ _ _ _ _ _ _ _ _ _ _ w rfl qtxn qprev qpage qslot quN al aG
 rw [decide_eq_true quN]
 cases gP with
 | false =>
  simp only [Bool.false_and, Bool.and_false]
  exact sameRecords_11 _ _ _ _ _ _ _ _ _ _ _ _ _ _ _ _ _ _ _ _ _ _ _ _ _ _ _ _ _ _ _ _ _ _ _ _ _ _ _ _ _ _ _ _ _ _ _ _ w rfl qtxn qprev qpage qslot quN rfl al aG dW dQ eS
 | true =>
 simp only [Bool.and_true, Bool.and_self]
 exact sameRecords_12 _ _ _ _ _ _ _ _ _ _ _ _ _ _ _ _ _ _ _ _ _ _ _ _ _ _ _ _ _ _ _ _ _ _ _ _ _ _ _ _ _ _ _ _ _ _ _ _ w rfl qtxn qprev qpage qslot quN rfl al aG dW dQ eS
theorem same_8 (txn prev page slot : Int) (bU : Bool) (bN : Option Addr) (bO : Nat) (aY : List Int) (aU : Bool) (bH : Option Addr) (bI : Nat) (aX : List Int) (uN nT : Int) (fQ : TypeId) (b9 : Option Addr) (bp cf : Nat) (df : List Int) (fP : TypeId) (ch : Option Addr) (bo cj : Nat) (dj : List Int) (cg : Option Addr) (cm : Nat) (aZ : List Int) (w : World) (iB : IsB aY) (iz : IsB aX) (ij : IsB aZ) (fT : Rd .u8 w (.slice bN aY.length bO) aY) (fE : Rd .u8 w (.slice bH aX.length bI) aX) (gY : Rd .u8 w (.slice cg aZ.length cm) aZ) (gw : RdF 4 w ⟨fQ, b9, bp, cf, df⟩) (fG : RdF 2 w ⟨fP, ch, bo, cj, dj⟩) (fX : bp ≤ 1125899906842624) (gK : bo ≤ 1125899906842624) :
  Calls Tryz.prog 74 #[.agg #[.int .i64 8, .int .i64 0, .int .i64 0, .int .i64 page, .int .i64 0, .bool false, .slice none 0 0, .bool false, .slice none 0 0, .int .i64 0, .int .i64 0, .slice none 0 0, .slice none 0 0, .slice cg aZ.length cm], .agg #[.int .i64 8, .int .i64 txn, .int .i64 prev, .int .i64 page, .int .i64 slot, .bool bU, .slice bN aY.length bO, .bool aU, .slice bH aX.length bI, .int .i64 uN, .int .i64 nT, .slice b9 bp cf, .slice ch bo cj, .slice cg aZ.length cm]] w fun e w' => e = .returned (.bool (alone8 txn prev page slot bU aY aU aX uN nT df dj aZ)) ∧ Same w w' := by
 have dh := gw.2.1
 have ly := fG.2.1
 dsimp only at dh ly
 have e1 : df.length / 4 = bp := by omega
 have e2 : dj.length / 2 = bo := by omega
 have kZ := gw.1
 have k8 := fG.1
 dsimp only at kZ k8
 have al : ∀ wx, Same w wx → Calls Tryz.prog 94 #[.agg #[.bool false, .slice none 0 0], .agg #[.bool bU, .slice bN aY.length bO]] wx fun e w' => e = .returned (.bool (false == bU && decide ([] = aY))) ∧ Same wx w' := fun wx hk => sameSlots_any ⟨false, ⟨0, none, 0, []⟩⟩ ⟨bU, ⟨0, bN, bO, aY⟩⟩ wx (fun x hx => by simp at hx) iB ((rd_nil w).same hk) (fT.same hk)
 have aG : ∀ wx, Same w wx → Calls Tryz.prog 94 #[.agg #[.bool false, .slice none 0 0], .agg #[.bool aU, .slice bH aX.length bI]] wx fun e w' => e = .returned (.bool (false == aU && decide ([] = aX))) ∧ Same wx w' := fun wx hk => sameSlots_any ⟨false, ⟨0, none, 0, []⟩⟩ ⟨aU, ⟨0, bH, bI, aX⟩⟩ wx (fun x hx => by simp at hx) iz ((rd_nil w).same hk) (fE.same hk)
 have dW : ∀ wx, Same w wx → Calls Tryz.prog 95 #[.slice none 0 0, .slice b9 bp cf] wx fun e w' => e = .returned (.bool (decide (df.length / 4 = 0))) ∧ Same wx w' := fun wx hk => by rw [e1]; exact sameTxnEntry_nil b9 bp cf wx kZ
 have dQ : ∀ wx, Same w wx → Calls Tryz.prog 96 #[.slice none 0 0, .slice ch bo cj] wx fun e w' => e = .returned (.bool (decide (dj.length / 2 = 0))) ∧ Same wx w' := fun wx hk => by rw [e2]; exact sameDirtyEntry_nil ch bo cj wx k8
 have eS : ∀ wx, Same w wx → Calls Tryz.prog 97 #[.slice cg aZ.length cm, .slice cg aZ.length cm] wx fun e w' => e = .returned (.bool true) ∧ Same wx w' := fun wx hk => by have h := bytesEq_any _ _ aZ aZ wx ij ij (gY.same hk) (gY.same hk); simpa using h
 unfold alone8
 clear fT fE gY gw fG iB iz ij e1 e2 dh ly kZ k8 fX gK
 generalize (false == bU && decide ([] = aY)) = fK at *
 generalize (false == aU && decide ([] = aX)) = iq at *
 generalize decide (df.length / 4 = 0) = iO at *
 generalize decide (dj.length / 2 = 0) = gL at *
 by_cases qtxn : 0 = txn
 case neg =>
  rw [decide_eq_false qtxn]
  simp only [Bool.false_and, Bool.and_false]
  exact sameRecords_1 _ _ _ _ _ _ _ _ _ _ _ _ _ _ _ _ _ _ _ _ _ _ _ _ _ _ _ _ _ _ _ _ _ _ _ _ _ _ _ _ _ _ _ _ _ _ _ _ w rfl qtxn
 rw [decide_eq_true qtxn]
 by_cases qprev : 0 = prev
 case neg =>
  rw [decide_eq_false qprev]
  simp only [Bool.false_and, Bool.and_false]
  exact sameRecords_2 _ _ _ _ _ _ _ _ _ _ _ _ _ _ _ _ _ _ _ _ _ _ _ _ _ _ _ _ _ _ _ _ _ _ _ _ _ _ _ _ _ _ _ _ _ _ _ _ w rfl qtxn qprev
 rw [decide_eq_true qprev]
 by_cases qslot : 0 = slot
 case neg =>
  rw [decide_eq_false qslot]
  simp only [Bool.false_and, Bool.and_false]
  exact sameRecords_4 _ _ _ _ _ _ _ _ _ _ _ _ _ _ _ _ _ _ _ _ _ _ _ _ _ _ _ _ _ _ _ _ _ _ _ _ _ _ _ _ _ _ _ _ _ _ _ _ w rfl qtxn qprev rfl qslot
 rw [decide_eq_true qslot]
 cases fK with
 | false =>
  simp only [Bool.false_and, Bool.and_false]
  exact sameRecords_5 _ _ _ _ _ _ _ _ _ _ _ _ _ _ _ _ _ _ _ _ _ _ _ _ _ _ _ _ _ _ _ _ _ _ _ _ _ _ _ _ _ _ _ _ _ _ _ _ w rfl qtxn qprev rfl qslot al
 | true =>
 cases iq with
 | false =>
  simp only [Bool.false_and, Bool.and_false]
  exact sameRecords_6 _ _ _ _ _ _ _ _ _ _ _ _ _ _ _ _ _ _ _ _ _ _ _ _ _ _ _ _ _ _ _ _ _ _ _ _ _ _ _ _ _ _ _ _ _ _ _ _ w rfl qtxn qprev rfl qslot al aG
 | true =>
 by_cases quN : 0 = uN
 case neg =>
  rw [decide_eq_false quN]
  simp only [Bool.false_and, Bool.and_false]
  exact sameRecords_7 _ _ _ _ _ _ _ _ _ _ _ _ _ _ _ _ _ _ _ _ _ _ _ _ _ _ _ _ _ _ _ _ _ _ _ _ _ _ _ _ _ _ _ _ _ _ _ _ w rfl qtxn qprev rfl qslot quN al aG
 rw [decide_eq_true quN]
 by_cases qnT : 0 = nT
 case neg =>
  rw [decide_eq_false qnT]
  simp only [Bool.false_and, Bool.and_false]
  exact sameRecords_8 _ _ _ _ _ _ _ _ _ _ _ _ _ _ _ _ _ _ _ _ _ _ _ _ _ _ _ _ _ _ _ _ _ _ _ _ _ _ _ _ _ _ _ _ _ _ _ _ w rfl qtxn qprev rfl qslot quN qnT al aG
 rw [decide_eq_true qnT]
 cases iO with
 | false =>
  simp only [Bool.false_and, Bool.and_false]
  exact sameRecords_9 _ _ _ _ _ _ _ _ _ _ _ _ _ _ _ _ _ _ _ _ _ _ _ _ _ _ _ _ _ _ _ _ _ _ _ _ _ _ _ _ _ _ _ _ _ _ _ _ w rfl qtxn qprev rfl qslot quN qnT al aG dW
 | true =>
 cases gL with
 | false =>
  simp only [Bool.false_and, Bool.and_false]
  exact sameRecords_10 _ _ _ _ _ _ _ _ _ _ _ _ _ _ _ _ _ _ _ _ _ _ _ _ _ _ _ _ _ _ _ _ _ _ _ _ _ _ _ _ _ _ _ _ _ _ _ _ w rfl qtxn qprev rfl qslot quN qnT al aG dW dQ
 | true =>
 simp only [Bool.and_true, Bool.and_self]
 exact sameRecords_12 _ _ _ _ _ _ _ _ _ _ _ _ _ _ _ _ _ _ _ _ _ _ _ _ _ _ _ _ _ _ _ _ _ _ _ _ _ _ _ _ _ _ _ _ _ _ _ _ w rfl qtxn qprev rfl qslot quN qnT al aG dW dQ eS
@[go_sem] theorem inv_1 (n : Nat) (txn prev page slot : Int) (bU aU : Bool) (bN : Option Addr) (bO : Nat) (aY : List Int) (bH : Option Addr) (bI : Nat) (aX : List Int)  (w : World) : (method (n + 1) 139 (.agg #[.int .i64 txn, .int .i64 prev, .int .i64 page, .int .i64 slot, .bool bU, .slice bN aY.length bO, .bool aU, .slice bH aX.length bI]) "loop.example/s02544/impl.fault").run Tryz.prog w = .ok (156, .agg #[.int .i64 txn, .int .i64 prev, .int .i64 page, .int .i64 slot, .bool bU, .slice bN aY.length bO, .bool aU, .slice bH aX.length bI]) w := by kernel_rfl
@[go_sem] theorem inv_2 (n : Nat) (txn prev page slot uN : Int) (aU : Bool) (bH : Option Addr) (bI : Nat) (aX : List Int)  (w : World) : (method (n + 1) 141 (.agg #[.int .i64 txn, .int .i64 prev, .int .i64 page, .int .i64 slot, .bool aU, .slice bH aX.length bI, .int .i64 uN]) "loop.example/s02544/impl.fault").run Tryz.prog w = .ok (160, .agg #[.int .i64 txn, .int .i64 prev, .int .i64 page, .int .i64 slot, .bool aU, .slice bH aX.length bI, .int .i64 uN]) w := by kernel_rfl
@[go_sem] theorem inv_3 (n : Nat) (txn prev : Int)  (w : World) : (method (n + 1) 143 (.agg #[.int .i64 txn, .int .i64 prev]) "loop.example/s02544/impl.fault").run Tryz.prog w = .ok (149, .agg #[.int .i64 txn, .int .i64 prev]) w := by kernel_rfl
@[go_sem] theorem inv_4 (n : Nat) (txn prev : Int)  (w : World) : (method (n + 1) 144 (.agg #[.int .i64 txn, .int .i64 prev]) "loop.example/s02544/impl.fault").run Tryz.prog w = .ok (149, .agg #[.int .i64 txn, .int .i64 prev]) w := by kernel_rfl
@[go_sem] theorem inv_5 (n : Nat) (txn prev : Int)  (w : World) : (method (n + 1) 145 (.agg #[.int .i64 txn, .int .i64 prev]) "loop.example/s02544/impl.fault").run Tryz.prog w = .ok (149, .agg #[.int .i64 txn, .int .i64 prev]) w := by kernel_rfl
@[go_sem] theorem inv_6 (n : Nat)  (w : World) : (method (n + 1) 146 (.agg #[.int .i64 0, .int .i64 0]) "loop.example/s02544/impl.fault").run Tryz.prog w = .ok (161, .agg #[.int .i64 0, .int .i64 0]) w := by kernel_rfl
@[go_sem] theorem inv_7 (n : Nat) (nT : Int) (b9 : Option Addr) (bp cf : Nat) (ch : Option Addr) (bo cj : Nat)  (w : World) : (method (n + 1) 148 (.agg #[.int .i64 0, .int .i64 0, .int .i64 nT, .slice b9 bp cf, .slice ch bo cj]) "loop.example/s02544/impl.fault").run Tryz.prog w = .ok (163, .agg #[.int .i64 0, .int .i64 0, .int .i64 nT, .slice b9 bp cf, .slice ch bo cj]) w := by kernel_rfl
@[go_sem] theorem inv_8 (n : Nat) (page : Int) (cg : Option Addr) (cm : Nat) (aZ : List Int)  (w : World) : (method (n + 1) 150 (.agg #[.int .i64 0, .int .i64 0, .int .i64 page, .slice cg aZ.length cm]) "loop.example/s02544/impl.fault").run Tryz.prog w = .ok (167, .agg #[.int .i64 0, .int .i64 0, .int .i64 page, .slice cg aZ.length cm]) w := by kernel_rfl
end Go.Proofs.YtepdakgfioffgaaGreat
