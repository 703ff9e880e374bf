import Derived.Test.YtglokpakmlegbaaGreatDoorG09
import Derived.Test.YtglokpakmlegbaaGreatDoorG10
import Derived.Test.YtglokpakmlegbaaGreatDoorPlainRec
import Derived.Test.YtglokpakmlegbaaGreatDoorG08
import Derived.Test.YtglokpakmlegbaaGreatDoorG00
import Derived.Test.YtglokpakmlegbaaGreatDoorG02
import Derived.Test.YtglokpakmlegbaaGreatDoorG07
import Derived.Test.YtglokpakmlegbaaGreatDoorG04
import Derived.Deep.RegionWith
import Derived.Deep.DeepMust
import Derived.Deep.AppendLies
namespace Go.Proofs.YtglokpakmlegbaaGreatDoor
set_option linter.unusedVariables false
set_option linter.unusedSimpArgs false
set_option maxRecDepth 100000
set_option maxHeartbeats 16000000
open Go.RowKit
def alone1 (txn prev page slot : Int) (bu : Bool) (bb : List Int) (au : Bool) (ab : List Int) (un nt : Int) (tx dy im : List Int) : Bool := decide (0 = un) && decide (0 = nt) && decide (tx.length / 4 = 0) && decide (dy.length / 2 = 0) && decide ([] = im)
def alone2 (txn prev page slot : Int) (bu : Bool) (bb : List Int) (au : Bool) (ab : List Int) (un nt : Int) (tx dy im : List Int) : Bool := (false == bu && decide ([] = bb)) && decide (0 = nt) && decide (tx.length / 4 = 0) && decide (dy.length / 2 = 0) && decide ([] = im)
def alone3 (txn prev page slot : Int) (bu : Bool) (bb : List Int) (au : Bool) (ab : List Int) (un nt : Int) (tx dy im : List Int) : Bool := decide (0 = page) && decide (0 = slot) && (false == bu && decide ([] = bb)) && (false == au && decide ([] = ab)) && decide (0 = un) && decide (0 = nt) && decide (tx.length / 4 = 0) && decide (dy.length / 2 = 0) && decide ([] = im)
def alone4 (txn prev page slot : Int) (bu : Bool) (bb : List Int) (au : Bool) (ab : List Int) (un nt : Int) (tx dy im : List Int) : Bool := decide (0 = page) && decide (0 = slot) && (false == bu && decide ([] = bb)) && (false == au && decide ([] = ab)) && decide (0 = un) && decide (0 = nt) && decide (tx.length / 4 = 0) && decide (dy.length / 2 = 0) && decide ([] = im)
def alone5 (txn prev page slot : Int) (bu : Bool) (bb : List Int) (au : Bool) (ab : List Int) (un nt : Int) (tx dy im : List Int) : Bool := decide (0 = page) && decide (0 = slot) && (false == bu && decide ([] = bb)) && (false == au && decide ([] = ab)) && decide (0 = un) && decide (0 = nt) && decide (tx.length / 4 = 0) && decide (dy.length / 2 = 0) && decide ([] = im)
def alone6 (txn prev page slot : Int) (bu : Bool) (bb : List Int) (au : Bool) (ab : List Int) (un nt : Int) (tx dy im : List Int) : Bool := decide (0 = txn) && decide (0 = prev) && decide (0 = page) && decide (0 = slot) && (false == bu && decide ([] = bb)) && (false == au && decide ([] = ab)) && decide (0 = un) && decide (0 = nt) && decide (tx.length / 4 = 0) && decide (dy.length / 2 = 0) && decide ([] = im)
def alone7 (txn prev page slot : Int) (bu : Bool) (bb : List Int) (au : Bool) (ab : List Int) (un nt : Int) (tx dy im : List Int) : Bool := decide (0 = txn) && decide (0 = prev) && decide (0 = page) && decide (0 = slot) && (false == bu && decide ([] = bb)) && (false == au && decide ([] = ab)) && decide (0 = un) && decide ([] = im)
def alone8 (txn prev page slot : Int) (bu : Bool) (bb : List Int) (au : Bool) (ab : List Int) (un nt : Int) (tx dy im : List Int) : Bool := decide (0 = txn) && decide (0 = prev) && decide (0 = slot) && (false == bu && decide ([] = bb)) && (false == au && decide ([] = ab)) && decide (0 = un) && decide (0 = nt) && decide (tx.length / 4 = 0) && decide (dy.length / 2 = 0)
def recF (kind txn prev page slot : Int) (bu : Bool) (bb : List Int) (au : Bool) (ab : List Int) (un nt : Int) (tx dy im : List Int) : Int := if kind = 1 then (if alone1 txn prev page slot bu bb au ab un nt tx dy im = true then orF (headF txn prev) (placeF page slot) (updF bu au bb.length ab.length) else 2) else if kind = 2 then (if alone2 txn prev page slot bu bb au ab un nt tx dy im = true then orF (headF txn prev) (placeF page slot) (undF au ab.length un) else 2) else if kind = 3 then (if alone3 txn prev page slot bu bb au ab un nt tx dy im = true then headF txn prev else 2) else if kind = 4 then (if alone4 txn prev page slot bu bb au ab un nt tx dy im = true then headF txn prev else 2) else if kind = 5 then (if alone5 txn prev page slot bu bb au ab un nt tx dy im = true then headF txn prev else 2) else if kind = 6 then (if alone6 txn prev page slot bu bb au ab un nt tx dy im = true then 0 else 2) else if kind = 7 then (if alone7 txn prev page slot bu bb au ab un nt tx dy im = true then tabF nt tx (tx.length / 4) dy (dy.length / 2) else 2) else if kind = 8 then (if alone8 txn prev page slot bu bb au ab un nt tx dy im = true then imgF page im else 2) else 1
theorem rd_nil (w : World) : Rd .u8 w (.slice none 0 0) [] := ⟨Nat.zero_le _, .inl ⟨rfl, none, 0, rfl, fun _ => rfl⟩⟩
theorem same_6 (txn : Int) (prev : Int) (page : Int) (slot : Int) (bU : Bool) (bDa : Option Addr) (bDc : Nat) (bDb : List Int) (aU : Bool) (aDa : Option Addr) (aDc : Nat) (aDb : List Int) (uN : Int) (nT : Int) (tXe : TypeId) (tXa : Option Addr) (tXn tXc : Nat) (tXb : List Int) (dYe : TypeId) (dYa : Option Addr) (dYn dYc : Nat) (dYb : List Int) (iMa : Option Addr) (iMc : Nat) (iMb : List Int) (w : World) (hBb : IsB bDb) (hBa : IsB aDb) (hBi : IsB iMb) (hrb : Rd .u8 w (.slice bDa bDb.length bDc) bDb) (hra : Rd .u8 w (.slice aDa aDb.length aDc) aDb) (hri : Rd .u8 w (.slice iMa iMb.length iMc) iMb) (hrt : RdF 4 w ⟨tXe, tXa, tXn, tXc, tXb⟩) (hrd : RdF 2 w ⟨dYe, dYa, dYn, dYc, dYb⟩) (hnt : tXn ≤ 1125899906842624) (hnd : dYn ≤ 1125899906842624) :
  Calls Tryz.prog 72 #[.agg #[.int .i64 6, .int .i64 0, .int .i64 0, .int .i64 0, .int .i64 0, .bool false, .slice none 0 0, .bool false, .slice none 0 0, .int .i64 0, .int .i64 0, .slice none 0 0, .slice none 0 0, .slice none 0 0], .agg #[.int .i64 6, .int .i64 txn, .int .i64 prev, .int .i64 page, .int .i64 slot, .bool bU, .slice bDa bDb.length bDc, .bool aU, .slice aDa aDb.length aDc, .int .i64 uN, .int .i64 nT, .slice tXa tXn tXc, .slice dYa dYn dYc, .slice iMa iMb.length iMc]] w fun e w' => e = .returned (.bool (alone6 txn prev page slot bU bDb aU aDb uN nT tXb dYb iMb)) ∧ Same w w' := by
 have hlt := hrt.2.1
 have hld := hrd.2.1
 dsimp only at hlt hld
 have e1 : tXb.length / 4 = tXn := by omega
 have e2 : dYb.length / 2 = dYn := by omega
 have hmt := hrt.1
 have hmd := hrd.1
 dsimp only at hmt hmd
 have hbefore : ∀ wx, Same w wx → Calls Tryz.prog 78 #[.agg #[.bool false, .slice none 0 0], .agg #[.bool bU, .slice bDa bDb.length bDc]] wx fun e w' => e = .returned (.bool (false == bU && decide ([] = bDb))) ∧ Same wx w' := fun wx hk => sameSlots_any ⟨false, ⟨0, none, 0, []⟩⟩ ⟨bU, ⟨0, bDa, bDc, bDb⟩⟩ wx (fun x hx => by simp at hx) hBb ((rd_nil w).same hk) (hrb.same hk)
 have hafter : ∀ wx, Same w wx → Calls Tryz.prog 78 #[.agg #[.bool false, .slice none 0 0], .agg #[.bool aU, .slice aDa aDb.length aDc]] wx fun e w' => e = .returned (.bool (false == aU && decide ([] = aDb))) ∧ Same wx w' := fun wx hk => sameSlots_any ⟨false, ⟨0, none, 0, []⟩⟩ ⟨aU, ⟨0, aDa, aDc, aDb⟩⟩ wx (fun x hx => by simp at hx) hBa ((rd_nil w).same hk) (hra.same hk)
 have htxns : ∀ wx, Same w wx → Calls Tryz.prog 79 #[.slice none 0 0, .slice tXa tXn tXc] wx fun e w' => e = .returned (.bool (decide (tXb.length / 4 = 0))) ∧ Same wx w' := fun wx hk => by rw [e1]; exact sameTxnEntry_nil tXa tXn tXc wx hmt
 have hdirty : ∀ wx, Same w wx → Calls Tryz.prog 80 #[.slice none 0 0, .slice dYa dYn dYc] wx fun e w' => e = .returned (.bool (decide (dYb.length / 2 = 0))) ∧ Same wx w' := fun wx hk => by rw [e2]; exact sameDirtyEntry_nil dYa dYn dYc wx hmd
 have himage : ∀ wx, Same w wx → Calls Tryz.prog 81 #[.slice none 0 0, .slice iMa iMb.length iMc] wx fun e w' => e = .returned (.bool (decide ([] = iMb))) ∧ Same wx w' := fun wx hk => bytesEq_any _ _ [] iMb wx (fun x hx => by simp at hx) hBi ((rd_nil w).same hk) (hri.same hk)
 unfold alone6
 clear hrb hra hri hrt hrd hBb hBa hBi e1 e2 hlt hld hmt hmd hnt hnd
 generalize (false == bU && decide ([] = bDb)) = B_before at *
 generalize (false == aU && decide ([] = aDb)) = B_after at *
 generalize decide (tXb.length / 4 = 0) = B_txns at *
 generalize decide (dYb.length / 2 = 0) = B_dirty at *
 generalize decide ([] = iMb) = B_image at *
 by_cases qtxn : 0 = txn
 case neg =>
  rw [decide_eq_false qtxn]
  simp only [Bool.false_and, Bool.and_false]
  exact sameRecords_1 _ _ _ _ _ _ _ _ _ _ _ _ _ _ _ _ _ _ _ _ _ _ _ _ _ _ _ _ _ _ _ _ _ _ _ _ _ _ _ _ _ _ _ _ _ _ _ _ w rfl qtxn
 rw [decide_eq_true qtxn]
 by_cases qprev : 0 = prev
 case neg =>
  rw [decide_eq_false qprev]
  simp only [Bool.false_and, Bool.and_false]
  exact sameRecords_2 _ _ _ _ _ _ _ _ _ _ _ _ _ _ _ _ _ _ _ _ _ _ _ _ _ _ _ _ _ _ _ _ _ _ _ _ _ _ _ _ _ _ _ _ _ _ _ _ w rfl qtxn qprev
 rw [decide_eq_true qprev]
 by_cases qpage : 0 = page
 case neg =>
  rw [decide_eq_false qpage]
  simp only [Bool.false_and, Bool.and_false]
  exact sameRecords_3 _ _ _ _ _ _ _ _ _ _ _ _ _ _ _ _ _ _ _ _ _ _ _ _ _ _ _ _ _ _ _ _ _ _ _ _ _ _ _ _ _ _ _ _ _ _ _ _ w rfl qtxn qprev qpage
 rw [decide_eq_true qpage]
 by_cases qslot : 0 = slot
 case neg =>
  rw [decide_eq_false qslot]
  simp only [Bool.false_and, Bool.and_false]
  exact sameRecords_4 _ _ _ _ _ _ _ _ _ _ _ _ _ _ _ _ _ _ _ _ _ _ _ _ _ _ _ _ _ _ _ _ _ _ _ _ _ _ _ _ _ _ _ _ _ _ _ _ w rfl qtxn qprev qpage qslot
 rw [decide_eq_true qslot]
 cases B_before with
 | false =>
  simp only [Bool.false_and, Bool.and_false]
  exact sameRecords_5 _ _ _ _ _ _ _ _ _ _ _ _ _ _ _ _ _ _ _ _ _ _ _ _ _ _ _ _ _ _ _ _ _ _ _ _ _ _ _ _ _ _ _ _ _ _ _ _ w rfl qtxn qprev qpage qslot hbefore
 | true =>
 cases B_after with
 | false =>
  simp only [Bool.false_and, Bool.and_false]
  exact sameRecords_6 _ _ _ _ _ _ _ _ _ _ _ _ _ _ _ _ _ _ _ _ _ _ _ _ _ _ _ _ _ _ _ _ _ _ _ _ _ _ _ _ _ _ _ _ _ _ _ _ w rfl qtxn qprev qpage qslot hbefore hafter
 | true =>
 by_cases quN : 0 = uN
 case neg =>
  rw [decide_eq_false quN]
  simp only [Bool.false_and, Bool.and_false]
  exact sameRecords_7 _ _ _ _ _ _ _ _ _ _ _ _ _ _ _ _ _ _ _ _ _ _ _ _ _ _ _ _ _ _ _ _ _ _ _ _ _ _ _ _ _ _ _ _ _ _ _ _ w rfl qtxn qprev qpage qslot quN hbefore hafter
 rw [decide_eq_true quN]
 by_cases qnT : 0 = nT
 case neg =>
  rw [decide_eq_false qnT]
  simp only [Bool.false_and, Bool.and_false]
  exact sameRecords_8 _ _ _ _ _ _ _ _ _ _ _ _ _ _ _ _ _ _ _ _ _ _ _ _ _ _ _ _ _ _ _ _ _ _ _ _ _ _ _ _ _ _ _ _ _ _ _ _ w rfl qtxn qprev qpage qslot quN qnT hbefore hafter
 rw [decide_eq_true qnT]
 cases B_txns with
 | false =>
  simp only [Bool.false_and, Bool.and_false]
  exact sameRecords_9 _ _ _ _ _ _ _ _ _ _ _ _ _ _ _ _ _ _ _ _ _ _ _ _ _ _ _ _ _ _ _ _ _ _ _ _ _ _ _ _ _ _ _ _ _ _ _ _ w rfl qtxn qprev qpage qslot quN qnT hbefore hafter htxns
 | true =>
 cases B_dirty with
 | false =>
  simp only [Bool.false_and, Bool.and_false]
  exact sameRecords_10 _ _ _ _ _ _ _ _ _ _ _ _ _ _ _ _ _ _ _ _ _ _ _ _ _ _ _ _ _ _ _ _ _ _ _ _ _ _ _ _ _ _ _ _ _ _ _ _ w rfl qtxn qprev qpage qslot quN qnT hbefore hafter htxns hdirty
 | true =>
 cases B_image with
 | false =>
  simp only [Bool.false_and, Bool.and_false]
  exact sameRecords_11 _ _ _ _ _ _ _ _ _ _ _ _ _ _ _ _ _ _ _ _ _ _ _ _ _ _ _ _ _ _ _ _ _ _ _ _ _ _ _ _ _ _ _ _ _ _ _ _ w rfl qtxn qprev qpage qslot quN qnT hbefore hafter htxns hdirty himage
 | true =>
 simp only [Bool.and_true, Bool.and_self]
 exact sameRecords_12 _ _ _ _ _ _ _ _ _ _ _ _ _ _ _ _ _ _ _ _ _ _ _ _ _ _ _ _ _ _ _ _ _ _ _ _ _ _ _ _ _ _ _ _ _ _ _ _ w rfl qtxn qprev qpage qslot quN qnT hbefore hafter htxns hdirty himage
theorem same_7 (txn : Int) (prev : Int) (page : Int) (slot : Int) (bU : Bool) (bDa : Option Addr) (bDc : Nat) (bDb : List Int) (aU : Bool) (aDa : Option Addr) (aDc : Nat) (aDb : List Int) (uN : Int) (nT : Int) (tXe : TypeId) (tXa : Option Addr) (tXn tXc : Nat) (tXb : List Int) (dYe : TypeId) (dYa : Option Addr) (dYn dYc : Nat) (dYb : List Int) (iMa : Option Addr) (iMc : Nat) (iMb : List Int) (w : World) (hBb : IsB bDb) (hBa : IsB aDb) (hBi : IsB iMb) (hrb : Rd .u8 w (.slice bDa bDb.length bDc) bDb) (hra : Rd .u8 w (.slice aDa aDb.length aDc) aDb) (hri : Rd .u8 w (.slice iMa iMb.length iMc) iMb) (hrt : RdF 4 w ⟨tXe, tXa, tXn, tXc, tXb⟩) (hrd : RdF 2 w ⟨dYe, dYa, dYn, dYc, dYb⟩) (hnt : tXn ≤ 1125899906842624) (hnd : dYn ≤ 1125899906842624) :
  Calls Tryz.prog 72 #[.agg #[.int .i64 7, .int .i64 0, .int .i64 0, .int .i64 0, .int .i64 0, .bool false, .slice none 0 0, .bool false, .slice none 0 0, .int .i64 0, .int .i64 nT, .slice tXa tXn tXc, .slice dYa dYn dYc, .slice none 0 0], .agg #[.int .i64 7, .int .i64 txn, .int .i64 prev, .int .i64 page, .int .i64 slot, .bool bU, .slice bDa bDb.length bDc, .bool aU, .slice aDa aDb.length aDc, .int .i64 uN, .int .i64 nT, .slice tXa tXn tXc, .slice dYa dYn dYc, .slice iMa iMb.length iMc]] w fun e w' => e = .returned (.bool (alone7 txn prev page slot bU bDb aU aDb uN nT tXb dYb iMb)) ∧ Same w w' := by
 have hlt := hrt.2.1
 have hld := hrd.2.1
 dsimp only at hlt hld
 have e1 : tXb.length / 4 = tXn := by omega
 have e2 : dYb.length / 2 = dYn := by omega
 have hmt := hrt.1
 have hmd := hrd.1
 dsimp only at hmt hmd
 have hbefore : ∀ wx, Same w wx → Calls Tryz.prog 78 #[.agg #[.bool false, .slice none 0 0], .agg #[.bool bU, .slice bDa bDb.length bDc]] wx fun e w' => e = .returned (.bool (false == bU && decide ([] = bDb))) ∧ Same wx w' := fun wx hk => sameSlots_any ⟨false, ⟨0, none, 0, []⟩⟩ ⟨bU, ⟨0, bDa, bDc, bDb⟩⟩ wx (fun x hx => by simp at hx) hBb ((rd_nil w).same hk) (hrb.same hk)
 have hafter : ∀ wx, Same w wx → Calls Tryz.prog 78 #[.agg #[.bool false, .slice none 0 0], .agg #[.bool aU, .slice aDa aDb.length aDc]] wx fun e w' => e = .returned (.bool (false == aU && decide ([] = aDb))) ∧ Same wx w' := fun wx hk => sameSlots_any ⟨false, ⟨0, none, 0, []⟩⟩ ⟨aU, ⟨0, aDa, aDc, aDb⟩⟩ wx (fun x hx => by simp at hx) hBa ((rd_nil w).same hk) (hra.same hk)
 have htxns : ∀ wx, Same w wx → Calls Tryz.prog 79 #[.slice tXa tXn tXc, .slice tXa tXn tXc] wx fun e w' => e = .returned (.bool true) ∧ Same wx w' := fun wx hk => sameTxnEntry_self ⟨tXe, tXa, tXn, tXc, tXb⟩ wx hnt (hrt.same hk)
 have hdirty : ∀ wx, Same w wx → Calls Tryz.prog 80 #[.slice dYa dYn dYc, .slice dYa dYn dYc] wx fun e w' => e = .returned (.bool true) ∧ Same wx w' := fun wx hk => sameDirtyEntry_self ⟨dYe, dYa, dYn, dYc, dYb⟩ wx hnd (hrd.same hk)
 have himage : ∀ wx, Same w wx → Calls Tryz.prog 81 #[.slice none 0 0, .slice iMa iMb.length iMc] wx fun e w' => e = .returned (.bool (decide ([] = iMb))) ∧ Same wx w' := fun wx hk => bytesEq_any _ _ [] iMb wx (fun x hx => by simp at hx) hBi ((rd_nil w).same hk) (hri.same hk)
 unfold alone7
 clear hrb hra hri hrt hrd hBb hBa hBi e1 e2 hlt hld hmt hmd hnt hnd
 generalize (false == bU && decide ([] = bDb)) = B_before at *
 generalize (false == aU && decide ([] = aDb)) = B_after at *
 generalize decide ([] = iMb) = B_image at *
 by_cases qtxn : 0 = txn
 case neg =>
  rw [decide_eq_false qtxn]
  simp only [Bool.false_and, Bool.and_false]
  exact sameRecords_1 _ _ _ _ _ _ _ _ _ _ _ _ _ _ _ _ _ _ _ _ _ _ _ _ _ _ _ _ _ _ _ _ _ _ _ _ _ _ _ _ _ _ _ _ _ _ _ _ w rfl qtxn
 rw [decide_eq_true qtxn]
 by_cases qprev : 0 = prev
 case neg =>
  rw [decide_eq_false qprev]
  simp only [Bool.false_and, Bool.and_false]
  exact sameRecords_2 _ _ _ _ _ _ _ _ _ _ _ _ _ _ _ _ _ _ _ _ _ _ _ _ _ _ _ _ _ _ _ _ _ _ _ _ _ _ _ _ _ _ _ _ _ _ _ _ w rfl qtxn qprev
 rw [decide_eq_true qprev]
 by_cases qpage : 0 = page
 case neg =>
  rw [decide_eq_false qpage]
  simp only [Bool.false_and, Bool.and_false]
  exact sameRecords_3 _ _ _ _ _ _ _ _ _ _ _ _ _ _ _ _ _ _ _ _ _ _ _ _ _ _ _ _ _ _ _ _ _ _ _ _ _ _ _ _ _ _ _ _ _ _ _ _ w rfl qtxn qprev qpage
 rw [decide_eq_true qpage]
 by_cases qslot : 0 = slot
 case neg =>
  rw [decide_eq_false qslot]
  simp only [Bool.false_and, Bool.and_false]
  exact sameRecords_4 _ _ _ _ _ _ _ _ _ _ _ _ _ _ _ _ _ _ _ _ _ _ _ _ _ _ _ _ _ _ _ _ _ _ _ _ _ _ _ _ _ _ _ _ _ _ _ _ w rfl qtxn qprev qpage qslot
 rw [decide_eq_true qslot]
 cases B_before with
 | false =>
  simp only [Bool.false_and, Bool.and_false]
  exact sameRecords_5 _ _ _ _ _ _ _ _ _ _ _ _ _ _ _ _ _ _ _ _ _ _ _ _ _ _ _ _ _ _ _ _ _ _ _ _ _ _ _ _ _ _ _ _ _ _ _ _ w rfl qtxn qprev qpage qslot hbefore
 | true =>
 cases B_after with
 | false =>
  simp only [Bool.false_and, Bool.and_false]
  exact sameRecords_6 _ _ _ _ _ _ _ _ _ _ _ _ _ _ _ _ _ _ _ _ _ _ _ _ _ _ _ _ _ _ _ _ _ _ _ _ _ _ _ _ _ _ _ _ _ _ _ _ w rfl qtxn qprev qpage qslot hbefore hafter
 | true =>
 by_cases quN : 0 = uN
 case neg =>
  rw [decide_eq_false quN]
  simp only [Bool.false_and, Bool.and_false]
  exact sameRecords_7 _ _ _ _ _ _ _ _ _ _ _ _ _ _ _ _ _ _ _ _ _ _ _ _ _ _ _ _ _ _ _ _ _ _ _ _ _ _ _ _ _ _ _ _ _ _ _ _ w rfl qtxn qprev qpage qslot quN hbefore hafter
 rw [decide_eq_true quN]
 cases B_image with
 | false =>
  simp only [Bool.false_and, Bool.and_false]
  exact sameRecords_11 _ _ _ _ _ _ _ _ _ _ _ _ _ _ _ _ _ _ _ _ _ _ _ _ _ _ _ _ _ _ _ _ _ _ _ _ _ _ _ _ _ _ _ _ _ _ _ _ w rfl qtxn qprev qpage qslot quN rfl hbefore hafter htxns hdirty himage
 | true =>
 simp only [Bool.and_true, Bool.and_self]
 exact sameRecords_12 _ _ _ _ _ _ _ _ _ _ _ _ _ _ _ _ _ _ _ _ _ _ _ _ _ _ _ _ _ _ _ _ _ _ _ _ _ _ _ _ _ _ _ _ _ _ _ _ w rfl qtxn qprev qpage qslot quN rfl hbefore hafter htxns hdirty himage
@[go_sem] theorem inv_1 (n : Nat) (txn : Int) (prev : Int) (page : Int) (slot : Int) (bU : Bool) (aU : Bool) (bDa : Option Addr) (bDc : Nat) (bDb : List Int) (aDa : Option Addr) (aDc : Nat) (aDb : List Int)  (w : World) : (method (n + 1) 129 (.agg #[.int .i64 txn, .int .i64 prev, .int .i64 page, .int .i64 slot, .bool bU, .slice bDa bDb.length bDc, .bool aU, .slice aDa aDb.length aDc]) "loop.example/s02544/impl.fault").run Tryz.prog w = .ok (147, .agg #[.int .i64 txn, .int .i64 prev, .int .i64 page, .int .i64 slot, .bool bU, .slice bDa bDb.length bDc, .bool aU, .slice aDa aDb.length aDc]) w := by kernel_rfl
@[go_sem] theorem inv_2 (n : Nat) (txn : Int) (prev : Int) (page : Int) (slot : Int) (uN : Int) (aU : Bool) (aDa : Option Addr) (aDc : Nat) (aDb : List Int)  (w : World) : (method (n + 1) 131 (.agg #[.int .i64 txn, .int .i64 prev, .int .i64 page, .int .i64 slot, .bool aU, .slice aDa aDb.length aDc, .int .i64 uN]) "loop.example/s02544/impl.fault").run Tryz.prog w = .ok (153, .agg #[.int .i64 txn, .int .i64 prev, .int .i64 page, .int .i64 slot, .bool aU, .slice aDa aDb.length aDc, .int .i64 uN]) w := by kernel_rfl
@[go_sem] theorem inv_3 (n : Nat) (txn : Int) (prev : Int)  (w : World) : (method (n + 1) 133 (.agg #[.int .i64 txn, .int .i64 prev]) "loop.example/s02544/impl.fault").run Tryz.prog w = .ok (142, .agg #[.int .i64 txn, .int .i64 prev]) w := by kernel_rfl
@[go_sem] theorem inv_4 (n : Nat) (txn : Int) (prev : Int)  (w : World) : (method (n + 1) 134 (.agg #[.int .i64 txn, .int .i64 prev]) "loop.example/s02544/impl.fault").run Tryz.prog w = .ok (142, .agg #[.int .i64 txn, .int .i64 prev]) w := by kernel_rfl
@[go_sem] theorem inv_5 (n : Nat) (txn : Int) (prev : Int)  (w : World) : (method (n + 1) 135 (.agg #[.int .i64 txn, .int .i64 prev]) "loop.example/s02544/impl.fault").run Tryz.prog w = .ok (142, .agg #[.int .i64 txn, .int .i64 prev]) w := by kernel_rfl
@[go_sem] theorem inv_6 (n : Nat)  (w : World) : (method (n + 1) 136 (.agg #[.int .i64 0, .int .i64 0]) "loop.example/s02544/impl.fault").run Tryz.prog w = .ok (154, .agg #[.int .i64 0, .int .i64 0]) w := by kernel_rfl
@[go_sem] theorem inv_7 (n : Nat) (nT : Int) (tXa : Option Addr) (tXn : Nat) (tXc : Nat) (dYa : Option Addr) (dYn : Nat) (dYc : Nat)  (w : World) : (method (n + 1) 138 (.agg #[.int .i64 0, .int .i64 0, .int .i64 nT, .slice tXa tXn tXc, .slice dYa dYn dYc]) "loop.example/s02544/impl.fault").run Tryz.prog w = .ok (156, .agg #[.int .i64 0, .int .i64 0, .int .i64 nT, .slice tXa tXn tXc, .slice dYa dYn dYc]) w := by kernel_rfl
@[go_sem] theorem inv_8 (n : Nat) (page : Int) (iMa : Option Addr) (iMc : Nat) (iMb : List Int)  (w : World) : (method (n + 1) 140 (.agg #[.int .i64 0, .int .i64 0, .int .i64 page, .slice iMa iMb.length iMc]) "loop.example/s02544/impl.fault").run Tryz.prog w = .ok (160, .agg #[.int .i64 0, .int .i64 0, .int .i64 page, .slice iMa iMb.length iMc]) w := by kernel_rfl
theorem recI_6 (txn : Int) (prev : Int) (page : Int) (slot : Int) (bU : Bool) (bDa : Option Addr) (bDc : Nat) (bDb : List Int) (aU : Bool) (aDa : Option Addr) (aDc : Nat) (aDb : List Int) (uN : Int) (nT : Int) (tXe : TypeId) (tXa : Option Addr) (tXn tXc : Nat) (tXb : List Int) (dYe : TypeId) (dYa : Option Addr) (dYn dYc : Nat) (dYb : List Int) (iMa : Option Addr) (iMc : Nat) (iMb : List Int) (w : World) (hBb : IsB bDb) (hBa : IsB aDb) (hBi : IsB iMb) (hli : iMb.length ≤ 1099511627776) (hrb : Rd .u8 w (.slice bDa bDb.length bDc) bDb) (hra : Rd .u8 w (.slice aDa aDb.length aDc) aDb) (hri : Rd .u8 w (.slice iMa iMb.length iMc) iMb) (hrt : RdF 4 w ⟨tXe, tXa, tXn, tXc, tXb⟩) (hrd : RdF 2 w ⟨dYe, dYa, dYn, dYc, dYb⟩) (hnt : tXn ≤ 1125899906842624) (hnd : dYn ≤ 1125899906842624) :
  Calls Tryz.prog 67 #[.agg #[.int .i64 6, .int .i64 txn, .int .i64 prev, .int .i64 page, .int .i64 slot, .bool bU, .slice bDa bDb.length bDc, .bool aU, .slice aDa aDb.length aDc, .int .i64 uN, .int .i64 nT, .slice tXa tXn tXc, .slice dYa dYn dYc, .slice iMa iMb.length iMc]] w fun e w' => e = .returned (.int .i64 (if alone6 txn prev page slot bU bDb aU aDb uN nT tXb dYb iMb = true then 0 else 2)) ∧ Same w w' := by
 have hT := fun wx => typeRecord_6 txn prev page slot bU bDa bDb.length bDc aU aDa aDb.length aDc uN nT tXa tXn tXc dYa dYn dYc iMa iMb.length iMc wx
 have hP := fun wx => plainRecord_6 txn prev page slot bU bDa bDb.length bDc aU aDa aDb.length aDc uN nT tXa tXn tXc dYa dYn dYc iMa iMb.length iMc wx
 have hS := fun wx (hk : Same w wx) => same_6 txn prev page slot bU bDa bDc bDb aU aDa aDc aDb uN nT tXe tXa tXn tXc tXb dYe dYa dYn dYc dYb iMa iMc iMb wx hBb hBa hBi (hrb.same hk) (hra.same hk) (hri.same hk) (hrt.same hk) (hrd.same hk) hnt hnd
 have hF : ∀ wx, Same w wx → Calls Tryz.prog 154 #[.agg #[.int .i64 0, .int .i64 0]] wx fun e w' => e = .returned (.int .i64 (0)) ∧ Same wx w' := fun wx hk => beginFault_any wx
 have b0 := Blk.new w #[.int .i64 6, .int .i64 txn, .int .i64 prev, .int .i64 page, .int .i64 slot, .bool bU, .slice bDa bDb.length bDc, .bool aU, .slice aDa aDb.length aDc, .int .i64 uN, .int .i64 nT, .slice tXa tXn tXc, .slice dYa dYn dYc, .slice iMa iMb.length iMc] 45
 have hk0 : Same w (w.alloc (.cells #[.int .i64 6, .int .i64 txn, .int .i64 prev, .int .i64 page, .int .i64 slot, .bool bU, .slice bDa bDb.length bDc, .bool aU, .slice aDa aDb.length aDc, .int .i64 uN, .int .i64 nT, .slice tXa tXn tXc, .slice dYa dYn dYc, .slice iMa iMb.length iMc] 45)) := (Kept.refl _ _).alloc _
 generalize alone6 txn prev page slot bU bDb aU aDb uN nT tXb dYb iMb = AL at *
 clear hrb hra hri hrt hrd hBb hBa hBi hnt hnd hli
 have hz : ∀ (wx : World), Same (w.alloc (.cells #[.int .i64 6, .int .i64 txn, .int .i64 prev, .int .i64 page, .int .i64 slot, .bool bU, .slice bDa bDb.length bDc, .bool aU, .slice aDa aDb.length aDc, .int .i64 uN, .int .i64 nT, .slice tXa tXn tXc, .slice dYa dYn dYc, .slice iMa iMb.length iMc] 45)) wx → wx.cell? ⟨w.heap.size, 0, none⟩ = some (.int .i64 6) ∧ wx.cell? ⟨w.heap.size, 1, none⟩ = some (.int .i64 txn) ∧ wx.cell? ⟨w.heap.size, 2, none⟩ = some (.int .i64 prev) ∧ wx.cell? ⟨w.heap.size, 3, none⟩ = some (.int .i64 page) ∧ wx.cell? ⟨w.heap.size, 4, none⟩ = some (.int .i64 slot) ∧ wx.cell? ⟨w.heap.size, 5, none⟩ = some (.bool bU) ∧ wx.cell? ⟨w.heap.size, 6, none⟩ = some (.slice bDa bDb.length bDc) ∧ wx.cell? ⟨w.heap.size, 7, none⟩ = some (.bool aU) ∧ wx.cell? ⟨w.heap.size, 8, none⟩ = some (.slice aDa aDb.length aDc) ∧ wx.cell? ⟨w.heap.size, 9, none⟩ = some (.int .i64 uN) ∧ wx.cell? ⟨w.heap.size, 10, none⟩ = some (.int .i64 nT) ∧ wx.cell? ⟨w.heap.size, 11, none⟩ = some (.slice tXa tXn tXc) ∧ wx.cell? ⟨w.heap.size, 12, none⟩ = some (.slice dYa dYn dYc) ∧ wx.cell? ⟨w.heap.size, 13, none⟩ = some (.slice iMa iMb.length iMc) := fun wx h => ⟨(b0.same h).cell 0, (b0.same h).cell 1, (b0.same h).cell 2, (b0.same h).cell 3, (b0.same h).cell 4, (b0.same h).cell 5, (b0.same h).cell 6, (b0.same h).cell 7, (b0.same h).cell 8, (b0.same h).cell 9, (b0.same h).cell 10, (b0.same h).cell 11, (b0.same h).cell 12, (b0.same h).cell 13⟩
 cases AL with
 | false =>
  simp only [Bool.false_eq_true, if_false]
  go_enter Tryz.func67, Tryz.ntmps67
  go_wp2_with (go_at_call 69; refine (hT _).mono ?_; rintro e w1 ⟨rfl, hk1⟩; obtain ⟨z0, z1, z2, z3, z4, z5, z6, z7, z8, z9, z10, z11, z12, z13⟩ := hz w1 hk1)
  go_region_with (first
   | (go_at_call 73; refine (hP _).mono ?_; rintro e wp ⟨rfl, hkp⟩; have hkq := (Kept.drew hk1).trans hkp; obtain ⟨y0, y1, y2, y3, y4, y5, y6, y7, y8, y9, y10, y11, y12, y13⟩ := hz wp hkq)
   | (go_at_call 72; refine (hS _ (hk0.trans hkq)).mono ?_; rintro e ws ⟨rfl, hks⟩))
  all_goals
   go_wp2
   go_ret
   exact ⟨rfl, (hk0.trans hkq).trans hks⟩
 | true =>
  simp only [if_true]
  go_enter Tryz.func67, Tryz.ntmps67
  go_wp2_with (go_at_call 69; refine (hT _).mono ?_; rintro e w1 ⟨rfl, hk1⟩; obtain ⟨z0, z1, z2, z3, z4, z5, z6, z7, z8, z9, z10, z11, z12, z13⟩ := hz w1 hk1)
  go_region_with (first
   | (go_at_call 73; refine (hP _).mono ?_; rintro e wp ⟨rfl, hkp⟩; have hkq := (Kept.drew hk1).trans hkp; obtain ⟨y0, y1, y2, y3, y4, y5, y6, y7, y8, y9, y10, y11, y12, y13⟩ := hz wp hkq)
   | (go_at_call 72; refine (hS _ (hk0.trans hkq)).mono ?_; rintro e ws ⟨rfl, hks⟩))
  all_goals
   go_wp2_with (go_at_call 154; refine (hF _ ((hk0.trans hkq).trans hks)).mono ?_; rintro e wf ⟨rfl, hkf⟩)
   go_ret
   exact ⟨rfl, ((hk0.trans hkq).trans hks).trans hkf⟩
theorem recI_7 (txn : Int) (prev : Int) (page : Int) (slot : Int) (bU : Bool) (bDa : Option Addr) (bDc : Nat) (bDb : List Int) (aU : Bool) (aDa : Option Addr) (aDc : Nat) (aDb : List Int) (uN : Int) (nT : Int) (tXe : TypeId) (tXa : Option Addr) (tXn tXc : Nat) (tXb : List Int) (dYe : TypeId) (dYa : Option Addr) (dYn dYc : Nat) (dYb : List Int) (iMa : Option Addr) (iMc : Nat) (iMb : List Int) (w : World) (hBb : IsB bDb) (hBa : IsB aDb) (hBi : IsB iMb) (hli : iMb.length ≤ 1099511627776) (hrb : Rd .u8 w (.slice bDa bDb.length bDc) bDb) (hra : Rd .u8 w (.slice aDa aDb.length aDc) aDb) (hri : Rd .u8 w (.slice iMa iMb.length iMc) iMb) (hrt : RdF 4 w ⟨tXe, tXa, tXn, tXc, tXb⟩) (hrd : RdF 2 w ⟨dYe, dYa, dYn, dYc, dYb⟩) (hnt : tXn ≤ 1125899906842624) (hnd : dYn ≤ 1125899906842624) :
  Calls Tryz.prog 67 #[.agg #[.int .i64 7, .int .i64 txn, .int .i64 prev, .int .i64 page, .int .i64 slot, .bool bU, .slice bDa bDb.length bDc, .bool aU, .slice aDa aDb.length aDc, .int .i64 uN, .int .i64 nT, .slice tXa tXn tXc, .slice dYa dYn dYc, .slice iMa iMb.length iMc]] w fun e w' => e = .returned (.int .i64 (if alone7 txn prev page slot bU bDb aU aDb uN nT tXb dYb iMb = true then tabF nT tXb (tXb.length / 4) dYb (dYb.length / 2) else 2)) ∧ Same w w' := by
 have hT := fun wx => typeRecord_7 txn prev page slot bU bDa bDb.length bDc aU aDa aDb.length aDc uN nT tXa tXn tXc dYa dYn dYc iMa iMb.length iMc wx
 have hP := fun wx => plainRecord_7 txn prev page slot bU bDa bDb.length bDc aU aDa aDb.length aDc uN nT tXa tXn tXc dYa dYn dYc iMa iMb.length iMc wx
 have hS := fun wx (hk : Same w wx) => same_7 txn prev page slot bU bDa bDc bDb aU aDa aDc aDb uN nT tXe tXa tXn tXc tXb dYe dYa dYn dYc dYb iMa iMc iMb wx hBb hBa hBi (hrb.same hk) (hra.same hk) (hri.same hk) (hrt.same hk) (hrd.same hk) hnt hnd
 have hlt := hrt.2.1
 have hld := hrd.2.1
 dsimp only at hlt hld
 have e1 : tXb.length / 4 = tXn := by omega
 have e2 : dYb.length / 2 = dYn := by omega
 have e3 : tabF nT tXb (tXb.length / 4) dYb (dYb.length / 2) = tabF nT tXb tXn dYb dYn := by rw [e1, e2]
 have hF : ∀ wx, Same w wx → Calls Tryz.prog 156 #[.agg #[.int .i64 0, .int .i64 0, .int .i64 nT, .slice tXa tXn tXc, .slice dYa dYn dYc]] wx fun e w' => e = .returned (.int .i64 (tabF nT tXb (tXb.length / 4) dYb (dYb.length / 2))) ∧ Same wx w' := fun wx hk => by have h := tablesFault_any nT ⟨tXe, tXa, tXn, tXc, tXb⟩ ⟨dYe, dYa, dYn, dYc, dYb⟩ wx (hrt.same hk) (hrd.same hk); dsimp only [FR.v] at h; rw [e3]; exact h
 have b0 := Blk.new w #[.int .i64 7, .int .i64 txn, .int .i64 prev, .int .i64 page, .int .i64 slot, .bool bU, .slice bDa bDb.length bDc, .bool aU, .slice aDa aDb.length aDc, .int .i64 uN, .int .i64 nT, .slice tXa tXn tXc, .slice dYa dYn dYc, .slice iMa iMb.length iMc] 45
 have hk0 : Same w (w.alloc (.cells #[.int .i64 7, .int .i64 txn, .int .i64 prev, .int .i64 page, .int .i64 slot, .bool bU, .slice bDa bDb.length bDc, .bool aU, .slice aDa aDb.length aDc, .int .i64 uN, .int .i64 nT, .slice tXa tXn tXc, .slice dYa dYn dYc, .slice iMa iMb.length iMc] 45)) := (Kept.refl _ _).alloc _
 generalize alone7 txn prev page slot bU bDb aU aDb uN nT tXb dYb iMb = AL at *
 generalize tabF nT tXb (tXb.length / 4) dYb (dYb.length / 2) = FA at *
 clear hrb hra hri hrt hrd hBb hBa hBi hnt hnd hli hlt hld e1 e2 e3
 have hz : ∀ (wx : World), Same (w.alloc (.cells #[.int .i64 7, .int .i64 txn, .int .i64 prev, .int .i64 page, .int .i64 slot, .bool bU, .slice bDa bDb.length bDc, .bool aU, .slice aDa aDb.length aDc, .int .i64 uN, .int .i64 nT, .slice tXa tXn tXc, .slice dYa dYn dYc, .slice iMa iMb.length iMc] 45)) wx → wx.cell? ⟨w.heap.size, 0, none⟩ = some (.int .i64 7) ∧ wx.cell? ⟨w.heap.size, 1, none⟩ = some (.int .i64 txn) ∧ wx.cell? ⟨w.heap.size, 2, none⟩ = some (.int .i64 prev) ∧ wx.cell? ⟨w.heap.size, 3, none⟩ = some (.int .i64 page) ∧ wx.cell? ⟨w.heap.size, 4, none⟩ = some (.int .i64 slot) ∧ wx.cell? ⟨w.heap.size, 5, none⟩ = some (.bool bU) ∧ wx.cell? ⟨w.heap.size, 6, none⟩ = some (.slice bDa bDb.length bDc) ∧ wx.cell? ⟨w.heap.size, 7, none⟩ = some (.bool aU) ∧ wx.cell? ⟨w.heap.size, 8, none⟩ = some (.slice aDa aDb.length aDc) ∧ wx.cell? ⟨w.heap.size, 9, none⟩ = some (.int .i64 uN) ∧ wx.cell? ⟨w.heap.size, 10, none⟩ = some (.int .i64 nT) ∧ wx.cell? ⟨w.heap.size, 11, none⟩ = some (.slice tXa tXn tXc) ∧ wx.cell? ⟨w.heap.size, 12, none⟩ = some (.slice dYa dYn dYc) ∧ wx.cell? ⟨w.heap.size, 13, none⟩ = some (.slice iMa iMb.length iMc) := fun wx h => ⟨(b0.same h).cell 0, (b0.same h).cell 1, (b0.same h).cell 2, (b0.same h).cell 3, (b0.same h).cell 4, (b0.same h).cell 5, (b0.same h).cell 6, (b0.same h).cell 7, (b0.same h).cell 8, (b0.same h).cell 9, (b0.same h).cell 10, (b0.same h).cell 11, (b0.same h).cell 12, (b0.same h).cell 13⟩
 cases AL with
 | false =>
  simp only [Bool.false_eq_true, if_false]
  go_enter Tryz.func67, Tryz.ntmps67
  go_wp2_with (go_at_call 69; refine (hT _).mono ?_; rintro e w1 ⟨rfl, hk1⟩; obtain ⟨z0, z1, z2, z3, z4, z5, z6, z7, z8, z9, z10, z11, z12, z13⟩ := hz w1 hk1)
  go_region_with (first
   | (go_at_call 73; refine (hP _).mono ?_; rintro e wp ⟨rfl, hkp⟩; have hkq := (Kept.drew hk1).trans hkp; obtain ⟨y0, y1, y2, y3, y4, y5, y6, y7, y8, y9, y10, y11, y12, y13⟩ := hz wp hkq)
   | (go_at_call 72; refine (hS _ (hk0.trans hkq)).mono ?_; rintro e ws ⟨rfl, hks⟩))
  all_goals
   go_wp2
   go_ret
   exact ⟨rfl, (hk0.trans hkq).trans hks⟩
 | true =>
  simp only [if_true]
  go_enter Tryz.func67, Tryz.ntmps67
  go_wp2_with (go_at_call 69; refine (hT _).mono ?_; rintro e w1 ⟨rfl, hk1⟩; obtain ⟨z0, z1, z2, z3, z4, z5, z6, z7, z8, z9, z10, z11, z12, z13⟩ := hz w1 hk1)
  go_region_with (first
   | (go_at_call 73; refine (hP _).mono ?_; rintro e wp ⟨rfl, hkp⟩; have hkq := (Kept.drew hk1).trans hkp; obtain ⟨y0, y1, y2, y3, y4, y5, y6, y7, y8, y9, y10, y11, y12, y13⟩ := hz wp hkq)
   | (go_at_call 72; refine (hS _ (hk0.trans hkq)).mono ?_; rintro e ws ⟨rfl, hks⟩))
  all_goals
   go_wp2_with (go_at_call 156; refine (hF _ ((hk0.trans hkq).trans hks)).mono ?_; rintro e wf ⟨rfl, hkf⟩)
   go_ret
   exact ⟨rfl, ((hk0.trans hkq).trans hks).trans hkf⟩
def recFd (d : Int × Int × Int × Int × Int × (Bool × List Int) × (Bool × List Int) × Int × Int × List Int × List Int × List Int) : Int := recF d.1 d.2.1 d.2.2.1 d.2.2.2.1 d.2.2.2.2.1 d.2.2.2.2.2.1.1 d.2.2.2.2.2.1.2 d.2.2.2.2.2.2.1.1 d.2.2.2.2.2.2.1.2 d.2.2.2.2.2.2.2.1 d.2.2.2.2.2.2.2.2.1 d.2.2.2.2.2.2.2.2.2.1 d.2.2.2.2.2.2.2.2.2.2.1 d.2.2.2.2.2.2.2.2.2.2.2
def StLogRecord.isB (x : StLogRecord) : Prop := IsB x.before.data.bs ∧ IsB x.after.data.bs ∧ IsB x.image.bs
structure Grew (w : World) (v : Value) (w' : World) (v' : Value) : Prop where
 kept : Kept (fun b => v.ownBlock = some b) w w'
 own : ∀ b, v'.ownBlock = some b → v.ownBlock = some b ∨ w.heap.size ≤ b
theorem Grew.trans {w w1 w2 : World} {v v1 v2 : Value} (h : Grew w v w1 v1) (k : Grew w1 v1 w2 v2) : Grew w v w2 v2 := by
 refine ⟨h.kept.next k.kept (fun i hi e => (h.own i e).resolve_right (by omega)), fun b hb => ?_⟩
 rcases k.own b hb with h1 | h1
 ·exact h.own b h1
 ·have := h.kept.size
  exact .inr (by omega)
theorem Grew.of_same {w w' : World} {v : Value} (h : Same w w') : Grew w v w' v := ⟨h.mono (fun _ _ e => absurd e id), fun b hb => .inl hb⟩
theorem Grew.refl (w : World) (v : Value) : Grew w v w v := Grew.of_same (Kept.refl _ _)
theorem Grew.size {w w' : World} {v v' : Value} (h : Grew w v w' v') : w.heap.size ≤ w'.heap.size := h.kept.size
theorem Grew.same {w0 w w' : World} {v v' : Value} (h : Grew w v w' v') (h0 : Same w0 w) (hv : ∀ b, v.ownBlock = some b → w0.heap.size ≤ b) : Same w0 w' :=
 h0.next h.kept (fun i hi e => by have := hv i e; omega)
theorem Grew.fresh {w0 w w' : World} {v v' : Value} (h : Grew w v w' v') (h0 : Same w0 w) (hv : ∀ b, v.ownBlock = some b → w0.heap.size ≤ b) : ∀ b, v'.ownBlock = some b → w0.heap.size ≤ b := fun b hb => by
 rcases h.own b hb with h1 | h1
 ·exact hv b h1
 ·have := h0.size
  omega
theorem run_app {ty : TypeId} {w : World} {v x : Value} {bs ys : List Int} (ho : Own 0 5 .u8 w v bs) (hx : Rd .u8 w x ys) (hl : bs.length + ys.length ≤ 1099511627776) :
  ∃ a n c w', (Builtin.append_ #[24, 24] ty #[v, x]).run Tryz.prog w = .ok (.slice a n c) w' ∧ Own 0 5 .u8 w' (.slice a n c) (bs ++ ys) ∧ Grew w v w' (.slice a n c) := by
 obtain ⟨i0, hi, hz0, hz1, hz2⟩ := info_parts Tryz.infoByte'
 have some_case : ∀ (ad : Addr) (c : Nat), (∀ j u, (vals .u8 ys)[j]? = some u → w.cell? (ad.add j) = some u) → ∃ a n c' w', (Builtin.append_ #[24, 24] ty #[v, .slice (some ad) ys.length c]).run Tryz.prog w = .ok (.slice a n c') w' ∧ Own 0 5 .u8 w' (.slice a n c') (bs ++ ys) ∧ Grew w v w' (.slice a n c') := fun ad c hn => by
  obtain ⟨v', w', hr, h2, h3, _, h5⟩ := run_append_own_at (P := Tryz.prog) w 0 24 ty 5 i0 (.int .u8 0) 1 1 Tryz.underlying24 hi hz0 hz1 hz2 rfl (by decide) v bs.length (vals .u8 bs) ho ad ys.length c (vals .u8 ys) (by simp [vals_length]) hn vals_one (by unfold maxLen; omega) (by omega) (Nat.zero_le _)
  have h2' : Own 0 5 .u8 w' v' (bs ++ ys) := by unfold Own; simpa [vals] using h2
  obtain ⟨a, n, c', rfl⟩ := slice_of_own h2'
  refine ⟨a, n, c', w', hr, h2', Kept.of_grown h3 (fun k e => e), fun b hb => ?_⟩
  rcases h5 with h5 | h5
  ·exact .inl (by rw [← h5]; exact hb)
  ·rw [h5] at hb
   exact .inr (by have := Option.some.inj hb; omega)
 rcases hx.2 with ⟨rfl, a, c, rfl, hac⟩ | ⟨b, off, c, rfl, _, hc⟩
 ·cases a with
  | none =>
   obtain rfl : c = 0 := hac rfl
   have hr := run_append_owned_none (P := Tryz.prog) (w := w) 0 24 ty 5 i0 1 Tryz.underlying24 hi v bs.length (vals .u8 bs) ho
   obtain ⟨a, n, c', rfl⟩ := slice_of_own ho
   exact ⟨a, n, c', w, hr, by rw [List.append_nil]; exact ho, Grew.refl _ _⟩
  | some ad => exact some_case ad c (fun j u h => by simp [vals] at h)
 ·exact some_case ⟨b, off, none⟩ c (news_of hc)
theorem wp_app {w : World} {o : Oper} {a : Act} {K : Act → World → Prop} {Q : Exit → Act → World → Prop} (s x : Operand)
  (ho : o.op = .call { callee := .builtin .append, args := #[s, x], argTypes := #[24, 24] })
  (v xv : Value) (bs ys : List Int) (hs : a.eval s = v) (hx : a.eval x = xv) (hown : Own 0 5 .u8 w v bs) (hrd : Rd .u8 w xv ys) (hl : bs.length + ys.length ≤ 1099511627776)
  (h : ∀ a' n' c' w', Own 0 5 .u8 w' (.slice a' n' c') (bs ++ ys) → Grew w v w' (.slice a' n' c') → K (a.put o.dst (.slice a' n' c')) w') : o.wp Tryz.prog a w K Q := by
 obtain ⟨a', n', c', w', hr, h2, h3⟩ := run_app (ty := o.type) hown hrd hl
 unfold Oper.wp execOp
 simp only [ho, resolve, invoke, builtin, Sem.run_bind, Sem.run_pure, Result.andThen_ok, List.map_toArray, List.map_cons, List.map_nil, hs, hx, hr]
 exact h a' n' c' w' h2 h3
theorem wpList_app {w : World} {ops : Array Oper} {rest : List Oper} {o : Oper} {a : Act} {Q : Exit → Act → World → Prop} (hgd : o.guard = none) (s x : Operand)
  (ho : o.op = .call { callee := .builtin .append, args := #[s, x], argTypes := #[24, 24] })
  (v xv : Value) (bs ys : List Int) (hs : a.eval s = v) (hx : a.eval x = xv) (hown : Own 0 5 .u8 w v bs) (hrd : Rd .u8 w xv ys) (hl : bs.length + ys.length ≤ 1099511627776)
  (h : ∀ a' n' c' w', Own 0 5 .u8 w' (.slice a' n' c') (bs ++ ys) → Grew w v w' (.slice a' n' c') → wpList Tryz.prog ops Q rest (a.put o.dst (.slice a' n' c')) w') : wpList Tryz.prog ops Q (o :: rest) a w :=
 wpList_plain hgd fun _ hK => wp_app s x ho v xv bs ys hs hx hown hrd hl fun a' n' c' w' h2 h3 => hK _ _ (h a' n' c' w' h2 h3)
theorem step_app {w : World} {ops : Array Oper} {o : Oper} {a : Act} {K : Act → World → Prop} {Q : Exit → Act → World → Prop} {E : Prop} (hgd : o.guard = none) (s x : Operand)
  (ho : o.op = .call { callee := .builtin .append, args := #[s, x], argTypes := #[24, 24] })
  (v xv : Value) (bs ys : List Int) (hs : a.eval s = v) (hx : a.eval x = xv) (hown : Own 0 5 .u8 w v bs) (hrd : Rd .u8 w xv ys) (hl : bs.length + ys.length ≤ 1099511627776)
  (h : ∀ a' n' c' w', Own 0 5 .u8 w' (.slice a' n' c') (bs ++ ys) → Grew w v w' (.slice a' n' c') → K (a.put o.dst (.slice a' n' c')) w') :
  if Region.wanted o (yielded ops a.tmps) = true then Oper.wp Tryz.prog o a w K Q else E := by
 have hw : Region.wanted o (yielded ops a.tmps) = true := by simp [Region.wanted, hgd]
 rw [if_pos hw]
 exact wp_app s x ho v xv bs ys hs hx hown hrd hl h
theorem implPut_yes (v n : Int) (w : World) (hi0 : IsI v) (h1 : 1 ≤ n) (h2 : n ≤ 8) (h3 : 0 ≤ v) :
  Calls Tryz.prog 74 #[.int .i64 v, .int .i64 n] w fun e w' => ∃ a c, e = .returned (.slice a (numB v n).length c) ∧ (∀ b, (Value.slice a (numB v n).length c).ownBlock = some b → w.heap.size ≤ b) ∧
   Own 0 5 .u8 w' (.slice a (numB v n).length c) (numB v n) ∧ Same w w' := by
 obtain ⟨n, rfl⟩ : ∃ m : Nat, n = m := ⟨n.toNat, by omega⟩
 obtain ⟨i0, hi, hz0, hz1, hz2⟩ := info_parts Tryz.infoByte'
 obtain ⟨hv1, hv2⟩ := hi0
 have h1' : ¬ (n : Int) < 1 := by omega
 have h2' : ¬ (8 : Int) < n := by omega
 have h3' : ¬ v < 0 := by omega
 by_cases hz : v / 256 ^ n = 0
 ·have hz2' : v / 2 ^ (8 * n) = 0 := by rw [pow8]; exact hz
  have hnum : numB v n = lows v n := by unfold numB; rw [if_neg (by simp only [Int.toNat_natCast]; omega)]; simp
  have HN : Hid (numB v n = lows v n) := hnum
  clear hz hnum
  go_enter Tryz.func74, Tryz.ntmps74
  go_wp2_with (first
   | (at_make; go_loud (refine wpList_make_full _ rfl _ _ 24 rfl 0 5 i0 (.int .u8 0) 1 Tryz.underlying24 hi hz0 hz1 .i64 .i64 _ _ n rfl rfl (by first | rfl | simp | omega) (by first | rfl | simp | omega) (by rw [hz2]; omega) (by unfold maxLen; omega) (Nat.zero_le _) ?_); intro w1 hown1 hgrow1; have HO : Hid (Own 0 5 .u8 w1 (.slice (some ⟨w.heap.size, 0, none⟩) n n) (List.replicate n 0)) := own_made (by simpa using hown1); have HK : Hid (Same w w1) := Kept.of_grown hgrow1 (fun k e => by cases e); clear hown1 hgrow1)
   | (go_at_call 58; refine (writeNumber_any w.heap.size 0 n n 5 (vals .u8 (List.replicate n 0)) v _ (Own.blk HO.out) (by simp [vals]) h3 (by omega) (by omega)).mono ?_; rintro e w2 ⟨rfl, hb2, hk2⟩))
  go_ret
  rw [HN.out, lows_length]
  rw [lay_all _ _ (by simp [vals, lows_length])] at hb2
  refine ⟨_, _, rfl, fun b hb => ?_, ?_, HK.out.next hk2 (fun i hi e => by omega)⟩
  ·simp [Value.ownBlock] at hb; omega
  ·have h := Blk.own hb2 (by unfold maxLen; rw [lows_length]; omega)
   rw [lows_length] at h
   exact h
 ·have hz2' : v / 2 ^ (8 * n) ≠ 0 := by rw [pow8]; exact hz
  have hnum : numB v n = [] := by unfold numB; rw [if_pos (by simp only [Int.toNat_natCast]; omega)]
  have HN : Hid (numB v n = []) := hnum
  clear hz hnum
  go_enter Tryz.func74, Tryz.ntmps74
  go_wp2
  go_ret
  rw [HN.out]
  exact ⟨none, 0, rfl, fun b hb => by simp [Value.ownBlock] at hb, Own.nil _ _ _ _, Kept.refl _ _⟩
theorem implPut_no (v n : Int) (w : World) (h : n < 1 ∨ 8 < n ∨ v < 0) :
  Calls Tryz.prog 74 #[.int .i64 v, .int .i64 n] w fun e w' => e = .returned (.slice none 0 0) ∧ w' = w := by
 rcases h with h | h
 ·go_enter Tryz.func74, Tryz.ntmps74
  go_wp2
  go_ret
  exact ⟨rfl, rfl⟩
 ·by_cases h1 : n < 1
  ·go_enter Tryz.func74, Tryz.ntmps74
   go_wp2
   go_ret
   exact ⟨rfl, rfl⟩
  ·rcases h with h | h
   ·go_enter Tryz.func74, Tryz.ntmps74
    go_wp2
    go_ret
    exact ⟨rfl, rfl⟩
   ·by_cases h2 : 8 < n
    ·go_enter Tryz.func74, Tryz.ntmps74
     go_wp2
     go_ret
     exact ⟨rfl, rfl⟩
    ·go_enter Tryz.func74, Tryz.ntmps74
     go_wp2
     go_ret
     exact ⟨rfl, rfl⟩
theorem implPut_any (v n : Int) (w : World) (hi0 : IsI v) (hi1 : IsI n) :
  Calls Tryz.prog 74 #[.int .i64 v, .int .i64 n] w fun e w' => ∃ a c, e = .returned (.slice a (numB v n).length c) ∧ (∀ b, (Value.slice a (numB v n).length c).ownBlock = some b → w.heap.size ≤ b) ∧
   Own 0 5 .u8 w' (.slice a (numB v n).length c) (numB v n) ∧ Same w w' := by
 by_cases h : n < 1 ∨ 8 < n ∨ v < 0
 ·refine (implPut_no v n w h).mono ?_
  rintro e w' ⟨rfl, rfl⟩
  have e : numB v n = [] := by unfold numB; rw [if_pos (by omega)]
  rw [e]
  exact ⟨none, 0, rfl, fun b hb => by simp [Value.ownBlock] at hb, Own.nil _ _ _ _, Kept.refl _ _⟩
 ·exact implPut_yes v n w hi0 (by omega) (by omega) (by omega)
theorem l4Put_own (v : Value) (bs : List Int) (x n : Int) (w : World) (hx : IsI x) (hn : IsI n) (hl : bs.length ≤ 1073741824) (ho : Own 0 5 .u8 w v bs) :
  Calls Tryz.prog 34 #[v, .int .i64 x, .int .i64 n] w fun e w' => ∃ aa nn cc, e = .returned (.slice aa nn cc) ∧ Own 0 5 .u8 w' (.slice aa nn cc) (bs ++ numB x n) ∧ Grew w v w' (.slice aa nn cc) := by
 have hP := specPut_any x n w hx hn
 have hnl := numB_length x n
 have HO := (show Hid (Own 0 5 .u8 w v bs) from ho)
 clear ho
 go_enter Tryz.func34, Tryz.ntmps34
 go_wp2_with (first
  | (go_at_call 37; refine hP.mono ?_; rintro e w1 ⟨a1, c1, rfl, hf1, ho1, hk1⟩; have HR1 := (show Hid (Rd .u8 w1 (.slice a1 (numB x n).length c1) (numB x n)) from ho1.rd); have HK1 := (show Hid (Same w w1) from hk1); clear hf1 ho1 hk1)
  | (at_builtin; refine wpList_app rfl (.tmp 7) (.tmp 10) rfl v (.slice a1 (numB x n).length c1) bs (numB x n) rfl rfl (HO.out.same HK1.out) HR1.out (by omega) ?_; intro a2 n2 c2 w2 hown2 hk2; have HF := (show Hid (Own 0 5 .u8 w2 (.slice a2 n2 c2) (bs ++ numB x n)) from hown2); have HK := (show Hid (Grew w v w2 (.slice a2 n2 c2)) from (Grew.of_same HK1.out).trans hk2); clear hown2 hk2))
 go_ret
 exact ⟨a2, n2, c2, rfl, HF.out, HK.out⟩
theorem appendNumber_own (v : Value) (bs : List Int) (x n : Int) (w : World) (hx : IsI x) (hn : IsI n) (hl : bs.length ≤ 1073741824) (ho : Own 0 5 .u8 w v bs) :
  Calls Tryz.prog 75 #[v, .int .i64 x, .int .i64 n] w fun e w' => ∃ aa nn cc, e = .returned (.slice aa nn cc) ∧ Own 0 5 .u8 w' (.slice aa nn cc) (bs ++ numB x n) ∧ Grew w v w' (.slice aa nn cc) := by
 have hP := implPut_any x n w hx hn
 have hnl := numB_length x n
 have HO := (show Hid (Own 0 5 .u8 w v bs) from ho)
 clear ho
 go_enter Tryz.func75, Tryz.ntmps75
 go_wp2_with (first
  | (go_at_call 74; refine hP.mono ?_; rintro e w1 ⟨a1, c1, rfl, hf1, ho1, hk1⟩; have HR1 := (show Hid (Rd .u8 w1 (.slice a1 (numB x n).length c1) (numB x n)) from ho1.rd); have HK1 := (show Hid (Same w w1) from hk1); clear hf1 ho1 hk1)
  | (at_builtin; refine wpList_app rfl (.tmp 7) (.tmp 10) rfl v (.slice a1 (numB x n).length c1) bs (numB x n) rfl rfl (HO.out.same HK1.out) HR1.out (by omega) ?_; intro a2 n2 c2 w2 hown2 hk2; have HF := (show Hid (Own 0 5 .u8 w2 (.slice a2 n2 c2) (bs ++ numB x n)) from hown2); have HK := (show Hid (Grew w v w2 (.slice a2 n2 c2)) from (Grew.of_same HK1.out).trans hk2); clear hown2 hk2))
 go_ret
 exact ⟨a2, n2, c2, rfl, HF.out, HK.out⟩
def partB (u : Bool) (d : List Int) : List Int := if u = true then 1 :: (numB d.length 2 ++ d) else [0]
theorem partB_length (u : Bool) (d : List Int) : (partB u d).length ≤ d.length + 9 := by
 unfold partB
 have := numB_length d.length 2
 split
 ·simp; omega
 ·simp
def txB (bs : List Int) (i : Nat) : List Int := numB (bs.getD (i * 4) 0) 4 ++ numB (bs.getD (i * 4 + 1) 0) 1 ++ numB (bs.getD (i * 4 + 2) 0) 8 ++ numB (bs.getD (i * 4 + 3) 0) 8
def dyB (bs : List Int) (i : Nat) : List Int := numB (bs.getD (i * 2) 0) 2 ++ numB (bs.getD (i * 2 + 1) 0) 8
def txsB (bs : List Int) (n : Nat) : List Int := (List.range n).flatMap (txB bs)
def dysB (bs : List Int) (n : Nat) : List Int := (List.range n).flatMap (dyB bs)
theorem txsB_succ (bs : List Int) (n : Nat) : txsB bs (n + 1) = txsB bs n ++ txB bs n := by simp [txsB, List.range_succ]
theorem dysB_succ (bs : List Int) (n : Nat) : dysB bs (n + 1) = dysB bs n ++ dyB bs n := by simp [dysB, List.range_succ]
theorem txsB_zero (bs : List Int) : txsB bs 0 = [] := rfl
theorem dysB_zero (bs : List Int) : dysB bs 0 = [] := rfl
theorem txsB_length (bs : List Int) (n : Nat) : (txsB bs n).length ≤ 32 * n := by
 induction n with
 | zero => simp [txsB]
 | succ n ih =>
  rw [txsB_succ, List.length_append]
  have h0 := numB_length (bs.getD (n * 4) 0) 4
  have h1 := numB_length (bs.getD (n * 4 + 1) 0) 1
  have h2 := numB_length (bs.getD (n * 4 + 2) 0) 8
  have h3 := numB_length (bs.getD (n * 4 + 3) 0) 8
  simp only [txB, List.length_append]
  omega
theorem dysB_length (bs : List Int) (n : Nat) : (dysB bs n).length ≤ 16 * n := by
 induction n with
 | zero => simp [dysB]
 | succ n ih =>
  rw [dysB_succ, List.length_append]
  have h0 := numB_length (bs.getD (n * 2) 0) 2
  have h1 := numB_length (bs.getD (n * 2 + 1) 0) 8
  simp only [dyB, List.length_append]
  omega
def headR (kind txn prev : Int) : List Int := ([kind] ++ numB txn 4) ++ numB prev 8
def recBy (kind txn prev page slot : Int) (bu : Bool) (bb : List Int) (au : Bool) (ab : List Int) (un nt : Int) (tx dy im : List Int) : List Int :=
 if kind = 1 then (((headR kind txn prev ++ numB page 2) ++ numB slot 2) ++ partB bu bb) ++ partB au ab
 else if kind = 2 then (((headR kind txn prev ++ numB page 2) ++ numB slot 2) ++ partB au ab) ++ numB un 8
 else if kind = 7 then (((((headR kind txn prev ++ numB nt 4) ++ numB (tx.length / 4 : Nat) 1) ++ txsB tx (tx.length / 4)) ++ numB (dy.length / 2 : Nat) 1) ++ dysB dy (dy.length / 2))
 else if kind = 8 then (headR kind txn prev ++ numB page 2) ++ im
 else headR kind txn prev
def recBd (d : Int × Int × Int × Int × Int × (Bool × List Int) × (Bool × List Int) × Int × Int × List Int × List Int × List Int) : List Int := recBy d.1 d.2.1 d.2.2.1 d.2.2.2.1 d.2.2.2.2.1 d.2.2.2.2.2.1.1 d.2.2.2.2.2.1.2 d.2.2.2.2.2.2.1.1 d.2.2.2.2.2.2.1.2 d.2.2.2.2.2.2.2.1 d.2.2.2.2.2.2.2.2.1 d.2.2.2.2.2.2.2.2.2.1 d.2.2.2.2.2.2.2.2.2.2.1 d.2.2.2.2.2.2.2.2.2.2.2
theorem headR_length (kind txn prev : Int) : (headR kind txn prev).length ≤ 17 := by
 have h0 := numB_length txn 4
 have h1 := numB_length prev 8
 simp only [headR, List.length_append, List.length_singleton]
 omega
theorem orF_zero {a b c : Int} (h : orF a b c = 0) : a = 0 ∧ b = 0 ∧ c = 0 := by
 unfold orF at h
 split at h
 ·omega
 ·split at h
  ·omega
  ·omega
theorem headF_zero {t p : Int} (h : headF t p = 0) : (1 ≤ t ∧ t ≤ 2147483647) ∧ (0 ≤ p ∧ p ≤ 1099511627776) := by
 unfold headF at h
 split at h
 ·omega
 ·split at h
  ·omega
  ·rename_i h1 h2
   simp [isTxnB, isLSN] at h1 h2
   omega
theorem placeF_zero {p s : Int} (h : placeF p s = 0) : (0 ≤ p ∧ p < 16) ∧ (0 ≤ s ∧ s < 32) := by
 unfold placeF at h
 split at h
 ·rename_i h1
  simp [isPageB, isSlotB] at h1
  omega
 ·omega
theorem updF_zero {bu au : Bool} {bn an : Nat} (h : updF bu au bn an = 0) : bn ≤ 1000 ∧ an ≤ 1000 := by
 unfold updF at h
 split at h
 ·rename_i h1
  simp [fitsB] at h1
  omega
 ·omega
theorem undF_zero {au : Bool} {an : Nat} {un : Int} (h : undF au an un = 0) : an ≤ 1000 ∧ (0 ≤ un ∧ un ≤ 1099511627776) := by
 unfold undF at h
 split at h
 ·omega
 ·split at h
  ·omega
  ·rename_i h1 h2
   simp [fitsB, isLSN] at h1 h2
   omega
theorem good1 {txn prev page slot un nt : Int} {bu au : Bool} {bb ab tx dy im : List Int} (h : recF 1 txn prev page slot bu bb au ab un nt tx dy im = 0) : ((1 ≤ txn ∧ txn ≤ 2147483647) ∧ (0 ≤ prev ∧ prev ≤ 1099511627776)) ∧ ((0 ≤ page ∧ page < 16) ∧ (0 ≤ slot ∧ slot < 32)) ∧ bb.length ≤ 1000 ∧ ab.length ≤ 1000 := by
 unfold recF at h
 rw [if_pos rfl] at h
 split at h
 ·rename_i ha
  obtain ⟨h1, h2, h3⟩ := orF_zero h
  exact ⟨headF_zero h1, placeF_zero h2, updF_zero h3⟩
 ·omega
theorem good2 {txn prev page slot un nt : Int} {bu au : Bool} {bb ab tx dy im : List Int} (h : recF 2 txn prev page slot bu bb au ab un nt tx dy im = 0) : ((1 ≤ txn ∧ txn ≤ 2147483647) ∧ (0 ≤ prev ∧ prev ≤ 1099511627776)) ∧ ((0 ≤ page ∧ page < 16) ∧ (0 ≤ slot ∧ slot < 32)) ∧ ab.length ≤ 1000 ∧ (0 ≤ un ∧ un ≤ 1099511627776) := by
 unfold recF at h
 rw [if_neg (by decide)] at h
 rw [if_pos rfl] at h
 split at h
 ·rename_i ha
  obtain ⟨h1, h2, h3⟩ := orF_zero h
  exact ⟨headF_zero h1, placeF_zero h2, undF_zero h3⟩
 ·omega
theorem good6 {txn prev page slot un nt : Int} {bu au : Bool} {bb ab tx dy im : List Int} (h : recF 6 txn prev page slot bu bb au ab un nt tx dy im = 0) : txn = 0 ∧ prev = 0 := by
 unfold recF at h
 rw [if_neg (by decide)] at h
 rw [if_neg (by decide)] at h
 rw [if_neg (by decide)] at h
 rw [if_neg (by decide)] at h
 rw [if_neg (by decide)] at h
 rw [if_pos rfl] at h
 split at h
 ·rename_i ha
  simp [alone6] at ha
  omega
 ·omega
theorem good7 {txn prev page slot un nt : Int} {bu au : Bool} {bb ab tx dy im : List Int} (h : recF 7 txn prev page slot bu bb au ab un nt tx dy im = 0) : txn = 0 ∧ prev = 0 ∧ (1 ≤ nt ∧ nt ≤ 2147483648) ∧ allTxns tx (tx.length / 4) = true ∧ allDirty dy (dy.length / 2) = true := by
 unfold recF at h
 rw [if_neg (by decide)] at h
 rw [if_neg (by decide)] at h
 rw [if_neg (by decide)] at h
 rw [if_neg (by decide)] at h
 rw [if_neg (by decide)] at h
 rw [if_neg (by decide)] at h
 rw [if_pos rfl] at h
 split at h
 ·rename_i ha
  simp [alone7] at ha
  unfold tabF at h
  split at h
  ·rename_i h1
   simp at h1
   exact ⟨by omega, by omega, by omega, h1.1.2, h1.2⟩
  ·omega
 ·omega
theorem good8 {txn prev page slot un nt : Int} {bu au : Bool} {bb ab tx dy im : List Int} (h : recF 8 txn prev page slot bu bb au ab un nt tx dy im = 0) : txn = 0 ∧ prev = 0 ∧ (0 ≤ page ∧ page < 16) ∧ im.length = 4096 := by
 unfold recF at h
 rw [if_neg (by decide)] at h
 rw [if_neg (by decide)] at h
 rw [if_neg (by decide)] at h
 rw [if_neg (by decide)] at h
 rw [if_neg (by decide)] at h
 rw [if_neg (by decide)] at h
 rw [if_neg (by decide)] at h
 rw [if_pos rfl] at h
 split at h
 ·rename_i ha
  simp [alone8] at ha
  unfold imgF at h
  split at h
  ·omega
  ·split at h
   ·omega
   ·rename_i h1 h2
    have h3 : pageFault im page = 0 := by omega
    simp [isPageB] at h1
    refine ⟨by omega, by omega, by omega, ?_⟩
    unfold pageFault at h3
    split at h3
    ·omega
    ·omega
 ·omega
theorem kind_good {kind : Int} {txn prev page slot un nt : Int} {bu au : Bool} {bb ab tx dy im : List Int} (h : recF kind txn prev page slot bu bb au ab un nt tx dy im = 0) : 1 ≤ kind ∧ kind ≤ 8 := by
 unfold recF at h
 repeat (split at h; · omega)
 omega
theorem tXgood {bs : List Int} {n : Nat} (h : allTxns bs n = true) : n ≤ 8 ∧ ∀ i, i < n → (1 ≤ bs.getD (i * 4) 0 ∧ bs.getD (i * 4) 0 ≤ 2147483647) ∧ (1 ≤ bs.getD (i * 4 + 1) 0 ∧ bs.getD (i * 4 + 1) 0 ≤ 3) ∧ (1 ≤ bs.getD (i * 4 + 2) 0 ∧ bs.getD (i * 4 + 2) 0 ≤ 1099511627776) ∧ (0 ≤ bs.getD (i * 4 + 3) 0 ∧ bs.getD (i * 4 + 3) 0 ≤ bs.getD (i * 4 + 2) 0) := by
 unfold allTxns at h
 simp only [Bool.and_eq_true, decide_eq_true_eq, List.all_eq_true, List.mem_range] at h
 refine ⟨h.1, fun i hi => ?_⟩
 have := h.2 i hi
 simp only [atTxns, oneTxns, isTxnB, Bool.and_eq_true, decide_eq_true_eq] at this
 omega
theorem dYgood {bs : List Int} {n : Nat} (h : allDirty bs n = true) : n ≤ 16 ∧ ∀ i, i < n → (0 ≤ bs.getD (i * 2) 0 ∧ bs.getD (i * 2) 0 < 16) ∧ (1 ≤ bs.getD (i * 2 + 1) 0 ∧ bs.getD (i * 2 + 1) 0 ≤ 1099511627776) := by
 unfold allDirty at h
 simp only [Bool.and_eq_true, decide_eq_true_eq, List.all_eq_true, List.mem_range] at h
 refine ⟨h.1, fun i hi => ?_⟩
 have := h.2 i hi
 simp only [atDirty, oneDirty, isPageB, Bool.and_eq_true, decide_eq_true_eq] at this
 omega
def encFd (d : Int × Int × Int × Int × Int × (Bool × List Int) × (Bool × List Int) × Int × Int × List Int × List Int × List Int) : List Int := if recFd d ≠ 0 then [] else recBd d
theorem headRest_own (v : Value) (bs : List Int) (txn prev : Int) (w : World)  (hl : bs.length ≤ 1000000) (ho : Own 0 5 .u8 w v bs) :
  Calls Tryz.prog 141 #[.agg #[.int .i64 txn, .int .i64 prev], v] w fun e w' => ∃ aa nn cc, e = .returned (.slice aa nn cc) ∧ Own 0 5 .u8 w' (.slice aa nn cc) (bs ++ []) ∧ Grew w v w' (.slice aa nn cc) := by
 obtain ⟨aa, nn, cc, rfl⟩ := slice_of_own ho
 have HO0 := (show Hid (Own 0 5 .u8 ((w.alloc (.cells #[.int .i64 txn, .int .i64 prev] 125))) (.slice aa nn cc) (bs)) from ho.same ((Kept.refl _ _).alloc _))
 have HG0 := (show Hid (Grew w (.slice aa nn cc) ((w.alloc (.cells #[.int .i64 txn, .int .i64 prev] 125))) (.slice aa nn cc)) from Grew.of_same ((Kept.refl _ _).alloc _))
 clear ho
 go_enter Tryz.func141, Tryz.ntmps141
 go_wp2
 go_ret
 exact ⟨aa, nn, cc, rfl, by simpa using HO0.out, HG0.out⟩
end Go.Proofs.YtglokpakmlegbaaGreatDoor
