import Derived.Test.YtdgmecmkkddpeaaGreatKindFault2
import Derived.Test.YtdgmecmkkddpeaaGreatG14
import Derived.Test.YtdgmecmkkddpeaaGreatPlainRec
import Derived.Test.YtdgmecmkkddpeaaGreatG03
import Derived.Test.YtdgmecmkkddpeaaGreatG04
import Derived.Test.YtdgmecmkkddpeaaGreatG05
import Derived.Test.YtdgmecmkkddpeaaGreatTables
import Derived.Test.YtdgmecmkkddpeaaGreatG10
namespace Go.Proofs.YtdgmecmkkddpeaaGreat
set_option linter.unusedVariables false
set_option linter.unusedSimpArgs false
set_option maxRecDepth 100000
set_option maxHeartbeats 4000000
open Go.RowKit
def alone1 (txn prev page slot : Int) (bu : Bool) (bb : List Int) (au : Bool) (ab : List Int) (un nt : Int) (tx dy im : List Int) : Bool := decide (0 = un) && decide (0 = nt) && decide (tx.length / 4 = 0) && decide (dy.length / 2 = 0) && decide ([] = im)
def alone2 (txn prev page slot : Int) (bu : Bool) (bb : List Int) (au : Bool) (ab : List Int) (un nt : Int) (tx dy im : List Int) : Bool := (false == bu && decide ([] = bb)) && decide (0 = nt) && decide (tx.length / 4 = 0) && decide (dy.length / 2 = 0) && decide ([] = im)
def alone3 (txn prev page slot : Int) (bu : Bool) (bb : List Int) (au : Bool) (ab : List Int) (un nt : Int) (tx dy im : List Int) : Bool := decide (0 = page) && decide (0 = slot) && (false == bu && decide ([] = bb)) && (false == au && decide ([] = ab)) && decide (0 = un) && decide (0 = nt) && decide (tx.length / 4 = 0) && decide (dy.length / 2 = 0) && decide ([] = im)
def alone4 (txn prev page slot : Int) (bu : Bool) (bb : List Int) (au : Bool) (ab : List Int) (un nt : Int) (tx dy im : List Int) : Bool := decide (0 = page) && decide (0 = slot) && (false == bu && decide ([] = bb)) && (false == au && decide ([] = ab)) && decide (0 = un) && decide (0 = nt) && decide (tx.length / 4 = 0) && decide (dy.length / 2 = 0) && decide ([] = im)
def alone5 (txn prev page slot : Int) (bu : Bool) (bb : List Int) (au : Bool) (ab : List Int) (un nt : Int) (tx dy im : List Int) : Bool := decide (0 = page) && decide (0 = slot) && (false == bu && decide ([] = bb)) && (false == au && decide ([] = ab)) && decide (0 = un) && decide (0 = nt) && decide (tx.length / 4 = 0) && decide (dy.length / 2 = 0) && decide ([] = im)
def alone6 (txn prev page slot : Int) (bu : Bool) (bb : List Int) (au : Bool) (ab : List Int) (un nt : Int) (tx dy im : List Int) : Bool := decide (0 = txn) && decide (0 = prev) && decide (0 = page) && decide (0 = slot) && (false == bu && decide ([] = bb)) && (false == au && decide ([] = ab)) && decide (0 = un) && decide (0 = nt) && decide (tx.length / 4 = 0) && decide (dy.length / 2 = 0) && decide ([] = im)
def alone7 (txn prev page slot : Int) (bu : Bool) (bb : List Int) (au : Bool) (ab : List Int) (un nt : Int) (tx dy im : List Int) : Bool := decide (0 = txn) && decide (0 = prev) && decide (0 = page) && decide (0 = slot) && (false == bu && decide ([] = bb)) && (false == au && decide ([] = ab)) && decide (0 = un) && decide ([] = im)
def alone8 (txn prev page slot : Int) (bu : Bool) (bb : List Int) (au : Bool) (ab : List Int) (un nt : Int) (tx dy im : List Int) : Bool := decide (0 = txn) && decide (0 = prev) && decide (0 = slot) && (false == bu && decide ([] = bb)) && (false == au && decide ([] = ab)) && decide (0 = un) && decide (0 = nt) && decide (tx.length / 4 = 0) && decide (dy.length / 2 = 0)
def recF (kind txn prev page slot : Int) (bu : Bool) (bb : List Int) (au : Bool) (ab : List Int) (un nt : Int) (tx dy im : List Int) : Int := if kind = 1 then (if alone1 txn prev page slot bu bb au ab un nt tx dy im = true then orF (headF txn prev) (placeF page slot) (updF bu au bb.length ab.length) else 2) else if kind = 2 then (if alone2 txn prev page slot bu bb au ab un nt tx dy im = true then orF (headF txn prev) (placeF page slot) (undF au ab.length un) else 2) else if kind = 3 then (if alone3 txn prev page slot bu bb au ab un nt tx dy im = true then headF txn prev else 2) else if kind = 4 then (if alone4 txn prev page slot bu bb au ab un nt tx dy im = true then headF txn prev else 2) else if kind = 5 then (if alone5 txn prev page slot bu bb au ab un nt tx dy im = true then headF txn prev else 2) else if kind = 6 then (if alone6 txn prev page slot bu bb au ab un nt tx dy im = true then 0 else 2) else if kind = 7 then (if alone7 txn prev page slot bu bb au ab un nt tx dy im = true then tabF nt tx (tx.length / 4) dy (dy.length / 2) else 2) else if kind = 8 then (if alone8 txn prev page slot bu bb au ab un nt tx dy im = true then imgF page im else 2) else 1
theorem specT_1 (txn : Int) (prev : Int) (page : Int) (slot : Int) (bU : Bool) (bDa : Option Addr) (bDc : Nat) (bDb : List Int) (aU : Bool) (aDa : Option Addr) (aDc : Nat) (aDb : List Int) (uN : Int) (nT : Int) (tXe : TypeId) (tXa : Option Addr) (tXn tXc : Nat) (tXb : List Int) (dYe : TypeId) (dYa : Option Addr) (dYn dYc : Nat) (dYb : List Int) (iMa : Option Addr) (iMc : Nat) (iMb : List Int) (w : World) (hBb : IsB bDb) (hBa : IsB aDb) (hBi : IsB iMb) (hli : iMb.length ≤ 1099511627776) (hrb : Rd .u8 w (.slice bDa bDb.length bDc) bDb) (hra : Rd .u8 w (.slice aDa aDb.length aDc) aDb) (hri : Rd .u8 w (.slice iMa iMb.length iMc) iMb) (hrt : RdF 4 w ⟨tXe, tXa, tXn, tXc, tXb⟩) (hrd : RdF 2 w ⟨dYe, dYa, dYn, dYc, dYb⟩) (hnt : tXn ≤ 1125899906842624) (hnd : dYn ≤ 1125899906842624) :
  Calls Tryz.prog 17 #[.agg #[.int .i64 1, .int .i64 txn, .int .i64 prev, .int .i64 page, .int .i64 slot, .bool bU, .slice bDa bDb.length bDc, .bool aU, .slice aDa aDb.length aDc, .int .i64 uN, .int .i64 nT, .slice tXa tXn tXc, .slice dYa dYn dYc, .slice iMa iMb.length iMc]] w fun e w' => e = .returned (.int .i64 (if (!(decide (0 = uN) && decide (0 = nT) && decide (tXn = 0) && decide (dYn = 0) && decide (iMb.length = 0))) = true then 2 else (if (inB txn 1 2147483647) = false then 3 else (if (inB prev 0 1099511627776) = false then 4 else (if (inB page 0 15) = false then 5 else (if (inB slot 0 31) = false then 5 else (if (fitsB bU bDb.length) = false then 6 else (if (fitsB aU aDb.length) = false then 6 else (if (bU || aU) = false then 6 else (0)))))))))) ∧ Same w w' :=
 recS_1 txn prev page slot bU bDa bDb.length bDc aU aDa aDb.length aDc uN nT tXa tXn tXc dYa dYn dYc iMa iMb.length iMc w (!(decide (0 = uN) && decide (0 = nT) && decide (tXn = 0) && decide (dYn = 0) && decide (iMb.length = 0))) (inB txn 1 2147483647) (inB prev 0 1099511627776) (inB page 0 15) (inB slot 0 31) (fitsB bU bDb.length) (fitsB aU aDb.length) (pageFault iMb page) (fun wx _ => l4In_any 1 1 8 wx) (fun wx _ => extra_1 txn prev page slot bU bDa bDb.length bDc aU aDa aDb.length aDc uN nT tXa tXn tXc dYa dYn dYc iMa iMb.length iMc wx  hrt.1 hrd.1 hri.1) (fun wx _ => l4In_any _ _ _ wx) (fun wx _ => l4In_any _ _ _ wx) (fun wx _ => l4In_any _ _ _ wx) (fun wx _ => l4In_any _ _ _ wx) (fun wx _ => l4Slot_any _ _ _ _ wx hrb.1) (fun wx _ => l4Slot_any _ _ _ _ wx hra.1)
theorem specT_2 (txn : Int) (prev : Int) (page : Int) (slot : Int) (bU : Bool) (bDa : Option Addr) (bDc : Nat) (bDb : List Int) (aU : Bool) (aDa : Option Addr) (aDc : Nat) (aDb : List Int) (uN : Int) (nT : Int) (tXe : TypeId) (tXa : Option Addr) (tXn tXc : Nat) (tXb : List Int) (dYe : TypeId) (dYa : Option Addr) (dYn dYc : Nat) (dYb : List Int) (iMa : Option Addr) (iMc : Nat) (iMb : List Int) (w : World) (hBb : IsB bDb) (hBa : IsB aDb) (hBi : IsB iMb) (hli : iMb.length ≤ 1099511627776) (hrb : Rd .u8 w (.slice bDa bDb.length bDc) bDb) (hra : Rd .u8 w (.slice aDa aDb.length aDc) aDb) (hri : Rd .u8 w (.slice iMa iMb.length iMc) iMb) (hrt : RdF 4 w ⟨tXe, tXa, tXn, tXc, tXb⟩) (hrd : RdF 2 w ⟨dYe, dYa, dYn, dYc, dYb⟩) (hnt : tXn ≤ 1125899906842624) (hnd : dYn ≤ 1125899906842624) :
  Calls Tryz.prog 17 #[.agg #[.int .i64 2, .int .i64 txn, .int .i64 prev, .int .i64 page, .int .i64 slot, .bool bU, .slice bDa bDb.length bDc, .bool aU, .slice aDa aDb.length aDc, .int .i64 uN, .int .i64 nT, .slice tXa tXn tXc, .slice dYa dYn dYc, .slice iMa iMb.length iMc]] w fun e w' => e = .returned (.int .i64 (if (!((emptyB bU bDb.length) && decide (0 = nT) && decide (tXn = 0) && decide (dYn = 0) && decide (iMb.length = 0))) = true then 2 else (if (inB txn 1 2147483647) = false then 3 else (if (inB prev 0 1099511627776) = false then 4 else (if (inB page 0 15) = false then 5 else (if (inB slot 0 31) = false then 5 else (if (fitsB bU bDb.length) = false then 6 else (if (fitsB aU aDb.length) = false then 6 else (if (inB uN 0 1099511627776) = false then 7 else (0)))))))))) ∧ Same w w' :=
 recS_2 txn prev page slot bU bDa bDb.length bDc aU aDa aDb.length aDc uN nT tXa tXn tXc dYa dYn dYc iMa iMb.length iMc w (!((emptyB bU bDb.length) && decide (0 = nT) && decide (tXn = 0) && decide (dYn = 0) && decide (iMb.length = 0))) (inB txn 1 2147483647) (inB prev 0 1099511627776) (inB page 0 15) (inB slot 0 31) (fitsB bU bDb.length) (fitsB aU aDb.length) (inB uN 0 1099511627776) (pageFault iMb page) (fun wx _ => l4In_any 2 1 8 wx) (fun wx _ => extra_2 txn prev page slot bU bDa bDb.length bDc aU aDa aDb.length aDc uN nT tXa tXn tXc dYa dYn dYc iMa iMb.length iMc wx _ (fun wy _ => l4Empty_any bU bDa bDb.length bDc wy hrb.1) hrt.1 hrd.1 hri.1) (fun wx _ => l4In_any _ _ _ wx) (fun wx _ => l4In_any _ _ _ wx) (fun wx _ => l4In_any _ _ _ wx) (fun wx _ => l4In_any _ _ _ wx) (fun wx _ => l4Slot_any _ _ _ _ wx hrb.1) (fun wx _ => l4Slot_any _ _ _ _ wx hra.1) (fun wx _ => l4In_any _ _ _ wx)
theorem specT_3 (txn : Int) (prev : Int) (page : Int) (slot : Int) (bU : Bool) (bDa : Option Addr) (bDc : Nat) (bDb : List Int) (aU : Bool) (aDa : Option Addr) (aDc : Nat) (aDb : List Int) (uN : Int) (nT : Int) (tXe : TypeId) (tXa : Option Addr) (tXn tXc : Nat) (tXb : List Int) (dYe : TypeId) (dYa : Option Addr) (dYn dYc : Nat) (dYb : List Int) (iMa : Option Addr) (iMc : Nat) (iMb : List Int) (w : World) (hBb : IsB bDb) (hBa : IsB aDb) (hBi : IsB iMb) (hli : iMb.length ≤ 1099511627776) (hrb : Rd .u8 w (.slice bDa bDb.length bDc) bDb) (hra : Rd .u8 w (.slice aDa aDb.length aDc) aDb) (hri : Rd .u8 w (.slice iMa iMb.length iMc) iMb) (hrt : RdF 4 w ⟨tXe, tXa, tXn, tXc, tXb⟩) (hrd : RdF 2 w ⟨dYe, dYa, dYn, dYc, dYb⟩) (hnt : tXn ≤ 1125899906842624) (hnd : dYn ≤ 1125899906842624) :
  Calls Tryz.prog 17 #[.agg #[.int .i64 3, .int .i64 txn, .int .i64 prev, .int .i64 page, .int .i64 slot, .bool bU, .slice bDa bDb.length bDc, .bool aU, .slice aDa aDb.length aDc, .int .i64 uN, .int .i64 nT, .slice tXa tXn tXc, .slice dYa dYn dYc, .slice iMa iMb.length iMc]] w fun e w' => e = .returned (.int .i64 (if (!(decide (0 = slot) && (emptyB aU aDb.length) && decide (0 = page) && (emptyB bU bDb.length) && decide (0 = uN) && decide (0 = nT) && decide (tXn = 0) && decide (dYn = 0) && decide (iMb.length = 0))) = true then 2 else (if (inB txn 1 2147483647) = false then 3 else (if (inB prev 0 1099511627776) = false then 4 else (if (fitsB bU bDb.length) = false then 6 else (if (fitsB aU aDb.length) = false then 6 else (0))))))) ∧ Same w w' :=
 recS_3 txn prev page slot bU bDa bDb.length bDc aU aDa aDb.length aDc uN nT tXa tXn tXc dYa dYn dYc iMa iMb.length iMc w (!(decide (0 = slot) && (emptyB aU aDb.length) && decide (0 = page) && (emptyB bU bDb.length) && decide (0 = uN) && decide (0 = nT) && decide (tXn = 0) && decide (dYn = 0) && decide (iMb.length = 0))) (inB txn 1 2147483647) (inB prev 0 1099511627776) (fitsB bU bDb.length) (fitsB aU aDb.length) (pageFault iMb page) (fun wx _ => l4In_any 3 1 8 wx) (fun wx _ => extra_3 txn prev page slot bU bDa bDb.length bDc aU aDa aDb.length aDc uN nT tXa tXn tXc dYa dYn dYc iMa iMb.length iMc wx _ _ (fun wy _ => l4Empty_any aU aDa aDb.length aDc wy hra.1) (fun wy _ => l4Empty_any bU bDa bDb.length bDc wy hrb.1) hrt.1 hrd.1 hri.1) (fun wx _ => l4In_any _ _ _ wx) (fun wx _ => l4In_any _ _ _ wx) (fun wx _ => l4Slot_any _ _ _ _ wx hrb.1) (fun wx _ => l4Slot_any _ _ _ _ wx hra.1)
theorem specT_4 (txn : Int) (prev : Int) (page : Int) (slot : Int) (bU : Bool) (bDa : Option Addr) (bDc : Nat) (bDb : List Int) (aU : Bool) (aDa : Option Addr) (aDc : Nat) (aDb : List Int) (uN : Int) (nT : Int) (tXe : TypeId) (tXa : Option Addr) (tXn tXc : Nat) (tXb : List Int) (dYe : TypeId) (dYa : Option Addr) (dYn dYc : Nat) (dYb : List Int) (iMa : Option Addr) (iMc : Nat) (iMb : List Int) (w : World) (hBb : IsB bDb) (hBa : IsB aDb) (hBi : IsB iMb) (hli : iMb.length ≤ 1099511627776) (hrb : Rd .u8 w (.slice bDa bDb.length bDc) bDb) (hra : Rd .u8 w (.slice aDa aDb.length aDc) aDb) (hri : Rd .u8 w (.slice iMa iMb.length iMc) iMb) (hrt : RdF 4 w ⟨tXe, tXa, tXn, tXc, tXb⟩) (hrd : RdF 2 w ⟨dYe, dYa, dYn, dYc, dYb⟩) (hnt : tXn ≤ 1125899906842624) (hnd : dYn ≤ 1125899906842624) :
  Calls Tryz.prog 17 #[.agg #[.int .i64 4, .int .i64 txn, .int .i64 prev, .int .i64 page, .int .i64 slot, .bool bU, .slice bDa bDb.length bDc, .bool aU, .slice aDa aDb.length aDc, .int .i64 uN, .int .i64 nT, .slice tXa tXn tXc, .slice dYa dYn dYc, .slice iMa iMb.length iMc]] w fun e w' => e = .returned (.int .i64 (if (!(decide (0 = slot) && (emptyB aU aDb.length) && decide (0 = page) && (emptyB bU bDb.length) && decide (0 = uN) && decide (0 = nT) && decide (tXn = 0) && decide (dYn = 0) && decide (iMb.length = 0))) = true then 2 else (if (inB txn 1 2147483647) = false then 3 else (if (inB prev 0 1099511627776) = false then 4 else (if (fitsB bU bDb.length) = false then 6 else (if (fitsB aU aDb.length) = false then 6 else (0))))))) ∧ Same w w' :=
 recS_4 txn prev page slot bU bDa bDb.length bDc aU aDa aDb.length aDc uN nT tXa tXn tXc dYa dYn dYc iMa iMb.length iMc w (!(decide (0 = slot) && (emptyB aU aDb.length) && decide (0 = page) && (emptyB bU bDb.length) && decide (0 = uN) && decide (0 = nT) && decide (tXn = 0) && decide (dYn = 0) && decide (iMb.length = 0))) (inB txn 1 2147483647) (inB prev 0 1099511627776) (fitsB bU bDb.length) (fitsB aU aDb.length) (pageFault iMb page) (fun wx _ => l4In_any 4 1 8 wx) (fun wx _ => extra_4 txn prev page slot bU bDa bDb.length bDc aU aDa aDb.length aDc uN nT tXa tXn tXc dYa dYn dYc iMa iMb.length iMc wx _ _ (fun wy _ => l4Empty_any aU aDa aDb.length aDc wy hra.1) (fun wy _ => l4Empty_any bU bDa bDb.length bDc wy hrb.1) hrt.1 hrd.1 hri.1) (fun wx _ => l4In_any _ _ _ wx) (fun wx _ => l4In_any _ _ _ wx) (fun wx _ => l4Slot_any _ _ _ _ wx hrb.1) (fun wx _ => l4Slot_any _ _ _ _ wx hra.1)
theorem specT_5 (txn : Int) (prev : Int) (page : Int) (slot : Int) (bU : Bool) (bDa : Option Addr) (bDc : Nat) (bDb : List Int) (aU : Bool) (aDa : Option Addr) (aDc : Nat) (aDb : List Int) (uN : Int) (nT : Int) (tXe : TypeId) (tXa : Option Addr) (tXn tXc : Nat) (tXb : List Int) (dYe : TypeId) (dYa : Option Addr) (dYn dYc : Nat) (dYb : List Int) (iMa : Option Addr) (iMc : Nat) (iMb : List Int) (w : World) (hBb : IsB bDb) (hBa : IsB aDb) (hBi : IsB iMb) (hli : iMb.length ≤ 1099511627776) (hrb : Rd .u8 w (.slice bDa bDb.length bDc) bDb) (hra : Rd .u8 w (.slice aDa aDb.length aDc) aDb) (hri : Rd .u8 w (.slice iMa iMb.length iMc) iMb) (hrt : RdF 4 w ⟨tXe, tXa, tXn, tXc, tXb⟩) (hrd : RdF 2 w ⟨dYe, dYa, dYn, dYc, dYb⟩) (hnt : tXn ≤ 1125899906842624) (hnd : dYn ≤ 1125899906842624) :
  Calls Tryz.prog 17 #[.agg #[.int .i64 5, .int .i64 txn, .int .i64 prev, .int .i64 page, .int .i64 slot, .bool bU, .slice bDa bDb.length bDc, .bool aU, .slice aDa aDb.length aDc, .int .i64 uN, .int .i64 nT, .slice tXa tXn tXc, .slice dYa dYn dYc, .slice iMa iMb.length iMc]] w fun e w' => e = .returned (.int .i64 (if (!(decide (0 = slot) && (emptyB aU aDb.length) && decide (0 = page) && (emptyB bU bDb.length) && decide (0 = uN) && decide (0 = nT) && decide (tXn = 0) && decide (dYn = 0) && decide (iMb.length = 0))) = true then 2 else (if (inB txn 1 2147483647) = false then 3 else (if (inB prev 0 1099511627776) = false then 4 else (if (fitsB bU bDb.length) = false then 6 else (if (fitsB aU aDb.length) = false then 6 else (0))))))) ∧ Same w w' :=
 recS_5 txn prev page slot bU bDa bDb.length bDc aU aDa aDb.length aDc uN nT tXa tXn tXc dYa dYn dYc iMa iMb.length iMc w (!(decide (0 = slot) && (emptyB aU aDb.length) && decide (0 = page) && (emptyB bU bDb.length) && decide (0 = uN) && decide (0 = nT) && decide (tXn = 0) && decide (dYn = 0) && decide (iMb.length = 0))) (inB txn 1 2147483647) (inB prev 0 1099511627776) (fitsB bU bDb.length) (fitsB aU aDb.length) (pageFault iMb page) (fun wx _ => l4In_any 5 1 8 wx) (fun wx _ => extra_5 txn prev page slot bU bDa bDb.length bDc aU aDa aDb.length aDc uN nT tXa tXn tXc dYa dYn dYc iMa iMb.length iMc wx _ _ (fun wy _ => l4Empty_any aU aDa aDb.length aDc wy hra.1) (fun wy _ => l4Empty_any bU bDa bDb.length bDc wy hrb.1) hrt.1 hrd.1 hri.1) (fun wx _ => l4In_any _ _ _ wx) (fun wx _ => l4In_any _ _ _ wx) (fun wx _ => l4Slot_any _ _ _ _ wx hrb.1) (fun wx _ => l4Slot_any _ _ _ _ wx hra.1)
theorem specT_6 (txn : Int) (prev : Int) (page : Int) (slot : Int) (bU : Bool) (bDa : Option Addr) (bDc : Nat) (bDb : List Int) (aU : Bool) (aDa : Option Addr) (aDc : Nat) (aDb : List Int) (uN : Int) (nT : Int) (tXe : TypeId) (tXa : Option Addr) (tXn tXc : Nat) (tXb : List Int) (dYe : TypeId) (dYa : Option Addr) (dYn dYc : Nat) (dYb : List Int) (iMa : Option Addr) (iMc : Nat) (iMb : List Int) (w : World) (hBb : IsB bDb) (hBa : IsB aDb) (hBi : IsB iMb) (hli : iMb.length ≤ 1099511627776) (hrb : Rd .u8 w (.slice bDa bDb.length bDc) bDb) (hra : Rd .u8 w (.slice aDa aDb.length aDc) aDb) (hri : Rd .u8 w (.slice iMa iMb.length iMc) iMb) (hrt : RdF 4 w ⟨tXe, tXa, tXn, tXc, tXb⟩) (hrd : RdF 2 w ⟨dYe, dYa, dYn, dYc, dYb⟩) (hnt : tXn ≤ 1125899906842624) (hnd : dYn ≤ 1125899906842624) :
  Calls Tryz.prog 17 #[.agg #[.int .i64 6, .int .i64 txn, .int .i64 prev, .int .i64 page, .int .i64 slot, .bool bU, .slice bDa bDb.length bDc, .bool aU, .slice aDa aDb.length aDc, .int .i64 uN, .int .i64 nT, .slice tXa tXn tXc, .slice dYa dYn dYc, .slice iMa iMb.length iMc]] w fun e w' => e = .returned (.int .i64 (if (!(decide (0 = txn) && decide (0 = prev) && decide (0 = slot) && (emptyB aU aDb.length) && decide (0 = page) && (emptyB bU bDb.length) && decide (0 = uN) && decide (0 = nT) && decide (tXn = 0) && decide (dYn = 0) && decide (iMb.length = 0))) = true then 2 else (if (inB prev 0 1099511627776) = false then 4 else (if (fitsB bU bDb.length) = false then 6 else (if (fitsB aU aDb.length) = false then 6 else (0)))))) ∧ Same w w' :=
 recS_6 txn prev page slot bU bDa bDb.length bDc aU aDa aDb.length aDc uN nT tXa tXn tXc dYa dYn dYc iMa iMb.length iMc w (!(decide (0 = txn) && decide (0 = prev) && decide (0 = slot) && (emptyB aU aDb.length) && decide (0 = page) && (emptyB bU bDb.length) && decide (0 = uN) && decide (0 = nT) && decide (tXn = 0) && decide (dYn = 0) && decide (iMb.length = 0))) (inB prev 0 1099511627776) (fitsB bU bDb.length) (fitsB aU aDb.length) (pageFault iMb page) (fun wx _ => l4In_any 6 1 8 wx) (fun wx _ => extra_6 txn prev page slot bU bDa bDb.length bDc aU aDa aDb.length aDc uN nT tXa tXn tXc dYa dYn dYc iMa iMb.length iMc wx _ _ (fun wy _ => l4Empty_any aU aDa aDb.length aDc wy hra.1) (fun wy _ => l4Empty_any bU bDa bDb.length bDc wy hrb.1) hrt.1 hrd.1 hri.1) (fun wx _ => l4In_any _ _ _ wx) (fun wx _ => l4Slot_any _ _ _ _ wx hrb.1) (fun wx _ => l4Slot_any _ _ _ _ wx hra.1)
theorem specT_7 (txn : Int) (prev : Int) (page : Int) (slot : Int) (bU : Bool) (bDa : Option Addr) (bDc : Nat) (bDb : List Int) (aU : Bool) (aDa : Option Addr) (aDc : Nat) (aDb : List Int) (uN : Int) (nT : Int) (tXe : TypeId) (tXa : Option Addr) (tXn tXc : Nat) (tXb : List Int) (dYe : TypeId) (dYa : Option Addr) (dYn dYc : Nat) (dYb : List Int) (iMa : Option Addr) (iMc : Nat) (iMb : List Int) (w : World) (hBb : IsB bDb) (hBa : IsB aDb) (hBi : IsB iMb) (hli : iMb.length ≤ 1099511627776) (hrb : Rd .u8 w (.slice bDa bDb.length bDc) bDb) (hra : Rd .u8 w (.slice aDa aDb.length aDc) aDb) (hri : Rd .u8 w (.slice iMa iMb.length iMc) iMb) (hrt : RdF 4 w ⟨tXe, tXa, tXn, tXc, tXb⟩) (hrd : RdF 2 w ⟨dYe, dYa, dYn, dYc, dYb⟩) (hnt : tXn ≤ 1125899906842624) (hnd : dYn ≤ 1125899906842624) :
  Calls Tryz.prog 17 #[.agg #[.int .i64 7, .int .i64 txn, .int .i64 prev, .int .i64 page, .int .i64 slot, .bool bU, .slice bDa bDb.length bDc, .bool aU, .slice aDa aDb.length aDc, .int .i64 uN, .int .i64 nT, .slice tXa tXn tXc, .slice dYa dYn dYc, .slice iMa iMb.length iMc]] w fun e w' => e = .returned (.int .i64 (if (!(decide (0 = txn) && decide (0 = prev) && decide (0 = slot) && (emptyB aU aDb.length) && decide (0 = page) && (emptyB bU bDb.length) && decide (0 = uN) && decide (iMb.length = 0))) = true then 2 else (if (inB prev 0 1099511627776) = false then 4 else (if (fitsB bU bDb.length) = false then 6 else (if (fitsB aU aDb.length) = false then 6 else (if ((inB nT 1 2147483648 && allTxns tXb tXn && allDirty dYb dYn)) = false then 8 else (0))))))) ∧ Same w w' :=
 recS_7 txn prev page slot bU bDa bDb.length bDc aU aDa aDb.length aDc uN nT tXa tXn tXc dYa dYn dYc iMa iMb.length iMc w (!(decide (0 = txn) && decide (0 = prev) && decide (0 = slot) && (emptyB aU aDb.length) && decide (0 = page) && (emptyB bU bDb.length) && decide (0 = uN) && decide (iMb.length = 0))) (inB prev 0 1099511627776) (fitsB bU bDb.length) (fitsB aU aDb.length) ((inB nT 1 2147483648 && allTxns tXb tXn && allDirty dYb dYn)) (pageFault iMb page) (fun wx _ => l4In_any 7 1 8 wx) (fun wx _ => extra_7 txn prev page slot bU bDa bDb.length bDc aU aDa aDb.length aDc uN nT tXa tXn tXc dYa dYn dYc iMa iMb.length iMc wx _ _ (fun wy _ => l4Empty_any aU aDa aDb.length aDc wy hra.1) (fun wy _ => l4Empty_any bU bDa bDb.length bDc wy hrb.1) hri.1) (fun wx _ => l4In_any _ _ _ wx) (fun wx _ => l4Slot_any _ _ _ _ wx hrb.1) (fun wx _ => l4Slot_any _ _ _ _ wx hra.1) (fun wx h => l4Tables_any 7 txn prev page slot bU bDa bDb.length bDc aU aDa aDb.length aDc uN nT iMa iMb.length iMc ⟨tXe, tXa, tXn, tXc, tXb⟩ ⟨dYe, dYa, dYn, dYc, dYb⟩ wx (hrt.same h) (hrd.same h))
theorem specT_8 (txn : Int) (prev : Int) (page : Int) (slot : Int) (bU : Bool) (bDa : Option Addr) (bDc : Nat) (bDb : List Int) (aU : Bool) (aDa : Option Addr) (aDc : Nat) (aDb : List Int) (uN : Int) (nT : Int) (tXe : TypeId) (tXa : Option Addr) (tXn tXc : Nat) (tXb : List Int) (dYe : TypeId) (dYa : Option Addr) (dYn dYc : Nat) (dYb : List Int) (iMa : Option Addr) (iMc : Nat) (iMb : List Int) (w : World) (hBb : IsB bDb) (hBa : IsB aDb) (hBi : IsB iMb) (hli : iMb.length ≤ 1099511627776) (hrb : Rd .u8 w (.slice bDa bDb.length bDc) bDb) (hra : Rd .u8 w (.slice aDa aDb.length aDc) aDb) (hri : Rd .u8 w (.slice iMa iMb.length iMc) iMb) (hrt : RdF 4 w ⟨tXe, tXa, tXn, tXc, tXb⟩) (hrd : RdF 2 w ⟨dYe, dYa, dYn, dYc, dYb⟩) (hnt : tXn ≤ 1125899906842624) (hnd : dYn ≤ 1125899906842624) :
  Calls Tryz.prog 17 #[.agg #[.int .i64 8, .int .i64 txn, .int .i64 prev, .int .i64 page, .int .i64 slot, .bool bU, .slice bDa bDb.length bDc, .bool aU, .slice aDa aDb.length aDc, .int .i64 uN, .int .i64 nT, .slice tXa tXn tXc, .slice dYa dYn dYc, .slice iMa iMb.length iMc]] w fun e w' => e = .returned (.int .i64 (if (!(decide (0 = txn) && decide (0 = prev) && decide (0 = slot) && (emptyB aU aDb.length) && (emptyB bU bDb.length) && decide (0 = uN) && decide (0 = nT) && decide (tXn = 0) && decide (dYn = 0))) = true then 2 else (if (inB prev 0 1099511627776) = false then 4 else (if (inB page 0 15) = false then 5 else (if (fitsB bU bDb.length) = false then 6 else (if (fitsB aU aDb.length) = false then 6 else (if pageFault iMb page ≠ 0 then 9 else (0)))))))) ∧ Same w w' :=
 recS_8 txn prev page slot bU bDa bDb.length bDc aU aDa aDb.length aDc uN nT tXa tXn tXc dYa dYn dYc iMa iMb.length iMc w (!(decide (0 = txn) && decide (0 = prev) && decide (0 = slot) && (emptyB aU aDb.length) && (emptyB bU bDb.length) && decide (0 = uN) && decide (0 = nT) && decide (tXn = 0) && decide (dYn = 0))) (inB prev 0 1099511627776) (inB page 0 15) (fitsB bU bDb.length) (fitsB aU aDb.length) (pageFault iMb page) (fun wx _ => l4In_any 8 1 8 wx) (fun wx _ => extra_8 txn prev page slot bU bDa bDb.length bDc aU aDa aDb.length aDc uN nT tXa tXn tXc dYa dYn dYc iMa iMb.length iMc wx _ _ (fun wy _ => l4Empty_any aU aDa aDb.length aDc wy hra.1) (fun wy _ => l4Empty_any bU bDa bDb.length bDc wy hrb.1) hrt.1 hrd.1) (fun wx _ => l4In_any _ _ _ wx) (fun wx _ => l4In_any _ _ _ wx) (fun wx _ => l4Slot_any _ _ _ _ wx hrb.1) (fun wx _ => l4Slot_any _ _ _ _ wx hra.1) (fun wx h => specFault_any _ iMb page wx hBi hli (hri.same h))
theorem isSlotB_in (x : Int) : inB x 0 31 = isSlotB x := by
 unfold isSlotB inB
 rw [show decide (x < 32) = decide (x ≤ 31) from decide_eq_decide.2 (by omega)]
theorem inB_page (x : Int) : inB x 0 15 = isPageB x := (isPageB_in x).symm
theorem inB_txn (x : Int) : inB x 1 2147483647 = isTxnB x := rfl
theorem inB_lsn (x : Int) : inB x 0 1099511627776 = isLSN x := rfl
theorem empty_eq (u : Bool) (b : List Int) : emptyB u b.length = (false == u && decide ([] = b)) := by
 unfold emptyB
 cases u <;> cases b <;> simp
theorem len_eq (b : List Int) : decide (b.length = 0) = decide ([] = b) := by cases b <;> simp
theorem fits_empty : fitsB false 0 = true := rfl
theorem eqK_1 (txn prev page slot uN nT : Int) (bU aU : Bool) (bDb aDb iMb tXb dYb : List Int) (tXn dYn : Nat) (e1 : tXb.length / 4 = tXn) (e2 : dYb.length / 2 = dYn) :
  ((if (!(decide (0 = uN) && decide (0 = nT) && decide (tXn = 0) && decide (dYn = 0) && decide (iMb.length = 0))) = true then 2 else (if (inB txn 1 2147483647) = false then 3 else (if (inB prev 0 1099511627776) = false then 4 else (if (inB page 0 15) = false then 5 else (if (inB slot 0 31) = false then 5 else (if (fitsB bU bDb.length) = false then 6 else (if (fitsB aU aDb.length) = false then 6 else (if (bU || aU) = false then 6 else (0))))))))) : Int) = if alone1 txn prev page slot bU bDb aU aDb uN nT tXb dYb iMb = true then orF (headF txn prev) (placeF page slot) (updF bU aU bDb.length aDb.length) else 2 := by
 unfold alone1
 rw [e1, e2]
 simp only [empty_eq, len_eq, inB_page, isSlotB_in, inB_txn, inB_lsn]
 by_cases quN : 0 = uN
 case neg => simp only [decide_eq_false quN, Bool.false_and, Bool.and_false, Bool.not_false, if_true, Bool.false_eq_true, if_false]
 subst quN
 by_cases qnT : 0 = nT
 case neg => simp only [decide_eq_false qnT, Bool.false_and, Bool.and_false, Bool.not_false, if_true, Bool.false_eq_true, if_false]
 subst qnT
 by_cases qtxns : tXn = 0
 case neg => simp only [decide_eq_false qtxns, Bool.false_and, Bool.and_false, Bool.not_false, if_true, Bool.false_eq_true, if_false]
 simp only [decide_eq_true qtxns]
 by_cases qdirty : dYn = 0
 case neg => simp only [decide_eq_false qdirty, Bool.false_and, Bool.and_false, Bool.not_false, if_true, Bool.false_eq_true, if_false]
 simp only [decide_eq_true qdirty]
 by_cases qimage : [] = iMb
 case neg => simp only [decide_eq_false qimage, Bool.false_and, Bool.and_false, Bool.not_false, if_true, Bool.false_eq_true, if_false]
 subst qimage
 simp only [decide_true, beq_self_eq_true, Bool.and_self, Bool.and_true, Bool.true_and, Bool.not_true, Bool.false_eq_true, if_true, if_false, List.length_nil]
 unfold orF headF placeF updF
 generalize isTxnB txn = g0 at *
 generalize isLSN prev = g1 at *
 generalize isPageB page = g2 at *
 generalize isSlotB slot = g3 at *
 generalize fitsB bU bDb.length = g4 at *
 generalize fitsB aU aDb.length = g5 at *
 cases g0 <;> cases g1 <;> cases g2 <;> cases g3 <;> cases g4 <;> cases g5 <;> cases bU <;> cases aU <;> simp [isLSN, fitsB]
theorem eqK_2 (txn prev page slot uN nT : Int) (bU aU : Bool) (bDb aDb iMb tXb dYb : List Int) (tXn dYn : Nat) (e1 : tXb.length / 4 = tXn) (e2 : dYb.length / 2 = dYn) :
  ((if (!((emptyB bU bDb.length) && decide (0 = nT) && decide (tXn = 0) && decide (dYn = 0) && decide (iMb.length = 0))) = true then 2 else (if (inB txn 1 2147483647) = false then 3 else (if (inB prev 0 1099511627776) = false then 4 else (if (inB page 0 15) = false then 5 else (if (inB slot 0 31) = false then 5 else (if (fitsB bU bDb.length) = false then 6 else (if (fitsB aU aDb.length) = false then 6 else (if (inB uN 0 1099511627776) = false then 7 else (0))))))))) : Int) = if alone2 txn prev page slot bU bDb aU aDb uN nT tXb dYb iMb = true then orF (headF txn prev) (placeF page slot) (undF aU aDb.length uN) else 2 := by
 unfold alone2
 rw [e1, e2]
 simp only [empty_eq, len_eq, inB_page, isSlotB_in, inB_txn, inB_lsn]
 cases bU with
 | true => simp only [show (false == true) = false from rfl, Bool.false_and, Bool.and_false, Bool.not_false, if_true, Bool.false_eq_true, if_false]
 | false =>
 by_cases qbefore : [] = bDb
 case neg => simp only [decide_eq_false qbefore, Bool.false_and, Bool.and_false, Bool.not_false, if_true, Bool.false_eq_true, if_false]
 subst qbefore
 by_cases qnT : 0 = nT
 case neg => simp only [decide_eq_false qnT, Bool.false_and, Bool.and_false, Bool.not_false, if_true, Bool.false_eq_true, if_false]
 subst qnT
 by_cases qtxns : tXn = 0
 case neg => simp only [decide_eq_false qtxns, Bool.false_and, Bool.and_false, Bool.not_false, if_true, Bool.false_eq_true, if_false]
 simp only [decide_eq_true qtxns]
 by_cases qdirty : dYn = 0
 case neg => simp only [decide_eq_false qdirty, Bool.false_and, Bool.and_false, Bool.not_false, if_true, Bool.false_eq_true, if_false]
 simp only [decide_eq_true qdirty]
 by_cases qimage : [] = iMb
 case neg => simp only [decide_eq_false qimage, Bool.false_and, Bool.and_false, Bool.not_false, if_true, Bool.false_eq_true, if_false]
 subst qimage
 simp only [decide_true, beq_self_eq_true, Bool.and_self, Bool.and_true, Bool.true_and, Bool.not_true, Bool.false_eq_true, if_true, if_false, List.length_nil]
 unfold orF headF placeF undF
 generalize isTxnB txn = g0 at *
 generalize isLSN prev = g1 at *
 generalize isPageB page = g2 at *
 generalize isSlotB slot = g3 at *
 generalize fitsB aU aDb.length = g4 at *
 have hh5 : isLSN uN = true ∨ isLSN uN = false := by cases isLSN uN <;> simp
 cases g0 <;> cases g1 <;> cases g2 <;> cases g3 <;> cases g4 <;> rcases hh5 with h5 | h5 <;> simp [h5, fits_empty]
theorem eqK_3 (txn prev page slot uN nT : Int) (bU aU : Bool) (bDb aDb iMb tXb dYb : List Int) (tXn dYn : Nat) (e1 : tXb.length / 4 = tXn) (e2 : dYb.length / 2 = dYn) :
  ((if (!(decide (0 = slot) && (emptyB aU aDb.length) && decide (0 = page) && (emptyB bU bDb.length) && decide (0 = uN) && decide (0 = nT) && decide (tXn = 0) && decide (dYn = 0) && decide (iMb.length = 0))) = true then 2 else (if (inB txn 1 2147483647) = false then 3 else (if (inB prev 0 1099511627776) = false then 4 else (if (fitsB bU bDb.length) = false then 6 else (if (fitsB aU aDb.length) = false then 6 else (0)))))) : Int) = if alone3 txn prev page slot bU bDb aU aDb uN nT tXb dYb iMb = true then headF txn prev else 2 := by
 unfold alone3
 rw [e1, e2]
 simp only [empty_eq, len_eq, inB_page, isSlotB_in, inB_txn, inB_lsn]
 by_cases qpage : 0 = page
 case neg => simp only [decide_eq_false qpage, Bool.false_and, Bool.and_false, Bool.not_false, if_true, Bool.false_eq_true, if_false]
 subst qpage
 by_cases qslot : 0 = slot
 case neg => simp only [decide_eq_false qslot, Bool.false_and, Bool.and_false, Bool.not_false, if_true, Bool.false_eq_true, if_false]
 subst qslot
 cases bU with
 | true => simp only [show (false == true) = false from rfl, Bool.false_and, Bool.and_false, Bool.not_false, if_true, Bool.false_eq_true, if_false]
 | false =>
 by_cases qbefore : [] = bDb
 case neg => simp only [decide_eq_false qbefore, Bool.false_and, Bool.and_false, Bool.not_false, if_true, Bool.false_eq_true, if_false]
 subst qbefore
 cases aU with
 | true => simp only [show (false == true) = false from rfl, Bool.false_and, Bool.and_false, Bool.not_false, if_true, Bool.false_eq_true, if_false]
 | false =>
 by_cases qafter : [] = aDb
 case neg => simp only [decide_eq_false qafter, Bool.false_and, Bool.and_false, Bool.not_false, if_true, Bool.false_eq_true, if_false]
 subst qafter
 by_cases quN : 0 = uN
 case neg => simp only [decide_eq_false quN, Bool.false_and, Bool.and_false, Bool.not_false, if_true, Bool.false_eq_true, if_false]
 subst quN
 by_cases qnT : 0 = nT
 case neg => simp only [decide_eq_false qnT, Bool.false_and, Bool.and_false, Bool.not_false, if_true, Bool.false_eq_true, if_false]
 subst qnT
 by_cases qtxns : tXn = 0
 case neg => simp only [decide_eq_false qtxns, Bool.false_and, Bool.and_false, Bool.not_false, if_true, Bool.false_eq_true, if_false]
 simp only [decide_eq_true qtxns]
 by_cases qdirty : dYn = 0
 case neg => simp only [decide_eq_false qdirty, Bool.false_and, Bool.and_false, Bool.not_false, if_true, Bool.false_eq_true, if_false]
 simp only [decide_eq_true qdirty]
 by_cases qimage : [] = iMb
 case neg => simp only [decide_eq_false qimage, Bool.false_and, Bool.and_false, Bool.not_false, if_true, Bool.false_eq_true, if_false]
 subst qimage
 simp only [decide_true, beq_self_eq_true, Bool.and_self, Bool.and_true, Bool.true_and, Bool.not_true, Bool.false_eq_true, if_true, if_false, List.length_nil]
 unfold headF
 generalize isTxnB txn = g0 at *
 generalize isLSN prev = g1 at *
 cases g0 <;> cases g1 <;> simp [isLSN, fitsB]
theorem eqK_4 (txn prev page slot uN nT : Int) (bU aU : Bool) (bDb aDb iMb tXb dYb : List Int) (tXn dYn : Nat) (e1 : tXb.length / 4 = tXn) (e2 : dYb.length / 2 = dYn) :
  ((if (!(decide (0 = slot) && (emptyB aU aDb.length) && decide (0 = page) && (emptyB bU bDb.length) && decide (0 = uN) && decide (0 = nT) && decide (tXn = 0) && decide (dYn = 0) && decide (iMb.length = 0))) = true then 2 else (if (inB txn 1 2147483647) = false then 3 else (if (inB prev 0 1099511627776) = false then 4 else (if (fitsB bU bDb.length) = false then 6 else (if (fitsB aU aDb.length) = false then 6 else (0)))))) : Int) = if alone4 txn prev page slot bU bDb aU aDb uN nT tXb dYb iMb = true then headF txn prev else 2 := by
 unfold alone4
 rw [e1, e2]
 simp only [empty_eq, len_eq, inB_page, isSlotB_in, inB_txn, inB_lsn]
 by_cases qpage : 0 = page
 case neg => simp only [decide_eq_false qpage, Bool.false_and, Bool.and_false, Bool.not_false, if_true, Bool.false_eq_true, if_false]
 subst qpage
 by_cases qslot : 0 = slot
 case neg => simp only [decide_eq_false qslot, Bool.false_and, Bool.and_false, Bool.not_false, if_true, Bool.false_eq_true, if_false]
 subst qslot
 cases bU with
 | true => simp only [show (false == true) = false from rfl, Bool.false_and, Bool.and_false, Bool.not_false, if_true, Bool.false_eq_true, if_false]
 | false =>
 by_cases qbefore : [] = bDb
 case neg => simp only [decide_eq_false qbefore, Bool.false_and, Bool.and_false, Bool.not_false, if_true, Bool.false_eq_true, if_false]
 subst qbefore
 cases aU with
 | true => simp only [show (false == true) = false from rfl, Bool.false_and, Bool.and_false, Bool.not_false, if_true, Bool.false_eq_true, if_false]
 | false =>
 by_cases qafter : [] = aDb
 case neg => simp only [decide_eq_false qafter, Bool.false_and, Bool.and_false, Bool.not_false, if_true, Bool.false_eq_true, if_false]
 subst qafter
 by_cases quN : 0 = uN
 case neg => simp only [decide_eq_false quN, Bool.false_and, Bool.and_false, Bool.not_false, if_true, Bool.false_eq_true, if_false]
 subst quN
 by_cases qnT : 0 = nT
 case neg => simp only [decide_eq_false qnT, Bool.false_and, Bool.and_false, Bool.not_false, if_true, Bool.false_eq_true, if_false]
 subst qnT
 by_cases qtxns : tXn = 0
 case neg => simp only [decide_eq_false qtxns, Bool.false_and, Bool.and_false, Bool.not_false, if_true, Bool.false_eq_true, if_false]
 simp only [decide_eq_true qtxns]
 by_cases qdirty : dYn = 0
 case neg => simp only [decide_eq_false qdirty, Bool.false_and, Bool.and_false, Bool.not_false, if_true, Bool.false_eq_true, if_false]
 simp only [decide_eq_true qdirty]
 by_cases qimage : [] = iMb
 case neg => simp only [decide_eq_false qimage, Bool.false_and, Bool.and_false, Bool.not_false, if_true, Bool.false_eq_true, if_false]
 subst qimage
 simp only [decide_true, beq_self_eq_true, Bool.and_self, Bool.and_true, Bool.true_and, Bool.not_true, Bool.false_eq_true, if_true, if_false, List.length_nil]
 unfold headF
 generalize isTxnB txn = g0 at *
 generalize isLSN prev = g1 at *
 cases g0 <;> cases g1 <;> simp [isLSN, fitsB]
theorem eqK_5 (txn prev page slot uN nT : Int) (bU aU : Bool) (bDb aDb iMb tXb dYb : List Int) (tXn dYn : Nat) (e1 : tXb.length / 4 = tXn) (e2 : dYb.length / 2 = dYn) :
  ((if (!(decide (0 = slot) && (emptyB aU aDb.length) && decide (0 = page) && (emptyB bU bDb.length) && decide (0 = uN) && decide (0 = nT) && decide (tXn = 0) && decide (dYn = 0) && decide (iMb.length = 0))) = true then 2 else (if (inB txn 1 2147483647) = false then 3 else (if (inB prev 0 1099511627776) = false then 4 else (if (fitsB bU bDb.length) = false then 6 else (if (fitsB aU aDb.length) = false then 6 else (0)))))) : Int) = if alone5 txn prev page slot bU bDb aU aDb uN nT tXb dYb iMb = true then headF txn prev else 2 := by
 unfold alone5
 rw [e1, e2]
 simp only [empty_eq, len_eq, inB_page, isSlotB_in, inB_txn, inB_lsn]
 by_cases qpage : 0 = page
 case neg => simp only [decide_eq_false qpage, Bool.false_and, Bool.and_false, Bool.not_false, if_true, Bool.false_eq_true, if_false]
 subst qpage
 by_cases qslot : 0 = slot
 case neg => simp only [decide_eq_false qslot, Bool.false_and, Bool.and_false, Bool.not_false, if_true, Bool.false_eq_true, if_false]
 subst qslot
 cases bU with
 | true => simp only [show (false == true) = false from rfl, Bool.false_and, Bool.and_false, Bool.not_false, if_true, Bool.false_eq_true, if_false]
 | false =>
 by_cases qbefore : [] = bDb
 case neg => simp only [decide_eq_false qbefore, Bool.false_and, Bool.and_false, Bool.not_false, if_true, Bool.false_eq_true, if_false]
 subst qbefore
 cases aU with
 | true => simp only [show (false == true) = false from rfl, Bool.false_and, Bool.and_false, Bool.not_false, if_true, Bool.false_eq_true, if_false]
 | false =>
 by_cases qafter : [] = aDb
 case neg => simp only [decide_eq_false qafter, Bool.false_and, Bool.and_false, Bool.not_false, if_true, Bool.false_eq_true, if_false]
 subst qafter
 by_cases quN : 0 = uN
 case neg => simp only [decide_eq_false quN, Bool.false_and, Bool.and_false, Bool.not_false, if_true, Bool.false_eq_true, if_false]
 subst quN
 by_cases qnT : 0 = nT
 case neg => simp only [decide_eq_false qnT, Bool.false_and, Bool.and_false, Bool.not_false, if_true, Bool.false_eq_true, if_false]
 subst qnT
 by_cases qtxns : tXn = 0
 case neg => simp only [decide_eq_false qtxns, Bool.false_and, Bool.and_false, Bool.not_false, if_true, Bool.false_eq_true, if_false]
 simp only [decide_eq_true qtxns]
 by_cases qdirty : dYn = 0
 case neg => simp only [decide_eq_false qdirty, Bool.false_and, Bool.and_false, Bool.not_false, if_true, Bool.false_eq_true, if_false]
 simp only [decide_eq_true qdirty]
 by_cases qimage : [] = iMb
 case neg => simp only [decide_eq_false qimage, Bool.false_and, Bool.and_false, Bool.not_false, if_true, Bool.false_eq_true, if_false]
 subst qimage
 simp only [decide_true, beq_self_eq_true, Bool.and_self, Bool.and_true, Bool.true_and, Bool.not_true, Bool.false_eq_true, if_true, if_false, List.length_nil]
 unfold headF
 generalize isTxnB txn = g0 at *
 generalize isLSN prev = g1 at *
 cases g0 <;> cases g1 <;> simp [isLSN, fitsB]
theorem eqK_6 (txn prev page slot uN nT : Int) (bU aU : Bool) (bDb aDb iMb tXb dYb : List Int) (tXn dYn : Nat) (e1 : tXb.length / 4 = tXn) (e2 : dYb.length / 2 = dYn) :
  ((if (!(decide (0 = txn) && decide (0 = prev) && decide (0 = slot) && (emptyB aU aDb.length) && decide (0 = page) && (emptyB bU bDb.length) && decide (0 = uN) && decide (0 = nT) && decide (tXn = 0) && decide (dYn = 0) && decide (iMb.length = 0))) = true then 2 else (if (inB prev 0 1099511627776) = false then 4 else (if (fitsB bU bDb.length) = false then 6 else (if (fitsB aU aDb.length) = false then 6 else (0))))) : Int) = if alone6 txn prev page slot bU bDb aU aDb uN nT tXb dYb iMb = true then 0 else 2 := by
 unfold alone6
 rw [e1, e2]
 simp only [empty_eq, len_eq, inB_page, isSlotB_in, inB_txn, inB_lsn]
 by_cases qtxn : 0 = txn
 case neg => simp only [decide_eq_false qtxn, Bool.false_and, Bool.and_false, Bool.not_false, if_true, Bool.false_eq_true, if_false]
 subst qtxn
 by_cases qprev : 0 = prev
 case neg => simp only [decide_eq_false qprev, Bool.false_and, Bool.and_false, Bool.not_false, if_true, Bool.false_eq_true, if_false]
 subst qprev
 by_cases qpage : 0 = page
 case neg => simp only [decide_eq_false qpage, Bool.false_and, Bool.and_false, Bool.not_false, if_true, Bool.false_eq_true, if_false]
 subst qpage
 by_cases qslot : 0 = slot
 case neg => simp only [decide_eq_false qslot, Bool.false_and, Bool.and_false, Bool.not_false, if_true, Bool.false_eq_true, if_false]
 subst qslot
 cases bU with
 | true => simp only [show (false == true) = false from rfl, Bool.false_and, Bool.and_false, Bool.not_false, if_true, Bool.false_eq_true, if_false]
 | false =>
 by_cases qbefore : [] = bDb
 case neg => simp only [decide_eq_false qbefore, Bool.false_and, Bool.and_false, Bool.not_false, if_true, Bool.false_eq_true, if_false]
 subst qbefore
 cases aU with
 | true => simp only [show (false == true) = false from rfl, Bool.false_and, Bool.and_false, Bool.not_false, if_true, Bool.false_eq_true, if_false]
 | false =>
 by_cases qafter : [] = aDb
 case neg => simp only [decide_eq_false qafter, Bool.false_and, Bool.and_false, Bool.not_false, if_true, Bool.false_eq_true, if_false]
 subst qafter
 by_cases quN : 0 = uN
 case neg => simp only [decide_eq_false quN, Bool.false_and, Bool.and_false, Bool.not_false, if_true, Bool.false_eq_true, if_false]
 subst quN
 by_cases qnT : 0 = nT
 case neg => simp only [decide_eq_false qnT, Bool.false_and, Bool.and_false, Bool.not_false, if_true, Bool.false_eq_true, if_false]
 subst qnT
 by_cases qtxns : tXn = 0
 case neg => simp only [decide_eq_false qtxns, Bool.false_and, Bool.and_false, Bool.not_false, if_true, Bool.false_eq_true, if_false]
 simp only [decide_eq_true qtxns]
 by_cases qdirty : dYn = 0
 case neg => simp only [decide_eq_false qdirty, Bool.false_and, Bool.and_false, Bool.not_false, if_true, Bool.false_eq_true, if_false]
 simp only [decide_eq_true qdirty]
 by_cases qimage : [] = iMb
 case neg => simp only [decide_eq_false qimage, Bool.false_and, Bool.and_false, Bool.not_false, if_true, Bool.false_eq_true, if_false]
 subst qimage
 simp only [decide_true, beq_self_eq_true, Bool.and_self, Bool.and_true, Bool.true_and, Bool.not_true, Bool.false_eq_true, if_true, if_false, List.length_nil]
 skip
 simp [isLSN, fitsB]
theorem eqK_7 (txn prev page slot uN nT : Int) (bU aU : Bool) (bDb aDb iMb tXb dYb : List Int) (tXn dYn : Nat) (e1 : tXb.length / 4 = tXn) (e2 : dYb.length / 2 = dYn) :
  ((if (!(decide (0 = txn) && decide (0 = prev) && decide (0 = slot) && (emptyB aU aDb.length) && decide (0 = page) && (emptyB bU bDb.length) && decide (0 = uN) && decide (iMb.length = 0))) = true then 2 else (if (inB prev 0 1099511627776) = false then 4 else (if (fitsB bU bDb.length) = false then 6 else (if (fitsB aU aDb.length) = false then 6 else (if ((inB nT 1 2147483648 && allTxns tXb tXn && allDirty dYb dYn)) = false then 8 else (0)))))) : Int) = if alone7 txn prev page slot bU bDb aU aDb uN nT tXb dYb iMb = true then tabF nT tXb (tXb.length / 4) dYb (dYb.length / 2) else 2 := by
 unfold alone7
 rw [e1, e2]
 simp only [empty_eq, len_eq, inB_page, isSlotB_in, inB_txn, inB_lsn]
 by_cases qtxn : 0 = txn
 case neg => simp only [decide_eq_false qtxn, Bool.false_and, Bool.and_false, Bool.not_false, if_true, Bool.false_eq_true, if_false]
 subst qtxn
 by_cases qprev : 0 = prev
 case neg => simp only [decide_eq_false qprev, Bool.false_and, Bool.and_false, Bool.not_false, if_true, Bool.false_eq_true, if_false]
 subst qprev
 by_cases qpage : 0 = page
 case neg => simp only [decide_eq_false qpage, Bool.false_and, Bool.and_false, Bool.not_false, if_true, Bool.false_eq_true, if_false]
 subst qpage
 by_cases qslot : 0 = slot
 case neg => simp only [decide_eq_false qslot, Bool.false_and, Bool.and_false, Bool.not_false, if_true, Bool.false_eq_true, if_false]
 subst qslot
 cases bU with
 | true => simp only [show (false == true) = false from rfl, Bool.false_and, Bool.and_false, Bool.not_false, if_true, Bool.false_eq_true, if_false]
 | false =>
 by_cases qbefore : [] = bDb
 case neg => simp only [decide_eq_false qbefore, Bool.false_and, Bool.and_false, Bool.not_false, if_true, Bool.false_eq_true, if_false]
 subst qbefore
 cases aU with
 | true => simp only [show (false == true) = false from rfl, Bool.false_and, Bool.and_false, Bool.not_false, if_true, Bool.false_eq_true, if_false]
 | false =>
 by_cases qafter : [] = aDb
 case neg => simp only [decide_eq_false qafter, Bool.false_and, Bool.and_false, Bool.not_false, if_true, Bool.false_eq_true, if_false]
 subst qafter
 by_cases quN : 0 = uN
 case neg => simp only [decide_eq_false quN, Bool.false_and, Bool.and_false, Bool.not_false, if_true, Bool.false_eq_true, if_false]
 subst quN
 by_cases qimage : [] = iMb
 case neg => simp only [decide_eq_false qimage, Bool.false_and, Bool.and_false, Bool.not_false, if_true, Bool.false_eq_true, if_false]
 subst qimage
 simp only [decide_true, beq_self_eq_true, Bool.and_self, Bool.and_true, Bool.true_and, Bool.not_true, Bool.false_eq_true, if_true, if_false, List.length_nil]
 unfold tabF inB
 generalize decide (1 ≤ nT) = g0 at *
 generalize decide (nT ≤ 2147483648) = g1 at *
 generalize allTxns tXb tXn = g2 at *
 generalize allDirty dYb dYn = g3 at *
 cases g0 <;> cases g1 <;> cases g2 <;> cases g3 <;> simp [isLSN, fitsB]
theorem eqK_8 (txn prev page slot uN nT : Int) (bU aU : Bool) (bDb aDb iMb tXb dYb : List Int) (tXn dYn : Nat) (e1 : tXb.length / 4 = tXn) (e2 : dYb.length / 2 = dYn) :
  ((if (!(decide (0 = txn) && decide (0 = prev) && decide (0 = slot) && (emptyB aU aDb.length) && (emptyB bU bDb.length) && decide (0 = uN) && decide (0 = nT) && decide (tXn = 0) && decide (dYn = 0))) = true then 2 else (if (inB prev 0 1099511627776) = false then 4 else (if (inB page 0 15) = false then 5 else (if (fitsB bU bDb.length) = false then 6 else (if (fitsB aU aDb.length) = false then 6 else (if pageFault iMb page ≠ 0 then 9 else (0))))))) : Int) = if alone8 txn prev page slot bU bDb aU aDb uN nT tXb dYb iMb = true then imgF page iMb else 2 := by
 unfold alone8
 rw [e1, e2]
 simp only [empty_eq, len_eq, inB_page, isSlotB_in, inB_txn, inB_lsn]
 by_cases qtxn : 0 = txn
 case neg => simp only [decide_eq_false qtxn, Bool.false_and, Bool.and_false, Bool.not_false, if_true, Bool.false_eq_true, if_false]
 subst qtxn
 by_cases qprev : 0 = prev
 case neg => simp only [decide_eq_false qprev, Bool.false_and, Bool.and_false, Bool.not_false, if_true, Bool.false_eq_true, if_false]
 subst qprev
 by_cases qslot : 0 = slot
 case neg => simp only [decide_eq_false qslot, Bool.false_and, Bool.and_false, Bool.not_false, if_true, Bool.false_eq_true, if_false]
 subst qslot
 cases bU with
 | true => simp only [show (false == true) = false from rfl, Bool.false_and, Bool.and_false, Bool.not_false, if_true, Bool.false_eq_true, if_false]
 | false =>
 by_cases qbefore : [] = bDb
 case neg => simp only [decide_eq_false qbefore, Bool.false_and, Bool.and_false, Bool.not_false, if_true, Bool.false_eq_true, if_false]
 subst qbefore
 cases aU with
 | true => simp only [show (false == true) = false from rfl, Bool.false_and, Bool.and_false, Bool.not_false, if_true, Bool.false_eq_true, if_false]
 | false =>
 by_cases qafter : [] = aDb
 case neg => simp only [decide_eq_false qafter, Bool.false_and, Bool.and_false, Bool.not_false, if_true, Bool.false_eq_true, if_false]
 subst qafter
 by_cases quN : 0 = uN
 case neg => simp only [decide_eq_false quN, Bool.false_and, Bool.and_false, Bool.not_false, if_true, Bool.false_eq_true, if_false]
 subst quN
 by_cases qnT : 0 = nT
 case neg => simp only [decide_eq_false qnT, Bool.false_and, Bool.and_false, Bool.not_false, if_true, Bool.false_eq_true, if_false]
 subst qnT
 by_cases qtxns : tXn = 0
 case neg => simp only [decide_eq_false qtxns, Bool.false_and, Bool.and_false, Bool.not_false, if_true, Bool.false_eq_true, if_false]
 simp only [decide_eq_true qtxns]
 by_cases qdirty : dYn = 0
 case neg => simp only [decide_eq_false qdirty, Bool.false_and, Bool.and_false, Bool.not_false, if_true, Bool.false_eq_true, if_false]
 simp only [decide_eq_true qdirty]
 simp only [decide_true, beq_self_eq_true, Bool.and_self, Bool.and_true, Bool.true_and, Bool.not_true, Bool.false_eq_true, if_true, if_false, List.length_nil]
 unfold imgF
 generalize isPageB page = g0 at *
 generalize pageFault iMb page = PF
 cases g0 <;> by_cases hp : PF = 0 <;> simp [hp, isLSN, fitsB]
theorem recS_0 (kind : Int) (txn : Int) (prev : Int) (page : Int) (slot : Int) (bU : Bool) (bDa : Option Addr) (bDc : Nat) (bDb : List Int) (aU : Bool) (aDa : Option Addr) (aDc : Nat) (aDb : List Int) (uN : Int) (nT : Int) (tXe : TypeId) (tXa : Option Addr) (tXn tXc : Nat) (tXb : List Int) (dYe : TypeId) (dYa : Option Addr) (dYn dYc : Nat) (dYb : List Int) (iMa : Option Addr) (iMc : Nat) (iMb : List Int) (w : World) (h : inB kind 1 8 = false) : Calls Tryz.prog 17 #[.agg #[.int .i64 kind, .int .i64 txn, .int .i64 prev, .int .i64 page, .int .i64 slot, .bool bU, .slice bDa bDb.length bDc, .bool aU, .slice aDa aDb.length aDc, .int .i64 uN, .int .i64 nT, .slice tXa tXn tXc, .slice dYa dYn dYc, .slice iMa iMb.length iMc]] w fun e w' => e = .returned (.int .i64 1) ∧ Same w w' := by
 have h1 := fun wx => l4In_any kind 1 8 wx
 rw [h] at h1
 have hk1 : ¬ kind = 1 := fun e => by subst e; cases h
 have hk2 : ¬ kind = 2 := fun e => by subst e; cases h
 clear h
 go_enter Tryz.func17, Tryz.ntmps17
 go_wp2_with (go_at_call 18; refine (h1 _).mono ?_; rintro e w1 ⟨rfl, hk⟩)
 go_ret
 exact ⟨rfl, ((Kept.refl _ _).alloc _).trans hk⟩
theorem recI_0 (kind : Int) (txn : Int) (prev : Int) (page : Int) (slot : Int) (bU : Bool) (bDa : Option Addr) (bDc : Nat) (bDb : List Int) (aU : Bool) (aDa : Option Addr) (aDc : Nat) (aDb : List Int) (uN : Int) (nT : Int) (tXe : TypeId) (tXa : Option Addr) (tXn tXc : Nat) (tXb : List Int) (dYe : TypeId) (dYa : Option Addr) (dYn dYc : Nat) (dYb : List Int) (iMa : Option Addr) (iMc : Nat) (iMb : List Int) (w : World) (h1 : ¬ kind = 1) (h2 : ¬ kind = 2) (h3 : ¬ kind = 3) (h4 : ¬ kind = 4) (h5 : ¬ kind = 5) (h6 : ¬ kind = 6) (h7 : ¬ kind = 7) (h8 : ¬ kind = 8) : Calls Tryz.prog 45 #[.agg #[.int .i64 kind, .int .i64 txn, .int .i64 prev, .int .i64 page, .int .i64 slot, .bool bU, .slice bDa bDb.length bDc, .bool aU, .slice aDa aDb.length aDc, .int .i64 uN, .int .i64 nT, .slice tXa tXn tXc, .slice dYa dYn dYc, .slice iMa iMb.length iMc]] w fun e w' => e = .returned (.int .i64 1) ∧ Same w w' := by
 have hT := fun wx => typeRecord_0 kind txn prev page slot bU bDa bDb.length bDc aU aDa aDb.length aDc uN nT tXa tXn tXc dYa dYn dYc iMa iMb.length iMc wx h1 h2 h3 h4 h5 h6 h7 h8
 clear h1 h2 h3 h4 h5 h6 h7 h8
 go_enter Tryz.func45, Tryz.ntmps45
 go_wp2_with (go_at_call 47; refine (hT _).mono ?_; rintro e w1 ⟨rfl, hk⟩)
 go_ret
 exact ⟨rfl, ((Kept.refl _ _).alloc _).trans hk⟩
end Go.Proofs.YtdgmecmkkddpeaaGreat
