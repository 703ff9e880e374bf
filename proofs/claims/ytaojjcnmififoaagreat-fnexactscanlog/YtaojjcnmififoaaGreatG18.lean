import Derived.Test.YtaojjcnmififoaaGreatG16
import Derived.Test.YtaojjcnmififoaaGreatPlainRec
import Derived.Test.YtaojjcnmififoaaGreatG02
import Derived.Test.YtaojjcnmififoaaGreatRecSpecC
import Derived.Test.YtaojjcnmififoaaGreatExtraA
import Derived.Test.YtaojjcnmififoaaGreatExtraB
import Derived.Test.YtaojjcnmififoaaGreatExtraC
import Derived.Test.YtaojjcnmififoaaGreatG07
import Derived.Test.YtaojjcnmififoaaGreatTables
import Derived.Test.YtaojjcnmififoaaGreatG12
import Derived.Deep.RegionWith
import Derived.Deep.DeepMust
namespace Go.Proofs.YtaojjcnmififoaaGreat
set_option linter.unusedVariables false
set_option linter.unusedSimpArgs false
set_option maxRecDepth 100000
set_option maxHeartbeats 16000000
open Go.RowKit
def Yi (txn prev page slot : Int) (bu : Bool) (bb : List Int) (au : Bool) (ab : List Int) (un nt : Int) (tx dy im : List Int) : Bool := decide (0 = un) && decide (0 = nt) && decide (tx.length / 4 = 0) && decide (dy.length / 2 = 0) && decide ([] = im)
def Yj (txn prev page slot : Int) (bu : Bool) (bb : List Int) (au : Bool) (ab : List Int) (un nt : Int) (tx dy im : List Int) : Bool := (false == bu && decide ([] = bb)) && decide (0 = nt) && decide (tx.length / 4 = 0) && decide (dy.length / 2 = 0) && decide ([] = im)
def Yk (txn prev page slot : Int) (bu : Bool) (bb : List Int) (au : Bool) (ab : List Int) (un nt : Int) (tx dy im : List Int) : Bool := decide (0 = page) && decide (0 = slot) && (false == bu && decide ([] = bb)) && (false == au && decide ([] = ab)) && decide (0 = un) && decide (0 = nt) && decide (tx.length / 4 = 0) && decide (dy.length / 2 = 0) && decide ([] = im)
def Yl (txn prev page slot : Int) (bu : Bool) (bb : List Int) (au : Bool) (ab : List Int) (un nt : Int) (tx dy im : List Int) : Bool := decide (0 = page) && decide (0 = slot) && (false == bu && decide ([] = bb)) && (false == au && decide ([] = ab)) && decide (0 = un) && decide (0 = nt) && decide (tx.length / 4 = 0) && decide (dy.length / 2 = 0) && decide ([] = im)
def Ym (txn prev page slot : Int) (bu : Bool) (bb : List Int) (au : Bool) (ab : List Int) (un nt : Int) (tx dy im : List Int) : Bool := decide (0 = page) && decide (0 = slot) && (false == bu && decide ([] = bb)) && (false == au && decide ([] = ab)) && decide (0 = un) && decide (0 = nt) && decide (tx.length / 4 = 0) && decide (dy.length / 2 = 0) && decide ([] = im)
def Xj (txn prev page slot : Int) (bu : Bool) (bb : List Int) (au : Bool) (ab : List Int) (un nt : Int) (tx dy im : List Int) : Bool := decide (0 = txn) && decide (0 = prev) && decide (0 = page) && decide (0 = slot) && (false == bu && decide ([] = bb)) && (false == au && decide ([] = ab)) && decide (0 = un) && decide (0 = nt) && decide (tx.length / 4 = 0) && decide (dy.length / 2 = 0) && decide ([] = im)
def Xk (txn prev page slot : Int) (bu : Bool) (bb : List Int) (au : Bool) (ab : List Int) (un nt : Int) (tx dy im : List Int) : Bool := decide (0 = txn) && decide (0 = prev) && decide (0 = page) && decide (0 = slot) && (false == bu && decide ([] = bb)) && (false == au && decide ([] = ab)) && decide (0 = un) && decide ([] = im)
def Xl (txn prev page slot : Int) (bu : Bool) (bb : List Int) (au : Bool) (ab : List Int) (un nt : Int) (tx dy im : List Int) : Bool := decide (0 = txn) && decide (0 = prev) && decide (0 = slot) && (false == bu && decide ([] = bb)) && (false == au && decide ([] = ab)) && decide (0 = un) && decide (0 = nt) && decide (tx.length / 4 = 0) && decide (dy.length / 2 = 0)
def RV (kind txn prev page slot : Int) (bu : Bool) (bb : List Int) (au : Bool) (ab : List Int) (un nt : Int) (tx dy im : List Int) : Int := if kind = 1 then (if Yi txn prev page slot bu bb au ab un nt tx dy im = true then orF (Rx txn prev) (Rt page slot) (jaf bu au bb.length ab.length) else 2) else if kind = 2 then (if Yj txn prev page slot bu bb au ab un nt tx dy im = true then orF (Rx txn prev) (Rt page slot) (jag au ab.length un) else 2) else if kind = 3 then (if Yk txn prev page slot bu bb au ab un nt tx dy im = true then Rx txn prev else 2) else if kind = 4 then (if Yl txn prev page slot bu bb au ab un nt tx dy im = true then Rx txn prev else 2) else if kind = 5 then (if Ym txn prev page slot bu bb au ab un nt tx dy im = true then Rx txn prev else 2) else if kind = 6 then (if Xj txn prev page slot bu bb au ab un nt tx dy im = true then 0 else 2) else if kind = 7 then (if Xk txn prev page slot bu bb au ab un nt tx dy im = true then jb2 nt tx (tx.length / 4) dy (dy.length / 2) else 2) else if kind = 8 then (if Xl txn prev page slot bu bb au ab un nt tx dy im = true then jb1 page im else 2) else 1
theorem jes (txn prev page slot : Int) (bU : Bool) (bp : Option Addr) (bq : Nat) (aZ : List Int) (aU : Bool) (bj : Option Addr) (bk : Nat) (aV : List Int) (uN nT : Int) (fZ : TypeId) (bT : Option Addr) (aR bV : Nat) (cn : List Int) (fY : TypeId) (bX : Option Addr) (a9 bW : Nat) (dF : List Int) (bw : Option Addr) (bD : Nat) (bd : List Int) (w : World) (tZ : IsB aZ) (vi : IsB aV) (tv : IsB bd) (kY : bd.length ≤ 1099511627776) (fI : Rd .u8 w (.slice bp aZ.length bq) aZ) (fx : Rd .u8 w (.slice bj aV.length bk) aV) (jL : Rd .u8 w (.slice bw bd.length bD) bd) (jR : RdF 4 w ⟨fZ, bT, aR, bV, cn⟩) (fw : RdF 2 w ⟨fY, bX, a9, bW, dF⟩) (jE : aR ≤ 1125899906842624) (j7 : a9 ≤ 1125899906842624) :
  Calls Tryz.prog 64 #[.agg #[.int .i64 1, .int .i64 txn, .int .i64 prev, .int .i64 page, .int .i64 slot, .bool bU, .slice bp aZ.length bq, .bool aU, .slice bj aV.length bk, .int .i64 uN, .int .i64 nT, .slice bT aR bV, .slice bX a9 bW, .slice bw bd.length bD]] w fun e w' => e = .returned (.int .i64 (if (!(decide (0 = uN) && decide (0 = nT) && decide (aR = 0) && decide (a9 = 0) && decide (bd.length = 0))) = true then 2 else (if (inB txn 1 2147483647) = false then 3 else (if (inB prev 0 1099511627776) = false then 4 else (if (inB page 0 15) = false then 5 else (if (inB slot 0 31) = false then 5 else (if (Rj bU aZ.length) = false then 6 else (if (Rj aU aV.length) = false then 6 else (if (bU || aU) = false then 6 else (0)))))))))) ∧ Same w w' :=
 jfl txn prev page slot bU bp aZ.length bq aU bj aV.length bk uN nT bT aR bV bX a9 bW bw bd.length bD w (!(decide (0 = uN) && decide (0 = nT) && decide (aR = 0) && decide (a9 = 0) && decide (bd.length = 0))) (inB txn 1 2147483647) (inB prev 0 1099511627776) (inB page 0 15) (inB slot 0 31) (Rj bU aZ.length) (Rj aU aV.length) (Rn bd page) (fun wx _ => Rm 1 1 8 wx) (fun wx _ => jd9 txn prev page slot bU bp aZ.length bq aU bj aV.length bk uN nT bT aR bV bX a9 bW bw bd.length bD wx  jR.1 fw.1 jL.1) (fun wx _ => Rm _ _ _ wx) (fun wx _ => Rm _ _ _ wx) (fun wx _ => Rm _ _ _ wx) (fun wx _ => Rm _ _ _ wx) (fun wx _ => RU _ _ _ _ wx fI.1) (fun wx _ => RU _ _ _ _ wx fx.1)
theorem jet (txn prev page slot : Int) (bU : Bool) (bp : Option Addr) (bq : Nat) (aZ : List Int) (aU : Bool) (bj : Option Addr) (bk : Nat) (aV : List Int) (uN nT : Int) (fZ : TypeId) (bT : Option Addr) (aR bV : Nat) (cn : List Int) (fY : TypeId) (bX : Option Addr) (a9 bW : Nat) (dF : List Int) (bw : Option Addr) (bD : Nat) (bd : List Int) (w : World) (tZ : IsB aZ) (vi : IsB aV) (tv : IsB bd) (kY : bd.length ≤ 1099511627776) (fI : Rd .u8 w (.slice bp aZ.length bq) aZ) (fx : Rd .u8 w (.slice bj aV.length bk) aV) (jL : Rd .u8 w (.slice bw bd.length bD) bd) (jR : RdF 4 w ⟨fZ, bT, aR, bV, cn⟩) (fw : RdF 2 w ⟨fY, bX, a9, bW, dF⟩) (jE : aR ≤ 1125899906842624) (j7 : a9 ≤ 1125899906842624) :
  Calls Tryz.prog 64 #[.agg #[.int .i64 2, .int .i64 txn, .int .i64 prev, .int .i64 page, .int .i64 slot, .bool bU, .slice bp aZ.length bq, .bool aU, .slice bj aV.length bk, .int .i64 uN, .int .i64 nT, .slice bT aR bV, .slice bX a9 bW, .slice bw bd.length bD]] w fun e w' => e = .returned (.int .i64 (if (!((Rz bU aZ.length) && decide (0 = nT) && decide (aR = 0) && decide (a9 = 0) && decide (bd.length = 0))) = true then 2 else (if (inB txn 1 2147483647) = false then 3 else (if (inB prev 0 1099511627776) = false then 4 else (if (inB page 0 15) = false then 5 else (if (inB slot 0 31) = false then 5 else (if (Rj bU aZ.length) = false then 6 else (if (Rj aU aV.length) = false then 6 else (if (inB uN 0 1099511627776) = false then 7 else (0)))))))))) ∧ Same w w' :=
 jfm txn prev page slot bU bp aZ.length bq aU bj aV.length bk uN nT bT aR bV bX a9 bW bw bd.length bD w (!((Rz bU aZ.length) && decide (0 = nT) && decide (aR = 0) && decide (a9 = 0) && decide (bd.length = 0))) (inB txn 1 2147483647) (inB prev 0 1099511627776) (inB page 0 15) (inB slot 0 31) (Rj bU aZ.length) (Rj aU aV.length) (inB uN 0 1099511627776) (Rn bd page) (fun wx _ => Rm 2 1 8 wx) (fun wx _ => jea txn prev page slot bU bp aZ.length bq aU bj aV.length bk uN nT bT aR bV bX a9 bW bw bd.length bD wx _ (fun wy _ => R3 bU bp aZ.length bq wy fI.1) jR.1 fw.1 jL.1) (fun wx _ => Rm _ _ _ wx) (fun wx _ => Rm _ _ _ wx) (fun wx _ => Rm _ _ _ wx) (fun wx _ => Rm _ _ _ wx) (fun wx _ => RU _ _ _ _ wx fI.1) (fun wx _ => RU _ _ _ _ wx fx.1) (fun wx _ => Rm _ _ _ wx)
theorem jeu (txn prev page slot : Int) (bU : Bool) (bp : Option Addr) (bq : Nat) (aZ : List Int) (aU : Bool) (bj : Option Addr) (bk : Nat) (aV : List Int) (uN nT : Int) (fZ : TypeId) (bT : Option Addr) (aR bV : Nat) (cn : List Int) (fY : TypeId) (bX : Option Addr) (a9 bW : Nat) (dF : List Int) (bw : Option Addr) (bD : Nat) (bd : List Int) (w : World) (tZ : IsB aZ) (vi : IsB aV) (tv : IsB bd) (kY : bd.length ≤ 1099511627776) (fI : Rd .u8 w (.slice bp aZ.length bq) aZ) (fx : Rd .u8 w (.slice bj aV.length bk) aV) (jL : Rd .u8 w (.slice bw bd.length bD) bd) (jR : RdF 4 w ⟨fZ, bT, aR, bV, cn⟩) (fw : RdF 2 w ⟨fY, bX, a9, bW, dF⟩) (jE : aR ≤ 1125899906842624) (j7 : a9 ≤ 1125899906842624) :
  Calls Tryz.prog 64 #[.agg #[.int .i64 3, .int .i64 txn, .int .i64 prev, .int .i64 page, .int .i64 slot, .bool bU, .slice bp aZ.length bq, .bool aU, .slice bj aV.length bk, .int .i64 uN, .int .i64 nT, .slice bT aR bV, .slice bX a9 bW, .slice bw bd.length bD]] w fun e w' => e = .returned (.int .i64 (if (!(decide (0 = slot) && (Rz aU aV.length) && decide (0 = page) && (Rz bU aZ.length) && decide (0 = uN) && decide (0 = nT) && decide (aR = 0) && decide (a9 = 0) && decide (bd.length = 0))) = true then 2 else (if (inB txn 1 2147483647) = false then 3 else (if (inB prev 0 1099511627776) = false then 4 else (if (Rj bU aZ.length) = false then 6 else (if (Rj aU aV.length) = false then 6 else (0))))))) ∧ Same w w' :=
 jfn txn prev page slot bU bp aZ.length bq aU bj aV.length bk uN nT bT aR bV bX a9 bW bw bd.length bD w (!(decide (0 = slot) && (Rz aU aV.length) && decide (0 = page) && (Rz bU aZ.length) && decide (0 = uN) && decide (0 = nT) && decide (aR = 0) && decide (a9 = 0) && decide (bd.length = 0))) (inB txn 1 2147483647) (inB prev 0 1099511627776) (Rj bU aZ.length) (Rj aU aV.length) (Rn bd page) (fun wx _ => Rm 3 1 8 wx) (fun wx _ => jeb txn prev page slot bU bp aZ.length bq aU bj aV.length bk uN nT bT aR bV bX a9 bW bw bd.length bD wx _ _ (fun wy _ => R3 aU bj aV.length bk wy fx.1) (fun wy _ => R3 bU bp aZ.length bq wy fI.1) jR.1 fw.1 jL.1) (fun wx _ => Rm _ _ _ wx) (fun wx _ => Rm _ _ _ wx) (fun wx _ => RU _ _ _ _ wx fI.1) (fun wx _ => RU _ _ _ _ wx fx.1)
theorem jev (txn prev page slot : Int) (bU : Bool) (bp : Option Addr) (bq : Nat) (aZ : List Int) (aU : Bool) (bj : Option Addr) (bk : Nat) (aV : List Int) (uN nT : Int) (fZ : TypeId) (bT : Option Addr) (aR bV : Nat) (cn : List Int) (fY : TypeId) (bX : Option Addr) (a9 bW : Nat) (dF : List Int) (bw : Option Addr) (bD : Nat) (bd : List Int) (w : World) (tZ : IsB aZ) (vi : IsB aV) (tv : IsB bd) (kY : bd.length ≤ 1099511627776) (fI : Rd .u8 w (.slice bp aZ.length bq) aZ) (fx : Rd .u8 w (.slice bj aV.length bk) aV) (jL : Rd .u8 w (.slice bw bd.length bD) bd) (jR : RdF 4 w ⟨fZ, bT, aR, bV, cn⟩) (fw : RdF 2 w ⟨fY, bX, a9, bW, dF⟩) (jE : aR ≤ 1125899906842624) (j7 : a9 ≤ 1125899906842624) :
  Calls Tryz.prog 64 #[.agg #[.int .i64 4, .int .i64 txn, .int .i64 prev, .int .i64 page, .int .i64 slot, .bool bU, .slice bp aZ.length bq, .bool aU, .slice bj aV.length bk, .int .i64 uN, .int .i64 nT, .slice bT aR bV, .slice bX a9 bW, .slice bw bd.length bD]] w fun e w' => e = .returned (.int .i64 (if (!(decide (0 = slot) && (Rz aU aV.length) && decide (0 = page) && (Rz bU aZ.length) && decide (0 = uN) && decide (0 = nT) && decide (aR = 0) && decide (a9 = 0) && decide (bd.length = 0))) = true then 2 else (if (inB txn 1 2147483647) = false then 3 else (if (inB prev 0 1099511627776) = false then 4 else (if (Rj bU aZ.length) = false then 6 else (if (Rj aU aV.length) = false then 6 else (0))))))) ∧ Same w w' :=
 jfo txn prev page slot bU bp aZ.length bq aU bj aV.length bk uN nT bT aR bV bX a9 bW bw bd.length bD w (!(decide (0 = slot) && (Rz aU aV.length) && decide (0 = page) && (Rz bU aZ.length) && decide (0 = uN) && decide (0 = nT) && decide (aR = 0) && decide (a9 = 0) && decide (bd.length = 0))) (inB txn 1 2147483647) (inB prev 0 1099511627776) (Rj bU aZ.length) (Rj aU aV.length) (Rn bd page) (fun wx _ => Rm 4 1 8 wx) (fun wx _ => jec txn prev page slot bU bp aZ.length bq aU bj aV.length bk uN nT bT aR bV bX a9 bW bw bd.length bD wx _ _ (fun wy _ => R3 aU bj aV.length bk wy fx.1) (fun wy _ => R3 bU bp aZ.length bq wy fI.1) jR.1 fw.1 jL.1) (fun wx _ => Rm _ _ _ wx) (fun wx _ => Rm _ _ _ wx) (fun wx _ => RU _ _ _ _ wx fI.1) (fun wx _ => RU _ _ _ _ wx fx.1)
theorem jew (txn prev page slot : Int) (bU : Bool) (bp : Option Addr) (bq : Nat) (aZ : List Int) (aU : Bool) (bj : Option Addr) (bk : Nat) (aV : List Int) (uN nT : Int) (fZ : TypeId) (bT : Option Addr) (aR bV : Nat) (cn : List Int) (fY : TypeId) (bX : Option Addr) (a9 bW : Nat) (dF : List Int) (bw : Option Addr) (bD : Nat) (bd : List Int) (w : World) (tZ : IsB aZ) (vi : IsB aV) (tv : IsB bd) (kY : bd.length ≤ 1099511627776) (fI : Rd .u8 w (.slice bp aZ.length bq) aZ) (fx : Rd .u8 w (.slice bj aV.length bk) aV) (jL : Rd .u8 w (.slice bw bd.length bD) bd) (jR : RdF 4 w ⟨fZ, bT, aR, bV, cn⟩) (fw : RdF 2 w ⟨fY, bX, a9, bW, dF⟩) (jE : aR ≤ 1125899906842624) (j7 : a9 ≤ 1125899906842624) :
  Calls Tryz.prog 64 #[.agg #[.int .i64 5, .int .i64 txn, .int .i64 prev, .int .i64 page, .int .i64 slot, .bool bU, .slice bp aZ.length bq, .bool aU, .slice bj aV.length bk, .int .i64 uN, .int .i64 nT, .slice bT aR bV, .slice bX a9 bW, .slice bw bd.length bD]] w fun e w' => e = .returned (.int .i64 (if (!(decide (0 = slot) && (Rz aU aV.length) && decide (0 = page) && (Rz bU aZ.length) && decide (0 = uN) && decide (0 = nT) && decide (aR = 0) && decide (a9 = 0) && decide (bd.length = 0))) = true then 2 else (if (inB txn 1 2147483647) = false then 3 else (if (inB prev 0 1099511627776) = false then 4 else (if (Rj bU aZ.length) = false then 6 else (if (Rj aU aV.length) = false then 6 else (0))))))) ∧ Same w w' :=
 jfp txn prev page slot bU bp aZ.length bq aU bj aV.length bk uN nT bT aR bV bX a9 bW bw bd.length bD w (!(decide (0 = slot) && (Rz aU aV.length) && decide (0 = page) && (Rz bU aZ.length) && decide (0 = uN) && decide (0 = nT) && decide (aR = 0) && decide (a9 = 0) && decide (bd.length = 0))) (inB txn 1 2147483647) (inB prev 0 1099511627776) (Rj bU aZ.length) (Rj aU aV.length) (Rn bd page) (fun wx _ => Rm 5 1 8 wx) (fun wx _ => jed txn prev page slot bU bp aZ.length bq aU bj aV.length bk uN nT bT aR bV bX a9 bW bw bd.length bD wx _ _ (fun wy _ => R3 aU bj aV.length bk wy fx.1) (fun wy _ => R3 bU bp aZ.length bq wy fI.1) jR.1 fw.1 jL.1) (fun wx _ => Rm _ _ _ wx) (fun wx _ => Rm _ _ _ wx) (fun wx _ => RU _ _ _ _ wx fI.1) (fun wx _ => RU _ _ _ _ wx fx.1)
theorem jex (txn prev page slot : Int) (bU : Bool) (bp : Option Addr) (bq : Nat) (aZ : List Int) (aU : Bool) (bj : Option Addr) (bk : Nat) (aV : List Int) (uN nT : Int) (fZ : TypeId) (bT : Option Addr) (aR bV : Nat) (cn : List Int) (fY : TypeId) (bX : Option Addr) (a9 bW : Nat) (dF : List Int) (bw : Option Addr) (bD : Nat) (bd : List Int) (w : World) (tZ : IsB aZ) (vi : IsB aV) (tv : IsB bd) (kY : bd.length ≤ 1099511627776) (fI : Rd .u8 w (.slice bp aZ.length bq) aZ) (fx : Rd .u8 w (.slice bj aV.length bk) aV) (jL : Rd .u8 w (.slice bw bd.length bD) bd) (jR : RdF 4 w ⟨fZ, bT, aR, bV, cn⟩) (fw : RdF 2 w ⟨fY, bX, a9, bW, dF⟩) (jE : aR ≤ 1125899906842624) (j7 : a9 ≤ 1125899906842624) :
  Calls Tryz.prog 64 #[.agg #[.int .i64 6, .int .i64 txn, .int .i64 prev, .int .i64 page, .int .i64 slot, .bool bU, .slice bp aZ.length bq, .bool aU, .slice bj aV.length bk, .int .i64 uN, .int .i64 nT, .slice bT aR bV, .slice bX a9 bW, .slice bw bd.length bD]] w fun e w' => e = .returned (.int .i64 (if (!(decide (0 = txn) && decide (0 = prev) && decide (0 = slot) && (Rz aU aV.length) && decide (0 = page) && (Rz bU aZ.length) && decide (0 = uN) && decide (0 = nT) && decide (aR = 0) && decide (a9 = 0) && decide (bd.length = 0))) = true then 2 else (if (inB prev 0 1099511627776) = false then 4 else (if (Rj bU aZ.length) = false then 6 else (if (Rj aU aV.length) = false then 6 else (0)))))) ∧ Same w w' :=
 jfF txn prev page slot bU bp aZ.length bq aU bj aV.length bk uN nT bT aR bV bX a9 bW bw bd.length bD w (!(decide (0 = txn) && decide (0 = prev) && decide (0 = slot) && (Rz aU aV.length) && decide (0 = page) && (Rz bU aZ.length) && decide (0 = uN) && decide (0 = nT) && decide (aR = 0) && decide (a9 = 0) && decide (bd.length = 0))) (inB prev 0 1099511627776) (Rj bU aZ.length) (Rj aU aV.length) (Rn bd page) (fun wx _ => Rm 6 1 8 wx) (fun wx _ => jee txn prev page slot bU bp aZ.length bq aU bj aV.length bk uN nT bT aR bV bX a9 bW bw bd.length bD wx _ _ (fun wy _ => R3 aU bj aV.length bk wy fx.1) (fun wy _ => R3 bU bp aZ.length bq wy fI.1) jR.1 fw.1 jL.1) (fun wx _ => Rm _ _ _ wx) (fun wx _ => RU _ _ _ _ wx fI.1) (fun wx _ => RU _ _ _ _ wx fx.1)
theorem jey (txn prev page slot : Int) (bU : Bool) (bp : Option Addr) (bq : Nat) (aZ : List Int) (aU : Bool) (bj : Option Addr) (bk : Nat) (aV : List Int) (uN nT : Int) (fZ : TypeId) (bT : Option Addr) (aR bV : Nat) (cn : List Int) (fY : TypeId) (bX : Option Addr) (a9 bW : Nat) (dF : List Int) (bw : Option Addr) (bD : Nat) (bd : List Int) (w : World) (tZ : IsB aZ) (vi : IsB aV) (tv : IsB bd) (kY : bd.length ≤ 1099511627776) (fI : Rd .u8 w (.slice bp aZ.length bq) aZ) (fx : Rd .u8 w (.slice bj aV.length bk) aV) (jL : Rd .u8 w (.slice bw bd.length bD) bd) (jR : RdF 4 w ⟨fZ, bT, aR, bV, cn⟩) (fw : RdF 2 w ⟨fY, bX, a9, bW, dF⟩) (jE : aR ≤ 1125899906842624) (j7 : a9 ≤ 1125899906842624) :
  Calls Tryz.prog 64 #[.agg #[.int .i64 7, .int .i64 txn, .int .i64 prev, .int .i64 page, .int .i64 slot, .bool bU, .slice bp aZ.length bq, .bool aU, .slice bj aV.length bk, .int .i64 uN, .int .i64 nT, .slice bT aR bV, .slice bX a9 bW, .slice bw bd.length bD]] w fun e w' => e = .returned (.int .i64 (if (!(decide (0 = txn) && decide (0 = prev) && decide (0 = slot) && (Rz aU aV.length) && decide (0 = page) && (Rz bU aZ.length) && decide (0 = uN) && decide (bd.length = 0))) = true then 2 else (if (inB prev 0 1099511627776) = false then 4 else (if (Rj bU aZ.length) = false then 6 else (if (Rj aU aV.length) = false then 6 else (if ((inB nT 1 2147483648 && RL cn aR && RA dF a9)) = false then 8 else (0))))))) ∧ Same w w' :=
 jfG txn prev page slot bU bp aZ.length bq aU bj aV.length bk uN nT bT aR bV bX a9 bW bw bd.length bD w (!(decide (0 = txn) && decide (0 = prev) && decide (0 = slot) && (Rz aU aV.length) && decide (0 = page) && (Rz bU aZ.length) && decide (0 = uN) && decide (bd.length = 0))) (inB prev 0 1099511627776) (Rj bU aZ.length) (Rj aU aV.length) ((inB nT 1 2147483648 && RL cn aR && RA dF a9)) (Rn bd page) (fun wx _ => Rm 7 1 8 wx) (fun wx _ => jef txn prev page slot bU bp aZ.length bq aU bj aV.length bk uN nT bT aR bV bX a9 bW bw bd.length bD wx _ _ (fun wy _ => R3 aU bj aV.length bk wy fx.1) (fun wy _ => R3 bU bp aZ.length bq wy fI.1) jL.1) (fun wx _ => Rm _ _ _ wx) (fun wx _ => RU _ _ _ _ wx fI.1) (fun wx _ => RU _ _ _ _ wx fx.1) (fun wx h => jaw 7 txn prev page slot bU bp aZ.length bq aU bj aV.length bk uN nT bw bd.length bD ⟨fZ, bT, aR, bV, cn⟩ ⟨fY, bX, a9, bW, dF⟩ wx (jR.same h) (fw.same h))
theorem jez (txn prev page slot : Int) (bU : Bool) (bp : Option Addr) (bq : Nat) (aZ : List Int) (aU : Bool) (bj : Option Addr) (bk : Nat) (aV : List Int) (uN nT : Int) (fZ : TypeId) (bT : Option Addr) (aR bV : Nat) (cn : List Int) (fY : TypeId) (bX : Option Addr) (a9 bW : Nat) (dF : List Int) (bw : Option Addr) (bD : Nat) (bd : List Int) (w : World) (tZ : IsB aZ) (vi : IsB aV) (tv : IsB bd) (kY : bd.length ≤ 1099511627776) (fI : Rd .u8 w (.slice bp aZ.length bq) aZ) (fx : Rd .u8 w (.slice bj aV.length bk) aV) (jL : Rd .u8 w (.slice bw bd.length bD) bd) (jR : RdF 4 w ⟨fZ, bT, aR, bV, cn⟩) (fw : RdF 2 w ⟨fY, bX, a9, bW, dF⟩) (jE : aR ≤ 1125899906842624) (j7 : a9 ≤ 1125899906842624) :
  Calls Tryz.prog 64 #[.agg #[.int .i64 8, .int .i64 txn, .int .i64 prev, .int .i64 page, .int .i64 slot, .bool bU, .slice bp aZ.length bq, .bool aU, .slice bj aV.length bk, .int .i64 uN, .int .i64 nT, .slice bT aR bV, .slice bX a9 bW, .slice bw bd.length bD]] w fun e w' => e = .returned (.int .i64 (if (!(decide (0 = txn) && decide (0 = prev) && decide (0 = slot) && (Rz aU aV.length) && (Rz bU aZ.length) && decide (0 = uN) && decide (0 = nT) && decide (aR = 0) && decide (a9 = 0))) = true then 2 else (if (inB prev 0 1099511627776) = false then 4 else (if (inB page 0 15) = false then 5 else (if (Rj bU aZ.length) = false then 6 else (if (Rj aU aV.length) = false then 6 else (if Rn bd page ≠ 0 then 9 else (0)))))))) ∧ Same w w' :=
 jfH txn prev page slot bU bp aZ.length bq aU bj aV.length bk uN nT bT aR bV bX a9 bW bw bd.length bD w (!(decide (0 = txn) && decide (0 = prev) && decide (0 = slot) && (Rz aU aV.length) && (Rz bU aZ.length) && decide (0 = uN) && decide (0 = nT) && decide (aR = 0) && decide (a9 = 0))) (inB prev 0 1099511627776) (inB page 0 15) (Rj bU aZ.length) (Rj aU aV.length) (Rn bd page) (fun wx _ => Rm 8 1 8 wx) (fun wx _ => jej txn prev page slot bU bp aZ.length bq aU bj aV.length bk uN nT bT aR bV bX a9 bW bw bd.length bD wx _ _ (fun wy _ => R3 aU bj aV.length bk wy fx.1) (fun wy _ => R3 bU bp aZ.length bq wy fI.1) jR.1 fw.1) (fun wx _ => Rm _ _ _ wx) (fun wx _ => Rm _ _ _ wx) (fun wx _ => RU _ _ _ _ wx fI.1) (fun wx _ => RU _ _ _ _ wx fx.1) (fun wx h => YW _ bd page wx tv kY (jL.same h))
theorem Tw (x : Int) : inB x 0 31 = UR x := by
 unfold UR inB
 rw [show decide (x < 32) = decide (x ≤ 31) from decide_eq_decide.2 (by omega)]
theorem Ut (x : Int) : inB x 0 15 = SN x := (UM x).symm
theorem UU (x : Int) : inB x 1 2147483647 = Tq x := rfl
theorem UW (x : Int) : inB x 0 1099511627776 = Sk x := rfl
theorem empty_eq (u : Bool) (b : List Int) : Rz u b.length = (false == u && decide ([] = b)) := by
 unfold Rz
 cases u <;> cases b <;> simp
theorem len_eq (b : List Int) : decide (b.length = 0) = decide ([] = b) := by cases b <;> simp
theorem jb3 : Rj false 0 = true := rfl
theorem jfM (txn prev page slot uN nT : Int) (bU aU : Bool) (aZ aV bd cn dF : List Int) (aR a9 : Nat) (e1 : cn.length / 4 = aR) (e2 : dF.length / 2 = a9) :
  ((if (!(decide (0 = uN) && decide (0 = nT) && decide (aR = 0) && decide (a9 = 0) && decide (bd.length = 0))) = true then 2 else (if (inB txn 1 2147483647) = false then 3 else (if (inB prev 0 1099511627776) = false then 4 else (if (inB page 0 15) = false then 5 else (if (inB slot 0 31) = false then 5 else (if (Rj bU aZ.length) = false then 6 else (if (Rj aU aV.length) = false then 6 else (if (bU || aU) = false then 6 else (0))))))))) : Int) = if Yi txn prev page slot bU aZ aU aV uN nT cn dF bd = true then orF (Rx txn prev) (Rt page slot) (jaf bU aU aZ.length aV.length) else 2 := by
 unfold Yi
 rw [e1, e2]
 simp only [empty_eq, len_eq, Ut, Tw, UU, UW]
 by_cases quN : 0 = uN
 case neg => simp only [decide_eq_false quN, Bool.false_and, Bool.and_false, Bool.not_false, if_true, Bool.false_eq_true, if_false]
 subst quN
 by_cases qnT : 0 = nT
 case neg => simp only [decide_eq_false qnT, Bool.false_and, Bool.and_false, Bool.not_false, if_true, Bool.false_eq_true, if_false]
 subst qnT
 by_cases qtxns : aR = 0
 case neg => simp only [decide_eq_false qtxns, Bool.false_and, Bool.and_false, Bool.not_false, if_true, Bool.false_eq_true, if_false]
 simp only [decide_eq_true qtxns]
 by_cases qdirty : a9 = 0
 case neg => simp only [decide_eq_false qdirty, Bool.false_and, Bool.and_false, Bool.not_false, if_true, Bool.false_eq_true, if_false]
 simp only [decide_eq_true qdirty]
 by_cases qimage : [] = bd
 case neg => simp only [decide_eq_false qimage, Bool.false_and, Bool.and_false, Bool.not_false, if_true, Bool.false_eq_true, if_false]
 subst qimage
 simp only [decide_true, beq_self_eq_true, Bool.and_self, Bool.and_true, Bool.true_and, Bool.not_true, Bool.false_eq_true, if_true, if_false, List.length_nil]
 unfold orF Rx Rt jaf
 generalize Tq txn = g0 at *
 generalize Sk prev = g1 at *
 generalize SN page = g2 at *
 generalize UR slot = g3 at *
 generalize Rj bU aZ.length = g4 at *
 generalize Rj aU aV.length = g5 at *
 cases g0 <;> cases g1 <;> cases g2 <;> cases g3 <;> cases g4 <;> cases g5 <;> cases bU <;> cases aU <;> simp [Sk, Rj]
theorem jfN (txn prev page slot uN nT : Int) (bU aU : Bool) (aZ aV bd cn dF : List Int) (aR a9 : Nat) (e1 : cn.length / 4 = aR) (e2 : dF.length / 2 = a9) :
  ((if (!((Rz bU aZ.length) && decide (0 = nT) && decide (aR = 0) && decide (a9 = 0) && decide (bd.length = 0))) = true then 2 else (if (inB txn 1 2147483647) = false then 3 else (if (inB prev 0 1099511627776) = false then 4 else (if (inB page 0 15) = false then 5 else (if (inB slot 0 31) = false then 5 else (if (Rj bU aZ.length) = false then 6 else (if (Rj aU aV.length) = false then 6 else (if (inB uN 0 1099511627776) = false then 7 else (0))))))))) : Int) = if Yj txn prev page slot bU aZ aU aV uN nT cn dF bd = true then orF (Rx txn prev) (Rt page slot) (jag aU aV.length uN) else 2 := by
 unfold Yj
 rw [e1, e2]
 simp only [empty_eq, len_eq, Ut, Tw, UU, UW]
 cases bU with
 | true => simp only [show (false == true) = false from rfl, Bool.false_and, Bool.and_false, Bool.not_false, if_true, Bool.false_eq_true, if_false]
 | false =>
 by_cases qbefore : [] = aZ
 case neg => simp only [decide_eq_false qbefore, Bool.false_and, Bool.and_false, Bool.not_false, if_true, Bool.false_eq_true, if_false]
 subst qbefore
 by_cases qnT : 0 = nT
 case neg => simp only [decide_eq_false qnT, Bool.false_and, Bool.and_false, Bool.not_false, if_true, Bool.false_eq_true, if_false]
 subst qnT
 by_cases qtxns : aR = 0
 case neg => simp only [decide_eq_false qtxns, Bool.false_and, Bool.and_false, Bool.not_false, if_true, Bool.false_eq_true, if_false]
 simp only [decide_eq_true qtxns]
 by_cases qdirty : a9 = 0
 case neg => simp only [decide_eq_false qdirty, Bool.false_and, Bool.and_false, Bool.not_false, if_true, Bool.false_eq_true, if_false]
 simp only [decide_eq_true qdirty]
 by_cases qimage : [] = bd
 case neg => simp only [decide_eq_false qimage, Bool.false_and, Bool.and_false, Bool.not_false, if_true, Bool.false_eq_true, if_false]
 subst qimage
 simp only [decide_true, beq_self_eq_true, Bool.and_self, Bool.and_true, Bool.true_and, Bool.not_true, Bool.false_eq_true, if_true, if_false, List.length_nil]
 unfold orF Rx Rt jag
 generalize Tq txn = g0 at *
 generalize Sk prev = g1 at *
 generalize SN page = g2 at *
 generalize UR slot = g3 at *
 generalize Rj aU aV.length = g4 at *
 have OH : Sk uN = true ∨ Sk uN = false := by cases Sk uN <;> simp
 cases g0 <;> cases g1 <;> cases g2 <;> cases g3 <;> cases g4 <;> rcases OH with h5 | h5 <;> simp [h5, jb3]
theorem jfO (txn prev page slot uN nT : Int) (bU aU : Bool) (aZ aV bd cn dF : List Int) (aR a9 : Nat) (e1 : cn.length / 4 = aR) (e2 : dF.length / 2 = a9) :
  ((if (!(decide (0 = slot) && (Rz aU aV.length) && decide (0 = page) && (Rz bU aZ.length) && decide (0 = uN) && decide (0 = nT) && decide (aR = 0) && decide (a9 = 0) && decide (bd.length = 0))) = true then 2 else (if (inB txn 1 2147483647) = false then 3 else (if (inB prev 0 1099511627776) = false then 4 else (if (Rj bU aZ.length) = false then 6 else (if (Rj aU aV.length) = false then 6 else (0)))))) : Int) = if Yk txn prev page slot bU aZ aU aV uN nT cn dF bd = true then Rx txn prev else 2 := by
 unfold Yk
 rw [e1, e2]
 simp only [empty_eq, len_eq, Ut, Tw, UU, UW]
 by_cases qpage : 0 = page
 case neg => simp only [decide_eq_false qpage, Bool.false_and, Bool.and_false, Bool.not_false, if_true, Bool.false_eq_true, if_false]
 subst qpage
 by_cases qslot : 0 = slot
 case neg => simp only [decide_eq_false qslot, Bool.false_and, Bool.and_false, Bool.not_false, if_true, Bool.false_eq_true, if_false]
 subst qslot
 cases bU with
 | true => simp only [show (false == true) = false from rfl, Bool.false_and, Bool.and_false, Bool.not_false, if_true, Bool.false_eq_true, if_false]
 | false =>
 by_cases qbefore : [] = aZ
 case neg => simp only [decide_eq_false qbefore, Bool.false_and, Bool.and_false, Bool.not_false, if_true, Bool.false_eq_true, if_false]
 subst qbefore
 cases aU with
 | true => simp only [show (false == true) = false from rfl, Bool.false_and, Bool.and_false, Bool.not_false, if_true, Bool.false_eq_true, if_false]
 | false =>
 by_cases qafter : [] = aV
 case neg => simp only [decide_eq_false qafter, Bool.false_and, Bool.and_false, Bool.not_false, if_true, Bool.false_eq_true, if_false]
 subst qafter
 by_cases quN : 0 = uN
 case neg => simp only [decide_eq_false quN, Bool.false_and, Bool.and_false, Bool.not_false, if_true, Bool.false_eq_true, if_false]
 subst quN
 by_cases qnT : 0 = nT
 case neg => simp only [decide_eq_false qnT, Bool.false_and, Bool.and_false, Bool.not_false, if_true, Bool.false_eq_true, if_false]
 subst qnT
 by_cases qtxns : aR = 0
 case neg => simp only [decide_eq_false qtxns, Bool.false_and, Bool.and_false, Bool.not_false, if_true, Bool.false_eq_true, if_false]
 simp only [decide_eq_true qtxns]
 by_cases qdirty : a9 = 0
 case neg => simp only [decide_eq_false qdirty, Bool.false_and, Bool.and_false, Bool.not_false, if_true, Bool.false_eq_true, if_false]
 simp only [decide_eq_true qdirty]
 by_cases qimage : [] = bd
 case neg => simp only [decide_eq_false qimage, Bool.false_and, Bool.and_false, Bool.not_false, if_true, Bool.false_eq_true, if_false]
 subst qimage
 simp only [decide_true, beq_self_eq_true, Bool.and_self, Bool.and_true, Bool.true_and, Bool.not_true, Bool.false_eq_true, if_true, if_false, List.length_nil]
 unfold Rx
 generalize Tq txn = g0 at *
 generalize Sk prev = g1 at *
 cases g0 <;> cases g1 <;> simp [Sk, Rj]
theorem jfP (txn prev page slot uN nT : Int) (bU aU : Bool) (aZ aV bd cn dF : List Int) (aR a9 : Nat) (e1 : cn.length / 4 = aR) (e2 : dF.length / 2 = a9) :
  ((if (!(decide (0 = slot) && (Rz aU aV.length) && decide (0 = page) && (Rz bU aZ.length) && decide (0 = uN) && decide (0 = nT) && decide (aR = 0) && decide (a9 = 0) && decide (bd.length = 0))) = true then 2 else (if (inB txn 1 2147483647) = false then 3 else (if (inB prev 0 1099511627776) = false then 4 else (if (Rj bU aZ.length) = false then 6 else (if (Rj aU aV.length) = false then 6 else (0)))))) : Int) = if Yl txn prev page slot bU aZ aU aV uN nT cn dF bd = true then Rx txn prev else 2 := by
 unfold Yl
 rw [e1, e2]
 simp only [empty_eq, len_eq, Ut, Tw, UU, UW]
 by_cases qpage : 0 = page
 case neg => simp only [decide_eq_false qpage, Bool.false_and, Bool.and_false, Bool.not_false, if_true, Bool.false_eq_true, if_false]
 subst qpage
 by_cases qslot : 0 = slot
 case neg => simp only [decide_eq_false qslot, Bool.false_and, Bool.and_false, Bool.not_false, if_true, Bool.false_eq_true, if_false]
 subst qslot
 cases bU with
 | true => simp only [show (false == true) = false from rfl, Bool.false_and, Bool.and_false, Bool.not_false, if_true, Bool.false_eq_true, if_false]
 | false =>
 by_cases qbefore : [] = aZ
 case neg => simp only [decide_eq_false qbefore, Bool.false_and, Bool.and_false, Bool.not_false, if_true, Bool.false_eq_true, if_false]
 subst qbefore
 cases aU with
 | true => simp only [show (false == true) = false from rfl, Bool.false_and, Bool.and_false, Bool.not_false, if_true, Bool.false_eq_true, if_false]
 | false =>
 by_cases qafter : [] = aV
 case neg => simp only [decide_eq_false qafter, Bool.false_and, Bool.and_false, Bool.not_false, if_true, Bool.false_eq_true, if_false]
 subst qafter
 by_cases quN : 0 = uN
 case neg => simp only [decide_eq_false quN, Bool.false_and, Bool.and_false, Bool.not_false, if_true, Bool.false_eq_true, if_false]
 subst quN
 by_cases qnT : 0 = nT
 case neg => simp only [decide_eq_false qnT, Bool.false_and, Bool.and_false, Bool.not_false, if_true, Bool.false_eq_true, if_false]
 subst qnT
 by_cases qtxns : aR = 0
 case neg => simp only [decide_eq_false qtxns, Bool.false_and, Bool.and_false, Bool.not_false, if_true, Bool.false_eq_true, if_false]
 simp only [decide_eq_true qtxns]
 by_cases qdirty : a9 = 0
 case neg => simp only [decide_eq_false qdirty, Bool.false_and, Bool.and_false, Bool.not_false, if_true, Bool.false_eq_true, if_false]
 simp only [decide_eq_true qdirty]
 by_cases qimage : [] = bd
 case neg => simp only [decide_eq_false qimage, Bool.false_and, Bool.and_false, Bool.not_false, if_true, Bool.false_eq_true, if_false]
 subst qimage
 simp only [decide_true, beq_self_eq_true, Bool.and_self, Bool.and_true, Bool.true_and, Bool.not_true, Bool.false_eq_true, if_true, if_false, List.length_nil]
 unfold Rx
 generalize Tq txn = g0 at *
 generalize Sk prev = g1 at *
 cases g0 <;> cases g1 <;> simp [Sk, Rj]
theorem jfQ (txn prev page slot uN nT : Int) (bU aU : Bool) (aZ aV bd cn dF : List Int) (aR a9 : Nat) (e1 : cn.length / 4 = aR) (e2 : dF.length / 2 = a9) :
  ((if (!(decide (0 = slot) && (Rz aU aV.length) && decide (0 = page) && (Rz bU aZ.length) && decide (0 = uN) && decide (0 = nT) && decide (aR = 0) && decide (a9 = 0) && decide (bd.length = 0))) = true then 2 else (if (inB txn 1 2147483647) = false then 3 else (if (inB prev 0 1099511627776) = false then 4 else (if (Rj bU aZ.length) = false then 6 else (if (Rj aU aV.length) = false then 6 else (0)))))) : Int) = if Ym txn prev page slot bU aZ aU aV uN nT cn dF bd = true then Rx txn prev else 2 := by
 unfold Ym
 rw [e1, e2]
 simp only [empty_eq, len_eq, Ut, Tw, UU, UW]
 by_cases qpage : 0 = page
 case neg => simp only [decide_eq_false qpage, Bool.false_and, Bool.and_false, Bool.not_false, if_true, Bool.false_eq_true, if_false]
 subst qpage
 by_cases qslot : 0 = slot
 case neg => simp only [decide_eq_false qslot, Bool.false_and, Bool.and_false, Bool.not_false, if_true, Bool.false_eq_true, if_false]
 subst qslot
 cases bU with
 | true => simp only [show (false == true) = false from rfl, Bool.false_and, Bool.and_false, Bool.not_false, if_true, Bool.false_eq_true, if_false]
 | false =>
 by_cases qbefore : [] = aZ
 case neg => simp only [decide_eq_false qbefore, Bool.false_and, Bool.and_false, Bool.not_false, if_true, Bool.false_eq_true, if_false]
 subst qbefore
 cases aU with
 | true => simp only [show (false == true) = false from rfl, Bool.false_and, Bool.and_false, Bool.not_false, if_true, Bool.false_eq_true, if_false]
 | false =>
 by_cases qafter : [] = aV
 case neg => simp only [decide_eq_false qafter, Bool.false_and, Bool.and_false, Bool.not_false, if_true, Bool.false_eq_true, if_false]
 subst qafter
 by_cases quN : 0 = uN
 case neg => simp only [decide_eq_false quN, Bool.false_and, Bool.and_false, Bool.not_false, if_true, Bool.false_eq_true, if_false]
 subst quN
 by_cases qnT : 0 = nT
 case neg => simp only [decide_eq_false qnT, Bool.false_and, Bool.and_false, Bool.not_false, if_true, Bool.false_eq_true, if_false]
 subst qnT
 by_cases qtxns : aR = 0
 case neg => simp only [decide_eq_false qtxns, Bool.false_and, Bool.and_false, Bool.not_false, if_true, Bool.false_eq_true, if_false]
 simp only [decide_eq_true qtxns]
 by_cases qdirty : a9 = 0
 case neg => simp only [decide_eq_false qdirty, Bool.false_and, Bool.and_false, Bool.not_false, if_true, Bool.false_eq_true, if_false]
 simp only [decide_eq_true qdirty]
 by_cases qimage : [] = bd
 case neg => simp only [decide_eq_false qimage, Bool.false_and, Bool.and_false, Bool.not_false, if_true, Bool.false_eq_true, if_false]
 subst qimage
 simp only [decide_true, beq_self_eq_true, Bool.and_self, Bool.and_true, Bool.true_and, Bool.not_true, Bool.false_eq_true, if_true, if_false, List.length_nil]
 unfold Rx
 generalize Tq txn = g0 at *
 generalize Sk prev = g1 at *
 cases g0 <;> cases g1 <;> simp [Sk, Rj]
theorem jfR (txn prev page slot uN nT : Int) (bU aU : Bool) (aZ aV bd cn dF : List Int) (aR a9 : Nat) (e1 : cn.length / 4 = aR) (e2 : dF.length / 2 = a9) :
  ((if (!(decide (0 = txn) && decide (0 = prev) && decide (0 = slot) && (Rz aU aV.length) && decide (0 = page) && (Rz bU aZ.length) && decide (0 = uN) && decide (0 = nT) && decide (aR = 0) && decide (a9 = 0) && decide (bd.length = 0))) = true then 2 else (if (inB prev 0 1099511627776) = false then 4 else (if (Rj bU aZ.length) = false then 6 else (if (Rj aU aV.length) = false then 6 else (0))))) : Int) = if Xj txn prev page slot bU aZ aU aV uN nT cn dF bd = true then 0 else 2 := by
 unfold Xj
 rw [e1, e2]
 simp only [empty_eq, len_eq, Ut, Tw, UU, UW]
 by_cases qtxn : 0 = txn
 case neg => simp only [decide_eq_false qtxn, Bool.false_and, Bool.and_false, Bool.not_false, if_true, Bool.false_eq_true, if_false]
 subst qtxn
 by_cases qprev : 0 = prev
 case neg => simp only [decide_eq_false qprev, Bool.false_and, Bool.and_false, Bool.not_false, if_true, Bool.false_eq_true, if_false]
 subst qprev
 by_cases qpage : 0 = page
 case neg => simp only [decide_eq_false qpage, Bool.false_and, Bool.and_false, Bool.not_false, if_true, Bool.false_eq_true, if_false]
 subst qpage
 by_cases qslot : 0 = slot
 case neg => simp only [decide_eq_false qslot, Bool.false_and, Bool.and_false, Bool.not_false, if_true, Bool.false_eq_true, if_false]
 subst qslot
 cases bU with
 | true => simp only [show (false == true) = false from rfl, Bool.false_and, Bool.and_false, Bool.not_false, if_true, Bool.false_eq_true, if_false]
 | false =>
 by_cases qbefore : [] = aZ
 case neg => simp only [decide_eq_false qbefore, Bool.false_and, Bool.and_false, Bool.not_false, if_true, Bool.false_eq_true, if_false]
 subst qbefore
 cases aU with
 | true => simp only [show (false == true) = false from rfl, Bool.false_and, Bool.and_false, Bool.not_false, if_true, Bool.false_eq_true, if_false]
 | false =>
 by_cases qafter : [] = aV
 case neg => simp only [decide_eq_false qafter, Bool.false_and, Bool.and_false, Bool.not_false, if_true, Bool.false_eq_true, if_false]
 subst qafter
 by_cases quN : 0 = uN
 case neg => simp only [decide_eq_false quN, Bool.false_and, Bool.and_false, Bool.not_false, if_true, Bool.false_eq_true, if_false]
 subst quN
 by_cases qnT : 0 = nT
 case neg => simp only [decide_eq_false qnT, Bool.false_and, Bool.and_false, Bool.not_false, if_true, Bool.false_eq_true, if_false]
 subst qnT
 by_cases qtxns : aR = 0
 case neg => simp only [decide_eq_false qtxns, Bool.false_and, Bool.and_false, Bool.not_false, if_true, Bool.false_eq_true, if_false]
 simp only [decide_eq_true qtxns]
 by_cases qdirty : a9 = 0
 case neg => simp only [decide_eq_false qdirty, Bool.false_and, Bool.and_false, Bool.not_false, if_true, Bool.false_eq_true, if_false]
 simp only [decide_eq_true qdirty]
 by_cases qimage : [] = bd
 case neg => simp only [decide_eq_false qimage, Bool.false_and, Bool.and_false, Bool.not_false, if_true, Bool.false_eq_true, if_false]
 subst qimage
 simp only [decide_true, beq_self_eq_true, Bool.and_self, Bool.and_true, Bool.true_and, Bool.not_true, Bool.false_eq_true, if_true, if_false, List.length_nil]
 skip
 simp [Sk, Rj]
theorem jfS (txn prev page slot uN nT : Int) (bU aU : Bool) (aZ aV bd cn dF : List Int) (aR a9 : Nat) (e1 : cn.length / 4 = aR) (e2 : dF.length / 2 = a9) :
  ((if (!(decide (0 = txn) && decide (0 = prev) && decide (0 = slot) && (Rz aU aV.length) && decide (0 = page) && (Rz bU aZ.length) && decide (0 = uN) && decide (bd.length = 0))) = true then 2 else (if (inB prev 0 1099511627776) = false then 4 else (if (Rj bU aZ.length) = false then 6 else (if (Rj aU aV.length) = false then 6 else (if ((inB nT 1 2147483648 && RL cn aR && RA dF a9)) = false then 8 else (0)))))) : Int) = if Xk txn prev page slot bU aZ aU aV uN nT cn dF bd = true then jb2 nT cn (cn.length / 4) dF (dF.length / 2) else 2 := by
 unfold Xk
 rw [e1, e2]
 simp only [empty_eq, len_eq, Ut, Tw, UU, UW]
 by_cases qtxn : 0 = txn
 case neg => simp only [decide_eq_false qtxn, Bool.false_and, Bool.and_false, Bool.not_false, if_true, Bool.false_eq_true, if_false]
 subst qtxn
 by_cases qprev : 0 = prev
 case neg => simp only [decide_eq_false qprev, Bool.false_and, Bool.and_false, Bool.not_false, if_true, Bool.false_eq_true, if_false]
 subst qprev
 by_cases qpage : 0 = page
 case neg => simp only [decide_eq_false qpage, Bool.false_and, Bool.and_false, Bool.not_false, if_true, Bool.false_eq_true, if_false]
 subst qpage
 by_cases qslot : 0 = slot
 case neg => simp only [decide_eq_false qslot, Bool.false_and, Bool.and_false, Bool.not_false, if_true, Bool.false_eq_true, if_false]
 subst qslot
 cases bU with
 | true => simp only [show (false == true) = false from rfl, Bool.false_and, Bool.and_false, Bool.not_false, if_true, Bool.false_eq_true, if_false]
 | false =>
 by_cases qbefore : [] = aZ
 case neg => simp only [decide_eq_false qbefore, Bool.false_and, Bool.and_false, Bool.not_false, if_true, Bool.false_eq_true, if_false]
 subst qbefore
 cases aU with
 | true => simp only [show (false == true) = false from rfl, Bool.false_and, Bool.and_false, Bool.not_false, if_true, Bool.false_eq_true, if_false]
 | false =>
 by_cases qafter : [] = aV
 case neg => simp only [decide_eq_false qafter, Bool.false_and, Bool.and_false, Bool.not_false, if_true, Bool.false_eq_true, if_false]
 subst qafter
 by_cases quN : 0 = uN
 case neg => simp only [decide_eq_false quN, Bool.false_and, Bool.and_false, Bool.not_false, if_true, Bool.false_eq_true, if_false]
 subst quN
 by_cases qimage : [] = bd
 case neg => simp only [decide_eq_false qimage, Bool.false_and, Bool.and_false, Bool.not_false, if_true, Bool.false_eq_true, if_false]
 subst qimage
 simp only [decide_true, beq_self_eq_true, Bool.and_self, Bool.and_true, Bool.true_and, Bool.not_true, Bool.false_eq_true, if_true, if_false, List.length_nil]
 unfold jb2 inB
 generalize decide (1 ≤ nT) = g0 at *
 generalize decide (nT ≤ 2147483648) = g1 at *
 generalize RL cn aR = g2 at *
 generalize RA dF a9 = g3 at *
 cases g0 <;> cases g1 <;> cases g2 <;> cases g3 <;> simp [Sk, Rj]
theorem jfT (txn prev page slot uN nT : Int) (bU aU : Bool) (aZ aV bd cn dF : List Int) (aR a9 : Nat) (e1 : cn.length / 4 = aR) (e2 : dF.length / 2 = a9) :
  ((if (!(decide (0 = txn) && decide (0 = prev) && decide (0 = slot) && (Rz aU aV.length) && (Rz bU aZ.length) && decide (0 = uN) && decide (0 = nT) && decide (aR = 0) && decide (a9 = 0))) = true then 2 else (if (inB prev 0 1099511627776) = false then 4 else (if (inB page 0 15) = false then 5 else (if (Rj bU aZ.length) = false then 6 else (if (Rj aU aV.length) = false then 6 else (if Rn bd page ≠ 0 then 9 else (0))))))) : Int) = if Xl txn prev page slot bU aZ aU aV uN nT cn dF bd = true then jb1 page bd else 2 := by
 unfold Xl
 rw [e1, e2]
 simp only [empty_eq, len_eq, Ut, Tw, UU, UW]
 by_cases qtxn : 0 = txn
 case neg => simp only [decide_eq_false qtxn, Bool.false_and, Bool.and_false, Bool.not_false, if_true, Bool.false_eq_true, if_false]
 subst qtxn
 by_cases qprev : 0 = prev
 case neg => simp only [decide_eq_false qprev, Bool.false_and, Bool.and_false, Bool.not_false, if_true, Bool.false_eq_true, if_false]
 subst qprev
 by_cases qslot : 0 = slot
 case neg => simp only [decide_eq_false qslot, Bool.false_and, Bool.and_false, Bool.not_false, if_true, Bool.false_eq_true, if_false]
 subst qslot
 cases bU with
 | true => simp only [show (false == true) = false from rfl, Bool.false_and, Bool.and_false, Bool.not_false, if_true, Bool.false_eq_true, if_false]
 | false =>
 by_cases qbefore : [] = aZ
 case neg => simp only [decide_eq_false qbefore, Bool.false_and, Bool.and_false, Bool.not_false, if_true, Bool.false_eq_true, if_false]
 subst qbefore
 cases aU with
 | true => simp only [show (false == true) = false from rfl, Bool.false_and, Bool.and_false, Bool.not_false, if_true, Bool.false_eq_true, if_false]
 | false =>
 by_cases qafter : [] = aV
 case neg => simp only [decide_eq_false qafter, Bool.false_and, Bool.and_false, Bool.not_false, if_true, Bool.false_eq_true, if_false]
 subst qafter
 by_cases quN : 0 = uN
 case neg => simp only [decide_eq_false quN, Bool.false_and, Bool.and_false, Bool.not_false, if_true, Bool.false_eq_true, if_false]
 subst quN
 by_cases qnT : 0 = nT
 case neg => simp only [decide_eq_false qnT, Bool.false_and, Bool.and_false, Bool.not_false, if_true, Bool.false_eq_true, if_false]
 subst qnT
 by_cases qtxns : aR = 0
 case neg => simp only [decide_eq_false qtxns, Bool.false_and, Bool.and_false, Bool.not_false, if_true, Bool.false_eq_true, if_false]
 simp only [decide_eq_true qtxns]
 by_cases qdirty : a9 = 0
 case neg => simp only [decide_eq_false qdirty, Bool.false_and, Bool.and_false, Bool.not_false, if_true, Bool.false_eq_true, if_false]
 simp only [decide_eq_true qdirty]
 simp only [decide_true, beq_self_eq_true, Bool.and_self, Bool.and_true, Bool.true_and, Bool.not_true, Bool.false_eq_true, if_true, if_false, List.length_nil]
 unfold jb1
 generalize SN page = g0 at *
 generalize Rn bd page = PF
 cases g0 <;> by_cases hp : PF = 0 <;> simp [hp, Sk, Rj]
theorem jfs (kind txn prev page slot : Int) (bU : Bool) (bp : Option Addr) (bq : Nat) (aZ : List Int) (aU : Bool) (bj : Option Addr) (bk : Nat) (aV : List Int) (uN nT : Int) (fZ : TypeId) (bT : Option Addr) (aR bV : Nat) (cn : List Int) (fY : TypeId) (bX : Option Addr) (a9 bW : Nat) (dF : List Int) (bw : Option Addr) (bD : Nat) (bd : List Int) (w : World) (h : inB kind 1 8 = false) : Calls Tryz.prog 64 #[.agg #[.int .i64 kind, .int .i64 txn, .int .i64 prev, .int .i64 page, .int .i64 slot, .bool bU, .slice bp aZ.length bq, .bool aU, .slice bj aV.length bk, .int .i64 uN, .int .i64 nT, .slice bT aR bV, .slice bX a9 bW, .slice bw bd.length bD]] w fun e w' => e = .returned (.int .i64 1) ∧ Same w w' := by
 have h1 := fun wx => Rm kind 1 8 wx
 rw [h] at h1
 have aH : ¬ kind = 1 := fun e => by subst e; cases h
 have aN : ¬ kind = 2 := fun e => by subst e; cases h
 clear h
 go_enter Tryz.func64, Tryz.ntmps64
 go_wp2_with (go_at_call 35; refine (h1 _).mono ?_; rintro e w1 ⟨rfl, hk⟩)
 go_ret
 exact ⟨rfl, (kZ0.alloc _).trans hk⟩
@[go_sem] theorem jfU (n : Nat) (txn : Int) (prev : Int) (page : Int) (slot : Int) (bU : Bool) (aU : Bool) (bp : Option Addr) (bq : Nat) (aZ : List Int) (bj : Option Addr) (bk : Nat) (aV : List Int)  (w : World) : (method (n + 1) 144 (.agg #[.int .i64 txn, .int .i64 prev, .int .i64 page, .int .i64 slot, .bool bU, .slice bp aZ.length bq, .bool aU, .slice bj aV.length bk]) "loop.example/s02544/impl.fault").run Tryz.prog w = .ok (163, .agg #[.int .i64 txn, .int .i64 prev, .int .i64 page, .int .i64 slot, .bool bU, .slice bp aZ.length bq, .bool aU, .slice bj aV.length bk]) w := by kernel_rfl
@[go_sem] theorem jfV (n : Nat) (txn : Int) (prev : Int) (page : Int) (slot : Int) (uN : Int) (aU : Bool) (bj : Option Addr) (bk : Nat) (aV : List Int)  (w : World) : (method (n + 1) 146 (.agg #[.int .i64 txn, .int .i64 prev, .int .i64 page, .int .i64 slot, .bool aU, .slice bj aV.length bk, .int .i64 uN]) "loop.example/s02544/impl.fault").run Tryz.prog w = .ok (169, .agg #[.int .i64 txn, .int .i64 prev, .int .i64 page, .int .i64 slot, .bool aU, .slice bj aV.length bk, .int .i64 uN]) w := by kernel_rfl
@[go_sem] theorem jfW (n : Nat) (txn : Int) (prev : Int)  (w : World) : (method (n + 1) 148 (.agg #[.int .i64 txn, .int .i64 prev]) "loop.example/s02544/impl.fault").run Tryz.prog w = .ok (156, .agg #[.int .i64 txn, .int .i64 prev]) w := by kernel_rfl
@[go_sem] theorem jfX (n : Nat) (txn : Int) (prev : Int)  (w : World) : (method (n + 1) 149 (.agg #[.int .i64 txn, .int .i64 prev]) "loop.example/s02544/impl.fault").run Tryz.prog w = .ok (156, .agg #[.int .i64 txn, .int .i64 prev]) w := by kernel_rfl
@[go_sem] theorem jfY (n : Nat) (txn : Int) (prev : Int)  (w : World) : (method (n + 1) 150 (.agg #[.int .i64 txn, .int .i64 prev]) "loop.example/s02544/impl.fault").run Tryz.prog w = .ok (156, .agg #[.int .i64 txn, .int .i64 prev]) w := by kernel_rfl
@[go_sem] theorem jfZ (n : Nat)  (w : World) : (method (n + 1) 151 (.agg #[.int .i64 0, .int .i64 0]) "loop.example/s02544/impl.fault").run Tryz.prog w = .ok (170, .agg #[.int .i64 0, .int .i64 0]) w := by kernel_rfl
@[go_sem] theorem jf0 (n : Nat) (nT : Int) (bT : Option Addr) (aR : Nat) (bV : Nat) (bX : Option Addr) (a9 : Nat) (bW : Nat)  (w : World) : (method (n + 1) 155 (.agg #[.int .i64 0, .int .i64 0, .int .i64 nT, .slice bT aR bV, .slice bX a9 bW]) "loop.example/s02544/impl.fault").run Tryz.prog w = .ok (172, .agg #[.int .i64 0, .int .i64 0, .int .i64 nT, .slice bT aR bV, .slice bX a9 bW]) w := by kernel_rfl
@[go_sem] theorem jf1 (n : Nat) (page : Int) (bw : Option Addr) (bD : Nat) (bd : List Int)  (w : World) : (method (n + 1) 158 (.agg #[.int .i64 0, .int .i64 0, .int .i64 page, .slice bw bd.length bD]) "loop.example/s02544/impl.fault").run Tryz.prog w = .ok (176, .agg #[.int .i64 0, .int .i64 0, .int .i64 page, .slice bw bd.length bD]) w := by kernel_rfl
end Go.Proofs.YtaojjcnmififoaaGreat
