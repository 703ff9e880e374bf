import Derived.Test.YtepdakgfioffgaaGreatG16
import Derived.Test.YtepdakgfioffgaaGreatRecSpecC
import Derived.Test.YtepdakgfioffgaaGreatExtraA
import Derived.Test.YtepdakgfioffgaaGreatExtraB
import Derived.Test.YtepdakgfioffgaaGreatExtraC
import Derived.Test.YtepdakgfioffgaaGreatG21
import Derived.Test.YtepdakgfioffgaaGreatTables
import Derived.Test.YtepdakgfioffgaaGreatG13
namespace Go.Proofs.YtepdakgfioffgaaGreat
set_option maxRecDepth 100000
set_option maxHeartbeats 4000000
set_option linter.unusedVariables false
set_option linter.unusedSimpArgs false
open Go.RowKit
theorem specT_1 (txn prev page slot : Int) (bU : Bool) (bN : Option Addr) (bO : Nat) (aY : List Int) (aU : Bool) (bH : Option Addr) (bI : Nat) (aX : List Int) (uN nT : Int) (fQ : TypeId) (b9 : Option Addr) (bp cf : Nat) (df : List Int) (fP : TypeId) (ch : Option Addr) (bo cj : Nat) (dj : List Int) (cg : Option Addr) (cm : Nat) (aZ : List Int) (w : World) (iB : IsB aY) (iz : IsB aX) (ij : IsB aZ) (jK : aZ.length ≤ 1099511627776) (fT : Rd .u8 w (.slice bN aY.length bO) aY) (fE : Rd .u8 w (.slice bH aX.length bI) aX) (gY : Rd .u8 w (.slice cg aZ.length cm) aZ) (gw : RdF 4 w ⟨fQ, b9, bp, cf, df⟩) (fG : RdF 2 w ⟨fP, ch, bo, cj, dj⟩) (fX : bp ≤ 1125899906842624) (gK : bo ≤ 1125899906842624) :
  Calls Tryz.prog 17 #[.agg #[.int .i64 1, .int .i64 txn, .int .i64 prev, .int .i64 page, .int .i64 slot, .bool bU, .slice bN aY.length bO, .bool aU, .slice bH aX.length bI, .int .i64 uN, .int .i64 nT, .slice b9 bp cf, .slice ch bo cj, .slice cg aZ.length cm]] w fun e w' => e = .returned (.int .i64 (if (!(decide (0 = uN) && decide (0 = nT) && decide (bp = 0) && decide (bo = 0) && decide (aZ.length = 0))) = true then 2 else (if (inB txn 1 2147483647) = false then 3 else (if (inB prev 0 1099511627776) = false then 4 else (if (inB page 0 15) = false then 5 else (if (inB slot 0 31) = false then 5 else (if (fitsB bU aY.length) = false then 6 else (if (fitsB aU aX.length) = false then 6 else (if (bU || aU) = false then 6 else (0)))))))))) ∧ Same w w' :=
 recS_1 txn prev page slot bU bN aY.length bO aU bH aX.length bI uN nT b9 bp cf ch bo cj cg aZ.length cm w (!(decide (0 = uN) && decide (0 = nT) && decide (bp = 0) && decide (bo = 0) && decide (aZ.length = 0))) (inB txn 1 2147483647) (inB prev 0 1099511627776) (inB page 0 15) (inB slot 0 31) (fitsB bU aY.length) (fitsB aU aX.length) (pageFault aZ page) (fun wx _ => l4In_any 1 1 8 wx) (fun wx _ => extra_1 txn prev page slot bU bN aY.length bO aU bH aX.length bI uN nT b9 bp cf ch bo cj cg aZ.length cm wx  gw.1 fG.1 gY.1) (fun wx _ => l4In_any _ _ _ wx) (fun wx _ => l4In_any _ _ _ wx) (fun wx _ => l4In_any _ _ _ wx) (fun wx _ => l4In_any _ _ _ wx) (fun wx _ => l4Slot_any _ _ _ _ wx fT.1) (fun wx _ => l4Slot_any _ _ _ _ wx fE.1)
theorem specT_2 (txn prev page slot : Int) (bU : Bool) (bN : Option Addr) (bO : Nat) (aY : List Int) (aU : Bool) (bH : Option Addr) (bI : Nat) (aX : List Int) (uN nT : Int) (fQ : TypeId) (b9 : Option Addr) (bp cf : Nat) (df : List Int) (fP : TypeId) (ch : Option Addr) (bo cj : Nat) (dj : List Int) (cg : Option Addr) (cm : Nat) (aZ : List Int) (w : World) (iB : IsB aY) (iz : IsB aX) (ij : IsB aZ) (jK : aZ.length ≤ 1099511627776) (fT : Rd .u8 w (.slice bN aY.length bO) aY) (fE : Rd .u8 w (.slice bH aX.length bI) aX) (gY : Rd .u8 w (.slice cg aZ.length cm) aZ) (gw : RdF 4 w ⟨fQ, b9, bp, cf, df⟩) (fG : RdF 2 w ⟨fP, ch, bo, cj, dj⟩) (fX : bp ≤ 1125899906842624) (gK : bo ≤ 1125899906842624) :
  Calls Tryz.prog 17 #[.agg #[.int .i64 2, .int .i64 txn, .int .i64 prev, .int .i64 page, .int .i64 slot, .bool bU, .slice bN aY.length bO, .bool aU, .slice bH aX.length bI, .int .i64 uN, .int .i64 nT, .slice b9 bp cf, .slice ch bo cj, .slice cg aZ.length cm]] w fun e w' => e = .returned (.int .i64 (if (!((emptyB bU aY.length) && decide (0 = nT) && decide (bp = 0) && decide (bo = 0) && decide (aZ.length = 0))) = true then 2 else (if (inB txn 1 2147483647) = false then 3 else (if (inB prev 0 1099511627776) = false then 4 else (if (inB page 0 15) = false then 5 else (if (inB slot 0 31) = false then 5 else (if (fitsB bU aY.length) = false then 6 else (if (fitsB aU aX.length) = false then 6 else (if (inB uN 0 1099511627776) = false then 7 else (0)))))))))) ∧ Same w w' :=
 recS_2 txn prev page slot bU bN aY.length bO aU bH aX.length bI uN nT b9 bp cf ch bo cj cg aZ.length cm w (!((emptyB bU aY.length) && decide (0 = nT) && decide (bp = 0) && decide (bo = 0) && decide (aZ.length = 0))) (inB txn 1 2147483647) (inB prev 0 1099511627776) (inB page 0 15) (inB slot 0 31) (fitsB bU aY.length) (fitsB aU aX.length) (inB uN 0 1099511627776) (pageFault aZ page) (fun wx _ => l4In_any 2 1 8 wx) (fun wx _ => extra_2 txn prev page slot bU bN aY.length bO aU bH aX.length bI uN nT b9 bp cf ch bo cj cg aZ.length cm wx _ (fun wy _ => l4Empty_any bU bN aY.length bO wy fT.1) gw.1 fG.1 gY.1) (fun wx _ => l4In_any _ _ _ wx) (fun wx _ => l4In_any _ _ _ wx) (fun wx _ => l4In_any _ _ _ wx) (fun wx _ => l4In_any _ _ _ wx) (fun wx _ => l4Slot_any _ _ _ _ wx fT.1) (fun wx _ => l4Slot_any _ _ _ _ wx fE.1) (fun wx _ => l4In_any _ _ _ wx)
theorem specT_3 (txn prev page slot : Int) (bU : Bool) (bN : Option Addr) (bO : Nat) (aY : List Int) (aU : Bool) (bH : Option Addr) (bI : Nat) (aX : List Int) (uN nT : Int) (fQ : TypeId) (b9 : Option Addr) (bp cf : Nat) (df : List Int) (fP : TypeId) (ch : Option Addr) (bo cj : Nat) (dj : List Int) (cg : Option Addr) (cm : Nat) (aZ : List Int) (w : World) (iB : IsB aY) (iz : IsB aX) (ij : IsB aZ) (jK : aZ.length ≤ 1099511627776) (fT : Rd .u8 w (.slice bN aY.length bO) aY) (fE : Rd .u8 w (.slice bH aX.length bI) aX) (gY : Rd .u8 w (.slice cg aZ.length cm) aZ) (gw : RdF 4 w ⟨fQ, b9, bp, cf, df⟩) (fG : RdF 2 w ⟨fP, ch, bo, cj, dj⟩) (fX : bp ≤ 1125899906842624) (gK : bo ≤ 1125899906842624) :
  Calls Tryz.prog 17 #[.agg #[.int .i64 3, .int .i64 txn, .int .i64 prev, .int .i64 page, .int .i64 slot, .bool bU, .slice bN aY.length bO, .bool aU, .slice bH aX.length bI, .int .i64 uN, .int .i64 nT, .slice b9 bp cf, .slice ch bo cj, .slice cg aZ.length cm]] w fun e w' => e = .returned (.int .i64 (if (!(decide (0 = slot) && (emptyB aU aX.length) && decide (0 = page) && (emptyB bU aY.length) && decide (0 = uN) && decide (0 = nT) && decide (bp = 0) && decide (bo = 0) && decide (aZ.length = 0))) = true then 2 else (if (inB txn 1 2147483647) = false then 3 else (if (inB prev 0 1099511627776) = false then 4 else (if (fitsB bU aY.length) = false then 6 else (if (fitsB aU aX.length) = false then 6 else (0))))))) ∧ Same w w' :=
 recS_3 txn prev page slot bU bN aY.length bO aU bH aX.length bI uN nT b9 bp cf ch bo cj cg aZ.length cm w (!(decide (0 = slot) && (emptyB aU aX.length) && decide (0 = page) && (emptyB bU aY.length) && decide (0 = uN) && decide (0 = nT) && decide (bp = 0) && decide (bo = 0) && decide (aZ.length = 0))) (inB txn 1 2147483647) (inB prev 0 1099511627776) (fitsB bU aY.length) (fitsB aU aX.length) (pageFault aZ page) (fun wx _ => l4In_any 3 1 8 wx) (fun wx _ => extra_3 txn prev page slot bU bN aY.length bO aU bH aX.length bI uN nT b9 bp cf ch bo cj cg aZ.length cm wx _ _ (fun wy _ => l4Empty_any aU bH aX.length bI wy fE.1) (fun wy _ => l4Empty_any bU bN aY.length bO wy fT.1) gw.1 fG.1 gY.1) (fun wx _ => l4In_any _ _ _ wx) (fun wx _ => l4In_any _ _ _ wx) (fun wx _ => l4Slot_any _ _ _ _ wx fT.1) (fun wx _ => l4Slot_any _ _ _ _ wx fE.1)
theorem specT_4 (txn prev page slot : Int) (bU : Bool) (bN : Option Addr) (bO : Nat) (aY : List Int) (aU : Bool) (bH : Option Addr) (bI : Nat) (aX : List Int) (uN nT : Int) (fQ : TypeId) (b9 : Option Addr) (bp cf : Nat) (df : List Int) (fP : TypeId) (ch : Option Addr) (bo cj : Nat) (dj : List Int) (cg : Option Addr) (cm : Nat) (aZ : List Int) (w : World) (iB : IsB aY) (iz : IsB aX) (ij : IsB aZ) (jK : aZ.length ≤ 1099511627776) (fT : Rd .u8 w (.slice bN aY.length bO) aY) (fE : Rd .u8 w (.slice bH aX.length bI) aX) (gY : Rd .u8 w (.slice cg aZ.length cm) aZ) (gw : RdF 4 w ⟨fQ, b9, bp, cf, df⟩) (fG : RdF 2 w ⟨fP, ch, bo, cj, dj⟩) (fX : bp ≤ 1125899906842624) (gK : bo ≤ 1125899906842624) :
  Calls Tryz.prog 17 #[.agg #[.int .i64 4, .int .i64 txn, .int .i64 prev, .int .i64 page, .int .i64 slot, .bool bU, .slice bN aY.length bO, .bool aU, .slice bH aX.length bI, .int .i64 uN, .int .i64 nT, .slice b9 bp cf, .slice ch bo cj, .slice cg aZ.length cm]] w fun e w' => e = .returned (.int .i64 (if (!(decide (0 = slot) && (emptyB aU aX.length) && decide (0 = page) && (emptyB bU aY.length) && decide (0 = uN) && decide (0 = nT) && decide (bp = 0) && decide (bo = 0) && decide (aZ.length = 0))) = true then 2 else (if (inB txn 1 2147483647) = false then 3 else (if (inB prev 0 1099511627776) = false then 4 else (if (fitsB bU aY.length) = false then 6 else (if (fitsB aU aX.length) = false then 6 else (0))))))) ∧ Same w w' :=
 recS_4 txn prev page slot bU bN aY.length bO aU bH aX.length bI uN nT b9 bp cf ch bo cj cg aZ.length cm w (!(decide (0 = slot) && (emptyB aU aX.length) && decide (0 = page) && (emptyB bU aY.length) && decide (0 = uN) && decide (0 = nT) && decide (bp = 0) && decide (bo = 0) && decide (aZ.length = 0))) (inB txn 1 2147483647) (inB prev 0 1099511627776) (fitsB bU aY.length) (fitsB aU aX.length) (pageFault aZ page) (fun wx _ => l4In_any 4 1 8 wx) (fun wx _ => extra_4 txn prev page slot bU bN aY.length bO aU bH aX.length bI uN nT b9 bp cf ch bo cj cg aZ.length cm wx _ _ (fun wy _ => l4Empty_any aU bH aX.length bI wy fE.1) (fun wy _ => l4Empty_any bU bN aY.length bO wy fT.1) gw.1 fG.1 gY.1) (fun wx _ => l4In_any _ _ _ wx) (fun wx _ => l4In_any _ _ _ wx) (fun wx _ => l4Slot_any _ _ _ _ wx fT.1) (fun wx _ => l4Slot_any _ _ _ _ wx fE.1)
theorem specT_5 (txn prev page slot : Int) (bU : Bool) (bN : Option Addr) (bO : Nat) (aY : List Int) (aU : Bool) (bH : Option Addr) (bI : Nat) (aX : List Int) (uN nT : Int) (fQ : TypeId) (b9 : Option Addr) (bp cf : Nat) (df : List Int) (fP : TypeId) (ch : Option Addr) (bo cj : Nat) (dj : List Int) (cg : Option Addr) (cm : Nat) (aZ : List Int) (w : World) (iB : IsB aY) (iz : IsB aX) (ij : IsB aZ) (jK : aZ.length ≤ 1099511627776) (fT : Rd .u8 w (.slice bN aY.length bO) aY) (fE : Rd .u8 w (.slice bH aX.length bI) aX) (gY : Rd .u8 w (.slice cg aZ.length cm) aZ) (gw : RdF 4 w ⟨fQ, b9, bp, cf, df⟩) (fG : RdF 2 w ⟨fP, ch, bo, cj, dj⟩) (fX : bp ≤ 1125899906842624) (gK : bo ≤ 1125899906842624) :
  Calls Tryz.prog 17 #[.agg #[.int .i64 5, .int .i64 txn, .int .i64 prev, .int .i64 page, .int .i64 slot, .bool bU, .slice bN aY.length bO, .bool aU, .slice bH aX.length bI, .int .i64 uN, .int .i64 nT, .slice b9 bp cf, .slice ch bo cj, .slice cg aZ.length cm]] w fun e w' => e = .returned (.int .i64 (if (!(decide (0 = slot) && (emptyB aU aX.length) && decide (0 = page) && (emptyB bU aY.length) && decide (0 = uN) && decide (0 = nT) && decide (bp = 0) && decide (bo = 0) && decide (aZ.length = 0))) = true then 2 else (if (inB txn 1 2147483647) = false then 3 else (if (inB prev 0 1099511627776) = false then 4 else (if (fitsB bU aY.length) = false then 6 else (if (fitsB aU aX.length) = false then 6 else (0))))))) ∧ Same w w' :=
 recS_5 txn prev page slot bU bN aY.length bO aU bH aX.length bI uN nT b9 bp cf ch bo cj cg aZ.length cm w (!(decide (0 = slot) && (emptyB aU aX.length) && decide (0 = page) && (emptyB bU aY.length) && decide (0 = uN) && decide (0 = nT) && decide (bp = 0) && decide (bo = 0) && decide (aZ.length = 0))) (inB txn 1 2147483647) (inB prev 0 1099511627776) (fitsB bU aY.length) (fitsB aU aX.length) (pageFault aZ page) (fun wx _ => l4In_any 5 1 8 wx) (fun wx _ => extra_5 txn prev page slot bU bN aY.length bO aU bH aX.length bI uN nT b9 bp cf ch bo cj cg aZ.length cm wx _ _ (fun wy _ => l4Empty_any aU bH aX.length bI wy fE.1) (fun wy _ => l4Empty_any bU bN aY.length bO wy fT.1) gw.1 fG.1 gY.1) (fun wx _ => l4In_any _ _ _ wx) (fun wx _ => l4In_any _ _ _ wx) (fun wx _ => l4Slot_any _ _ _ _ wx fT.1) (fun wx _ => l4Slot_any _ _ _ _ wx fE.1)
theorem specT_6 (txn prev page slot : Int) (bU : Bool) (bN : Option Addr) (bO : Nat) (aY : List Int) (aU : Bool) (bH : Option Addr) (bI : Nat) (aX : List Int) (uN nT : Int) (fQ : TypeId) (b9 : Option Addr) (bp cf : Nat) (df : List Int) (fP : TypeId) (ch : Option Addr) (bo cj : Nat) (dj : List Int) (cg : Option Addr) (cm : Nat) (aZ : List Int) (w : World) (iB : IsB aY) (iz : IsB aX) (ij : IsB aZ) (jK : aZ.length ≤ 1099511627776) (fT : Rd .u8 w (.slice bN aY.length bO) aY) (fE : Rd .u8 w (.slice bH aX.length bI) aX) (gY : Rd .u8 w (.slice cg aZ.length cm) aZ) (gw : RdF 4 w ⟨fQ, b9, bp, cf, df⟩) (fG : RdF 2 w ⟨fP, ch, bo, cj, dj⟩) (fX : bp ≤ 1125899906842624) (gK : bo ≤ 1125899906842624) :
  Calls Tryz.prog 17 #[.agg #[.int .i64 6, .int .i64 txn, .int .i64 prev, .int .i64 page, .int .i64 slot, .bool bU, .slice bN aY.length bO, .bool aU, .slice bH aX.length bI, .int .i64 uN, .int .i64 nT, .slice b9 bp cf, .slice ch bo cj, .slice cg aZ.length cm]] w fun e w' => e = .returned (.int .i64 (if (!(decide (0 = txn) && decide (0 = prev) && decide (0 = slot) && (emptyB aU aX.length) && decide (0 = page) && (emptyB bU aY.length) && decide (0 = uN) && decide (0 = nT) && decide (bp = 0) && decide (bo = 0) && decide (aZ.length = 0))) = true then 2 else (if (inB prev 0 1099511627776) = false then 4 else (if (fitsB bU aY.length) = false then 6 else (if (fitsB aU aX.length) = false then 6 else (0)))))) ∧ Same w w' :=
 recS_6 txn prev page slot bU bN aY.length bO aU bH aX.length bI uN nT b9 bp cf ch bo cj cg aZ.length cm w (!(decide (0 = txn) && decide (0 = prev) && decide (0 = slot) && (emptyB aU aX.length) && decide (0 = page) && (emptyB bU aY.length) && decide (0 = uN) && decide (0 = nT) && decide (bp = 0) && decide (bo = 0) && decide (aZ.length = 0))) (inB prev 0 1099511627776) (fitsB bU aY.length) (fitsB aU aX.length) (pageFault aZ page) (fun wx _ => l4In_any 6 1 8 wx) (fun wx _ => extra_6 txn prev page slot bU bN aY.length bO aU bH aX.length bI uN nT b9 bp cf ch bo cj cg aZ.length cm wx _ _ (fun wy _ => l4Empty_any aU bH aX.length bI wy fE.1) (fun wy _ => l4Empty_any bU bN aY.length bO wy fT.1) gw.1 fG.1 gY.1) (fun wx _ => l4In_any _ _ _ wx) (fun wx _ => l4Slot_any _ _ _ _ wx fT.1) (fun wx _ => l4Slot_any _ _ _ _ wx fE.1)
theorem specT_7 (txn prev page slot : Int) (bU : Bool) (bN : Option Addr) (bO : Nat) (aY : List Int) (aU : Bool) (bH : Option Addr) (bI : Nat) (aX : List Int) (uN nT : Int) (fQ : TypeId) (b9 : Option Addr) (bp cf : Nat) (df : List Int) (fP : TypeId) (ch : Option Addr) (bo cj : Nat) (dj : List Int) (cg : Option Addr) (cm : Nat) (aZ : List Int) (w : World) (iB : IsB aY) (iz : IsB aX) (ij : IsB aZ) (jK : aZ.length ≤ 1099511627776) (fT : Rd .u8 w (.slice bN aY.length bO) aY) (fE : Rd .u8 w (.slice bH aX.length bI) aX) (gY : Rd .u8 w (.slice cg aZ.length cm) aZ) (gw : RdF 4 w ⟨fQ, b9, bp, cf, df⟩) (fG : RdF 2 w ⟨fP, ch, bo, cj, dj⟩) (fX : bp ≤ 1125899906842624) (gK : bo ≤ 1125899906842624) :
  Calls Tryz.prog 17 #[.agg #[.int .i64 7, .int .i64 txn, .int .i64 prev, .int .i64 page, .int .i64 slot, .bool bU, .slice bN aY.length bO, .bool aU, .slice bH aX.length bI, .int .i64 uN, .int .i64 nT, .slice b9 bp cf, .slice ch bo cj, .slice cg aZ.length cm]] w fun e w' => e = .returned (.int .i64 (if (!(decide (0 = txn) && decide (0 = prev) && decide (0 = slot) && (emptyB aU aX.length) && decide (0 = page) && (emptyB bU aY.length) && decide (0 = uN) && decide (aZ.length = 0))) = true then 2 else (if (inB prev 0 1099511627776) = false then 4 else (if (fitsB bU aY.length) = false then 6 else (if (fitsB aU aX.length) = false then 6 else (if ((inB nT 1 2147483648 && allTxns df bp && allDirty dj bo)) = false then 8 else (0))))))) ∧ Same w w' :=
 recS_7 txn prev page slot bU bN aY.length bO aU bH aX.length bI uN nT b9 bp cf ch bo cj cg aZ.length cm w (!(decide (0 = txn) && decide (0 = prev) && decide (0 = slot) && (emptyB aU aX.length) && decide (0 = page) && (emptyB bU aY.length) && decide (0 = uN) && decide (aZ.length = 0))) (inB prev 0 1099511627776) (fitsB bU aY.length) (fitsB aU aX.length) ((inB nT 1 2147483648 && allTxns df bp && allDirty dj bo)) (pageFault aZ page) (fun wx _ => l4In_any 7 1 8 wx) (fun wx _ => extra_7 txn prev page slot bU bN aY.length bO aU bH aX.length bI uN nT b9 bp cf ch bo cj cg aZ.length cm wx _ _ (fun wy _ => l4Empty_any aU bH aX.length bI wy fE.1) (fun wy _ => l4Empty_any bU bN aY.length bO wy fT.1) gY.1) (fun wx _ => l4In_any _ _ _ wx) (fun wx _ => l4Slot_any _ _ _ _ wx fT.1) (fun wx _ => l4Slot_any _ _ _ _ wx fE.1) (fun wx h => l4Tables_any 7 txn prev page slot bU bN aY.length bO aU bH aX.length bI uN nT cg aZ.length cm ⟨fQ, b9, bp, cf, df⟩ ⟨fP, ch, bo, cj, dj⟩ wx (gw.same h) (fG.same h))
theorem specT_8 (txn prev page slot : Int) (bU : Bool) (bN : Option Addr) (bO : Nat) (aY : List Int) (aU : Bool) (bH : Option Addr) (bI : Nat) (aX : List Int) (uN nT : Int) (fQ : TypeId) (b9 : Option Addr) (bp cf : Nat) (df : List Int) (fP : TypeId) (ch : Option Addr) (bo cj : Nat) (dj : List Int) (cg : Option Addr) (cm : Nat) (aZ : List Int) (w : World) (iB : IsB aY) (iz : IsB aX) (ij : IsB aZ) (jK : aZ.length ≤ 1099511627776) (fT : Rd .u8 w (.slice bN aY.length bO) aY) (fE : Rd .u8 w (.slice bH aX.length bI) aX) (gY : Rd .u8 w (.slice cg aZ.length cm) aZ) (gw : RdF 4 w ⟨fQ, b9, bp, cf, df⟩) (fG : RdF 2 w ⟨fP, ch, bo, cj, dj⟩) (fX : bp ≤ 1125899906842624) (gK : bo ≤ 1125899906842624) :
  Calls Tryz.prog 17 #[.agg #[.int .i64 8, .int .i64 txn, .int .i64 prev, .int .i64 page, .int .i64 slot, .bool bU, .slice bN aY.length bO, .bool aU, .slice bH aX.length bI, .int .i64 uN, .int .i64 nT, .slice b9 bp cf, .slice ch bo cj, .slice cg aZ.length cm]] w fun e w' => e = .returned (.int .i64 (if (!(decide (0 = txn) && decide (0 = prev) && decide (0 = slot) && (emptyB aU aX.length) && (emptyB bU aY.length) && decide (0 = uN) && decide (0 = nT) && decide (bp = 0) && decide (bo = 0))) = true then 2 else (if (inB prev 0 1099511627776) = false then 4 else (if (inB page 0 15) = false then 5 else (if (fitsB bU aY.length) = false then 6 else (if (fitsB aU aX.length) = false then 6 else (if pageFault aZ page ≠ 0 then 9 else (0)))))))) ∧ Same w w' :=
 recS_8 txn prev page slot bU bN aY.length bO aU bH aX.length bI uN nT b9 bp cf ch bo cj cg aZ.length cm w (!(decide (0 = txn) && decide (0 = prev) && decide (0 = slot) && (emptyB aU aX.length) && (emptyB bU aY.length) && decide (0 = uN) && decide (0 = nT) && decide (bp = 0) && decide (bo = 0))) (inB prev 0 1099511627776) (inB page 0 15) (fitsB bU aY.length) (fitsB aU aX.length) (pageFault aZ page) (fun wx _ => l4In_any 8 1 8 wx) (fun wx _ => extra_8 txn prev page slot bU bN aY.length bO aU bH aX.length bI uN nT b9 bp cf ch bo cj cg aZ.length cm wx _ _ (fun wy _ => l4Empty_any aU bH aX.length bI wy fE.1) (fun wy _ => l4Empty_any bU bN aY.length bO wy fT.1) gw.1 fG.1) (fun wx _ => l4In_any _ _ _ wx) (fun wx _ => l4In_any _ _ _ wx) (fun wx _ => l4Slot_any _ _ _ _ wx fT.1) (fun wx _ => l4Slot_any _ _ _ _ wx fE.1) (fun wx h => specFault_any _ aZ page wx ij jK (gY.same h))
theorem isSlotB_in (x : Int) : inB x 0 31 = isSlotB x := by
 unfold isSlotB inB
 rw [show decide (x < 32) = decide (x ≤ 31) from decide_eq_decide.2 (by omega)]
theorem inB_page (x : Int) : inB x 0 15 = isPageB x := (isPageB_in x).symm
theorem inB_txn (x : Int) : inB x 1 2147483647 = isTxnB x := rfl
theorem inB_lsn (x : Int) : inB x 0 1099511627776 = isLSN x := rfl
theorem empty_eq (u : Bool) (b : List Int) : emptyB u b.length = (false == u && decide ([] = b)) := by
 unfold emptyB
 cases u <;> cases b <;> simp
theorem len_eq (b : List Int) : decide (b.length = 0) = decide ([] = b) := by cases b <;> simp
theorem fits_empty : fitsB false 0 = true := rfl
theorem eqK_1 (txn prev page slot uN nT : Int) (bU aU : Bool) (aY aX aZ df dj : List Int) (bp bo : Nat) (e1 : df.length / 4 = bp) (e2 : dj.length / 2 = bo) :
  ((if (!(decide (0 = uN) && decide (0 = nT) && decide (bp = 0) && decide (bo = 0) && decide (aZ.length = 0))) = true then 2 else (if (inB txn 1 2147483647) = false then 3 else (if (inB prev 0 1099511627776) = false then 4 else (if (inB page 0 15) = false then 5 else (if (inB slot 0 31) = false then 5 else (if (fitsB bU aY.length) = false then 6 else (if (fitsB aU aX.length) = false then 6 else (if (bU || aU) = false then 6 else (0))))))))) : Int) = if alone1 txn prev page slot bU aY aU aX uN nT df dj aZ = true then orF (headF txn prev) (placeF page slot) (updF bU aU aY.length aX.length) else 2 := by
 unfold alone1
 rw [e1, e2]
 simp only [empty_eq, len_eq, inB_page, isSlotB_in, inB_txn, inB_lsn]
 by_cases quN : 0 = uN
 case neg => simp only [decide_eq_false quN, Bool.false_and, Bool.and_false, Bool.not_false, if_true, Bool.false_eq_true, if_false]
 subst quN
 by_cases qnT : 0 = nT
 case neg => simp only [decide_eq_false qnT, Bool.false_and, Bool.and_false, Bool.not_false, if_true, Bool.false_eq_true, if_false]
 subst qnT
 by_cases qtxns : bp = 0
 case neg => simp only [decide_eq_false qtxns, Bool.false_and, Bool.and_false, Bool.not_false, if_true, Bool.false_eq_true, if_false]
 simp only [decide_eq_true qtxns]
 by_cases qdirty : bo = 0
 case neg => simp only [decide_eq_false qdirty, Bool.false_and, Bool.and_false, Bool.not_false, if_true, Bool.false_eq_true, if_false]
 simp only [decide_eq_true qdirty]
 by_cases qimage : [] = aZ
 case neg => simp only [decide_eq_false qimage, Bool.false_and, Bool.and_false, Bool.not_false, if_true, Bool.false_eq_true, if_false]
 subst qimage
 simp only [decide_true, beq_self_eq_true, Bool.and_self, Bool.and_true, Bool.true_and, Bool.not_true, Bool.false_eq_true, if_true, if_false, List.length_nil]
 unfold orF headF placeF updF
 generalize isTxnB txn = g0 at *
 generalize isLSN prev = g1 at *
 generalize isPageB page = g2 at *
 generalize isSlotB slot = g3 at *
 generalize fitsB bU aY.length = g4 at *
 generalize fitsB aU aX.length = g5 at *
 cases g0 <;> cases g1 <;> cases g2 <;> cases g3 <;> cases g4 <;> cases g5 <;> cases bU <;> cases aU <;> simp [isLSN, fitsB]
theorem eqK_2 (txn prev page slot uN nT : Int) (bU aU : Bool) (aY aX aZ df dj : List Int) (bp bo : Nat) (e1 : df.length / 4 = bp) (e2 : dj.length / 2 = bo) :
  ((if (!((emptyB bU aY.length) && decide (0 = nT) && decide (bp = 0) && decide (bo = 0) && decide (aZ.length = 0))) = true then 2 else (if (inB txn 1 2147483647) = false then 3 else (if (inB prev 0 1099511627776) = false then 4 else (if (inB page 0 15) = false then 5 else (if (inB slot 0 31) = false then 5 else (if (fitsB bU aY.length) = false then 6 else (if (fitsB aU aX.length) = false then 6 else (if (inB uN 0 1099511627776) = false then 7 else (0))))))))) : Int) = if alone2 txn prev page slot bU aY aU aX uN nT df dj aZ = true then orF (headF txn prev) (placeF page slot) (undF aU aX.length uN) else 2 := by
 unfold alone2
 rw [e1, e2]
 simp only [empty_eq, len_eq, inB_page, isSlotB_in, inB_txn, inB_lsn]
 cases bU with
 | true => simp only [show (false == true) = false from rfl, Bool.false_and, Bool.and_false, Bool.not_false, if_true, Bool.false_eq_true, if_false]
 | false =>
 by_cases qbefore : [] = aY
 case neg => simp only [decide_eq_false qbefore, Bool.false_and, Bool.and_false, Bool.not_false, if_true, Bool.false_eq_true, if_false]
 subst qbefore
 by_cases qnT : 0 = nT
 case neg => simp only [decide_eq_false qnT, Bool.false_and, Bool.and_false, Bool.not_false, if_true, Bool.false_eq_true, if_false]
 subst qnT
 by_cases qtxns : bp = 0
 case neg => simp only [decide_eq_false qtxns, Bool.false_and, Bool.and_false, Bool.not_false, if_true, Bool.false_eq_true, if_false]
 simp only [decide_eq_true qtxns]
 by_cases qdirty : bo = 0
 case neg => simp only [decide_eq_false qdirty, Bool.false_and, Bool.and_false, Bool.not_false, if_true, Bool.false_eq_true, if_false]
 simp only [decide_eq_true qdirty]
 by_cases qimage : [] = aZ
 case neg => simp only [decide_eq_false qimage, Bool.false_and, Bool.and_false, Bool.not_false, if_true, Bool.false_eq_true, if_false]
 subst qimage
 simp only [decide_true, beq_self_eq_true, Bool.and_self, Bool.and_true, Bool.true_and, Bool.not_true, Bool.false_eq_true, if_true, if_false, List.length_nil]
 unfold orF headF placeF undF
 generalize isTxnB txn = g0 at *
 generalize isLSN prev = g1 at *
 generalize isPageB page = g2 at *
 generalize isSlotB slot = g3 at *
 generalize fitsB aU aX.length = g4 at *
 have Sp : isLSN uN = true ∨ isLSN uN = false := by cases isLSN uN <;> simp
 cases g0 <;> cases g1 <;> cases g2 <;> cases g3 <;> cases g4 <;> rcases Sp with h5 | h5 <;> simp [h5, fits_empty]
theorem eqK_3 (txn prev page slot uN nT : Int) (bU aU : Bool) (aY aX aZ df dj : List Int) (bp bo : Nat) (e1 : df.length / 4 = bp) (e2 : dj.length / 2 = bo) :
  ((if (!(decide (0 = slot) && (emptyB aU aX.length) && decide (0 = page) && (emptyB bU aY.length) && decide (0 = uN) && decide (0 = nT) && decide (bp = 0) && decide (bo = 0) && decide (aZ.length = 0))) = true then 2 else (if (inB txn 1 2147483647) = false then 3 else (if (inB prev 0 1099511627776) = false then 4 else (if (fitsB bU aY.length) = false then 6 else (if (fitsB aU aX.length) = false then 6 else (0)))))) : Int) = if alone3 txn prev page slot bU aY aU aX uN nT df dj aZ = true then headF txn prev else 2 := by
 unfold alone3
 rw [e1, e2]
 simp only [empty_eq, len_eq, inB_page, isSlotB_in, inB_txn, inB_lsn]
 by_cases qpage : 0 = page
 case neg => simp only [decide_eq_false qpage, Bool.false_and, Bool.and_false, Bool.not_false, if_true, Bool.false_eq_true, if_false]
 subst qpage
 by_cases qslot : 0 = slot
 case neg => simp only [decide_eq_false qslot, Bool.false_and, Bool.and_false, Bool.not_false, if_true, Bool.false_eq_true, if_false]
 subst qslot
 cases bU with
 | true => simp only [show (false == true) = false from rfl, Bool.false_and, Bool.and_false, Bool.not_false, if_true, Bool.false_eq_true, if_false]
 | false =>
 by_cases qbefore : [] = aY
 case neg => simp only [decide_eq_false qbefore, Bool.false_and, Bool.and_false, Bool.not_false, if_true, Bool.false_eq_true, if_false]
 subst qbefore
 cases aU with
 | true => simp only [show (false == true) = false from rfl, Bool.false_and, Bool.and_false, Bool.not_false, if_true, Bool.false_eq_true, if_false]
 | false =>
 by_cases qafter : [] = aX
 case neg => simp only [decide_eq_false qafter, Bool.false_and, Bool.and_false, Bool.not_false, if_true, Bool.false_eq_true, if_false]
 subst qafter
 by_cases quN : 0 = uN
 case neg => simp only [decide_eq_false quN, Bool.false_and, Bool.and_false, Bool.not_false, if_true, Bool.false_eq_true, if_false]
 subst quN
 by_cases qnT : 0 = nT
 case neg => simp only [decide_eq_false qnT, Bool.false_and, Bool.and_false, Bool.not_false, if_true, Bool.false_eq_true, if_false]
 subst qnT
 by_cases qtxns : bp = 0
 case neg => simp only [decide_eq_false qtxns, Bool.false_and, Bool.and_false, Bool.not_false, if_true, Bool.false_eq_true, if_false]
 simp only [decide_eq_true qtxns]
 by_cases qdirty : bo = 0
 case neg => simp only [decide_eq_false qdirty, Bool.false_and, Bool.and_false, Bool.not_false, if_true, Bool.false_eq_true, if_false]
 simp only [decide_eq_true qdirty]
 by_cases qimage : [] = aZ
 case neg => simp only [decide_eq_false qimage, Bool.false_and, Bool.and_false, Bool.not_false, if_true, Bool.false_eq_true, if_false]
 subst qimage
 simp only [decide_true, beq_self_eq_true, Bool.and_self, Bool.and_true, Bool.true_and, Bool.not_true, Bool.false_eq_true, if_true, if_false, List.length_nil]
 unfold headF
 generalize isTxnB txn = g0 at *
 generalize isLSN prev = g1 at *
 cases g0 <;> cases g1 <;> simp [isLSN, fitsB]
theorem eqK_4 (txn prev page slot uN nT : Int) (bU aU : Bool) (aY aX aZ df dj : List Int) (bp bo : Nat) (e1 : df.length / 4 = bp) (e2 : dj.length / 2 = bo) :
  ((if (!(decide (0 = slot) && (emptyB aU aX.length) && decide (0 = page) && (emptyB bU aY.length) && decide (0 = uN) && decide (0 = nT) && decide (bp = 0) && decide (bo = 0) && decide (aZ.length = 0))) = true then 2 else (if (inB txn 1 2147483647) = false then 3 else (if (inB prev 0 1099511627776) = false then 4 else (if (fitsB bU aY.length) = false then 6 else (if (fitsB aU aX.length) = false then 6 else (0)))))) : Int) = if alone4 txn prev page slot bU aY aU aX uN nT df dj aZ = true then headF txn prev else 2 := by
 unfold alone4
 rw [e1, e2]
 simp only [empty_eq, len_eq, inB_page, isSlotB_in, inB_txn, inB_lsn]
 by_cases qpage : 0 = page
 case neg => simp only [decide_eq_false qpage, Bool.false_and, Bool.and_false, Bool.not_false, if_true, Bool.false_eq_true, if_false]
 subst qpage
 by_cases qslot : 0 = slot
 case neg => simp only [decide_eq_false qslot, Bool.false_and, Bool.and_false, Bool.not_false, if_true, Bool.false_eq_true, if_false]
 subst qslot
 cases bU with
 | true => simp only [show (false == true) = false from rfl, Bool.false_and, Bool.and_false, Bool.not_false, if_true, Bool.false_eq_true, if_false]
 | false =>
 by_cases qbefore : [] = aY
 case neg => simp only [decide_eq_false qbefore, Bool.false_and, Bool.and_false, Bool.not_false, if_true, Bool.false_eq_true, if_false]
 subst qbefore
 cases aU with
 | true => simp only [show (false == true) = false from rfl, Bool.false_and, Bool.and_false, Bool.not_false, if_true, Bool.false_eq_true, if_false]
 | false =>
 by_cases qafter : [] = aX
 case neg => simp only [decide_eq_false qafter, Bool.false_and, Bool.and_false, Bool.not_false, if_true, Bool.false_eq_true, if_false]
 subst qafter
 by_cases quN : 0 = uN
 case neg => simp only [decide_eq_false quN, Bool.false_and, Bool.and_false, Bool.not_false, if_true, Bool.false_eq_true, if_false]
 subst quN
 by_cases qnT : 0 = nT
 case neg => simp only [decide_eq_false qnT, Bool.false_and, Bool.and_false, Bool.not_false, if_true, Bool.false_eq_true, if_false]
 subst qnT
 by_cases qtxns : bp = 0
 case neg => simp only [decide_eq_false qtxns, Bool.false_and, Bool.and_false, Bool.not_false, if_true, Bool.false_eq_true, if_false]
 simp only [decide_eq_true qtxns]
 by_cases qdirty : bo = 0
 case neg => simp only [decide_eq_false qdirty, Bool.false_and, Bool.and_false, Bool.not_false, if_true, Bool.false_eq_true, if_false]
 simp only [decide_eq_true qdirty]
 by_cases qimage : [] = aZ
 case neg => simp only [decide_eq_false qimage, Bool.false_and, Bool.and_false, Bool.not_false, if_true, Bool.false_eq_true, if_false]
 subst qimage
 simp only [decide_true, beq_self_eq_true, Bool.and_self, Bool.and_true, Bool.true_and, Bool.not_true, Bool.false_eq_true, if_true, if_false, List.length_nil]
 unfold headF
 generalize isTxnB txn = g0 at *
 generalize isLSN prev = g1 at *
 cases g0 <;> cases g1 <;> simp [isLSN, fitsB]
theorem eqK_5 (txn prev page slot uN nT : Int) (bU aU : Bool) (aY aX aZ df dj : List Int) (bp bo : Nat) (e1 : df.length / 4 = bp) (e2 : dj.length / 2 = bo) :
  ((if (!(decide (0 = slot) && (emptyB aU aX.length) && decide (0 = page) && (emptyB bU aY.length) && decide (0 = uN) && decide (0 = nT) && decide (bp = 0) && decide (bo = 0) && decide (aZ.length = 0))) = true then 2 else (if (inB txn 1 2147483647) = false then 3 else (if (inB prev 0 1099511627776) = false then 4 else (if (fitsB bU aY.length) = false then 6 else (if (fitsB aU aX.length) = false then 6 else (0)))))) : Int) = if alone5 txn prev page slot bU aY aU aX uN nT df dj aZ = true then headF txn prev else 2 := by
 unfold alone5
 rw [e1, e2]
 simp only [empty_eq, len_eq, inB_page, isSlotB_in, inB_txn, inB_lsn]
 by_cases qpage : 0 = page
 case neg => simp only [decide_eq_false qpage, Bool.false_and, Bool.and_false, Bool.not_false, if_true, Bool.false_eq_true, if_false]
 subst qpage
 by_cases qslot : 0 = slot
 case neg => simp only [decide_eq_false qslot, Bool.false_and, Bool.and_false, Bool.not_false, if_true, Bool.false_eq_true, if_false]
 subst qslot
 cases bU with
 | true => simp only [show (false == true) = false from rfl, Bool.false_and, Bool.and_false, Bool.not_false, if_true, Bool.false_eq_true, if_false]
 | false =>
 by_cases qbefore : [] = aY
 case neg => simp only [decide_eq_false qbefore, Bool.false_and, Bool.and_false, Bool.not_false, if_true, Bool.false_eq_true, if_false]
 subst qbefore
 cases aU with
 | true => simp only [show (false == true) = false from rfl, Bool.false_and, Bool.and_false, Bool.not_false, if_true, Bool.false_eq_true, if_false]
 | false =>
 by_cases qafter : [] = aX
 case neg => simp only [decide_eq_false qafter, Bool.false_and, Bool.and_false, Bool.not_false, if_true, Bool.false_eq_true, if_false]
 subst qafter
 by_cases quN : 0 = uN
 case neg => simp only [decide_eq_false quN, Bool.false_and, Bool.and_false, Bool.not_false, if_true, Bool.false_eq_true, if_false]
 subst quN
 by_cases qnT : 0 = nT
 case neg => simp only [decide_eq_false qnT, Bool.false_and, Bool.and_false, Bool.not_false, if_true, Bool.false_eq_true, if_false]
 subst qnT
 by_cases qtxns : bp = 0
 case neg => simp only [decide_eq_false qtxns, Bool.false_and, Bool.and_false, Bool.not_false, if_true, Bool.false_eq_true, if_false]
 simp only [decide_eq_true qtxns]
 by_cases qdirty : bo = 0
 case neg => simp only [decide_eq_false qdirty, Bool.false_and, Bool.and_false, Bool.not_false, if_true, Bool.false_eq_true, if_false]
 simp only [decide_eq_true qdirty]
 by_cases qimage : [] = aZ
 case neg => simp only [decide_eq_false qimage, Bool.false_and, Bool.and_false, Bool.not_false, if_true, Bool.false_eq_true, if_false]
 subst qimage
 simp only [decide_true, beq_self_eq_true, Bool.and_self, Bool.and_true, Bool.true_and, Bool.not_true, Bool.false_eq_true, if_true, if_false, List.length_nil]
 unfold headF
 generalize isTxnB txn = g0 at *
 generalize isLSN prev = g1 at *
 cases g0 <;> cases g1 <;> simp [isLSN, fitsB]
theorem eqK_6 (txn prev page slot uN nT : Int) (bU aU : Bool) (aY aX aZ df dj : List Int) (bp bo : Nat) (e1 : df.length / 4 = bp) (e2 : dj.length / 2 = bo) :
  ((if (!(decide (0 = txn) && decide (0 = prev) && decide (0 = slot) && (emptyB aU aX.length) && decide (0 = page) && (emptyB bU aY.length) && decide (0 = uN) && decide (0 = nT) && decide (bp = 0) && decide (bo = 0) && decide (aZ.length = 0))) = true then 2 else (if (inB prev 0 1099511627776) = false then 4 else (if (fitsB bU aY.length) = false then 6 else (if (fitsB aU aX.length) = false then 6 else (0))))) : Int) = if alone6 txn prev page slot bU aY aU aX uN nT df dj aZ = true then 0 else 2 := by
 unfold alone6
 rw [e1, e2]
 simp only [empty_eq, len_eq, inB_page, isSlotB_in, inB_txn, inB_lsn]
 by_cases qtxn : 0 = txn
 case neg => simp only [decide_eq_false qtxn, Bool.false_and, Bool.and_false, Bool.not_false, if_true, Bool.false_eq_true, if_false]
 subst qtxn
 by_cases qprev : 0 = prev
 case neg => simp only [decide_eq_false qprev, Bool.false_and, Bool.and_false, Bool.not_false, if_true, Bool.false_eq_true, if_false]
 subst qprev
 by_cases qpage : 0 = page
 case neg => simp only [decide_eq_false qpage, Bool.false_and, Bool.and_false, Bool.not_false, if_true, Bool.false_eq_true, if_false]
 subst qpage
 by_cases qslot : 0 = slot
 case neg => simp only [decide_eq_false qslot, Bool.false_and, Bool.and_false, Bool.not_false, if_true, Bool.false_eq_true, if_false]
 subst qslot
 cases bU with
 | true => simp only [show (false == true) = false from rfl, Bool.false_and, Bool.and_false, Bool.not_false, if_true, Bool.false_eq_true, if_false]
 | false =>
 by_cases qbefore : [] = aY
 case neg => simp only [decide_eq_false qbefore, Bool.false_and, Bool.and_false, Bool.not_false, if_true, Bool.false_eq_true, if_false]
 subst qbefore
 cases aU with
 | true => simp only [show (false == true) = false from rfl, Bool.false_and, Bool.and_false, Bool.not_false, if_true, Bool.false_eq_true, if_false]
 | false =>
 by_cases qafter : [] = aX
 case neg => simp only [decide_eq_false qafter, Bool.false_and, Bool.and_false, Bool.not_false, if_true, Bool.false_eq_true, if_false]
 subst qafter
 by_cases quN : 0 = uN
 case neg => simp only [decide_eq_false quN, Bool.false_and, Bool.and_false, Bool.not_false, if_true, Bool.false_eq_true, if_false]
 subst quN
 by_cases qnT : 0 = nT
 case neg => simp only [decide_eq_false qnT, Bool.false_and, Bool.and_false, Bool.not_false, if_true, Bool.false_eq_true, if_false]
 subst qnT
 by_cases qtxns : bp = 0
 case neg => simp only [decide_eq_false qtxns, Bool.false_and, Bool.and_false, Bool.not_false, if_true, Bool.false_eq_true, if_false]
 simp only [decide_eq_true qtxns]
 by_cases qdirty : bo = 0
 case neg => simp only [decide_eq_false qdirty, Bool.false_and, Bool.and_false, Bool.not_false, if_true, Bool.false_eq_true, if_false]
 simp only [decide_eq_true qdirty]
 by_cases qimage : [] = aZ
 case neg => simp only [decide_eq_false qimage, Bool.false_and, Bool.and_false, Bool.not_false, if_true, Bool.false_eq_true, if_false]
 subst qimage
 simp only [decide_true, beq_self_eq_true, Bool.and_self, Bool.and_true, Bool.true_and, Bool.not_true, Bool.false_eq_true, if_true, if_false, List.length_nil]
 skip
 simp [isLSN, fitsB]
theorem eqK_7 (txn prev page slot uN nT : Int) (bU aU : Bool) (aY aX aZ df dj : List Int) (bp bo : Nat) (e1 : df.length / 4 = bp) (e2 : dj.length / 2 = bo) :
  ((if (!(decide (0 = txn) && decide (0 = prev) && decide (0 = slot) && (emptyB aU aX.length) && decide (0 = page) && (emptyB bU aY.length) && decide (0 = uN) && decide (aZ.length = 0))) = true then 2 else (if (inB prev 0 1099511627776) = false then 4 else (if (fitsB bU aY.length) = false then 6 else (if (fitsB aU aX.length) = false then 6 else (if ((inB nT 1 2147483648 && allTxns df bp && allDirty dj bo)) = false then 8 else (0)))))) : Int) = if alone7 txn prev page slot bU aY aU aX uN nT df dj aZ = true then tabF nT df (df.length / 4) dj (dj.length / 2) else 2 := by
 unfold alone7
 rw [e1, e2]
 simp only [empty_eq, len_eq, inB_page, isSlotB_in, inB_txn, inB_lsn]
 by_cases qtxn : 0 = txn
 case neg => simp only [decide_eq_false qtxn, Bool.false_and, Bool.and_false, Bool.not_false, if_true, Bool.false_eq_true, if_false]
 subst qtxn
 by_cases qprev : 0 = prev
 case neg => simp only [decide_eq_false qprev, Bool.false_and, Bool.and_false, Bool.not_false, if_true, Bool.false_eq_true, if_false]
 subst qprev
 by_cases qpage : 0 = page
 case neg => simp only [decide_eq_false qpage, Bool.false_and, Bool.and_false, Bool.not_false, if_true, Bool.false_eq_true, if_false]
 subst qpage
 by_cases qslot : 0 = slot
 case neg => simp only [decide_eq_false qslot, Bool.false_and, Bool.and_false, Bool.not_false, if_true, Bool.false_eq_true, if_false]
 subst qslot
 cases bU with
 | true => simp only [show (false == true) = false from rfl, Bool.false_and, Bool.and_false, Bool.not_false, if_true, Bool.false_eq_true, if_false]
 | false =>
 by_cases qbefore : [] = aY
 case neg => simp only [decide_eq_false qbefore, Bool.false_and, Bool.and_false, Bool.not_false, if_true, Bool.false_eq_true, if_false]
 subst qbefore
 cases aU with
 | true => simp only [show (false == true) = false from rfl, Bool.false_and, Bool.and_false, Bool.not_false, if_true, Bool.false_eq_true, if_false]
 | false =>
 by_cases qafter : [] = aX
 case neg => simp only [decide_eq_false qafter, Bool.false_and, Bool.and_false, Bool.not_false, if_true, Bool.false_eq_true, if_false]
 subst qafter
 by_cases quN : 0 = uN
 case neg => simp only [decide_eq_false quN, Bool.false_and, Bool.and_false, Bool.not_false, if_true, Bool.false_eq_true, if_false]
 subst quN
 by_cases qimage : [] = aZ
 case neg => simp only [decide_eq_false qimage, Bool.false_and, Bool.and_false, Bool.not_false, if_true, Bool.false_eq_true, if_false]
 subst qimage
 simp only [decide_true, beq_self_eq_true, Bool.and_self, Bool.and_true, Bool.true_and, Bool.not_true, Bool.false_eq_true, if_true, if_false, List.length_nil]
 unfold tabF inB
 generalize decide (1 ≤ nT) = g0 at *
 generalize decide (nT ≤ 2147483648) = g1 at *
 generalize allTxns df bp = g2 at *
 generalize allDirty dj bo = g3 at *
 cases g0 <;> cases g1 <;> cases g2 <;> cases g3 <;> simp [isLSN, fitsB]
theorem eqK_8 (txn prev page slot uN nT : Int) (bU aU : Bool) (aY aX aZ df dj : List Int) (bp bo : Nat) (e1 : df.length / 4 = bp) (e2 : dj.length / 2 = bo) :
  ((if (!(decide (0 = txn) && decide (0 = prev) && decide (0 = slot) && (emptyB aU aX.length) && (emptyB bU aY.length) && decide (0 = uN) && decide (0 = nT) && decide (bp = 0) && decide (bo = 0))) = true then 2 else (if (inB prev 0 1099511627776) = false then 4 else (if (inB page 0 15) = false then 5 else (if (fitsB bU aY.length) = false then 6 else (if (fitsB aU aX.length) = false then 6 else (if pageFault aZ page ≠ 0 then 9 else (0))))))) : Int) = if alone8 txn prev page slot bU aY aU aX uN nT df dj aZ = true then imgF page aZ else 2 := by
 unfold alone8
 rw [e1, e2]
 simp only [empty_eq, len_eq, inB_page, isSlotB_in, inB_txn, inB_lsn]
 by_cases qtxn : 0 = txn
 case neg => simp only [decide_eq_false qtxn, Bool.false_and, Bool.and_false, Bool.not_false, if_true, Bool.false_eq_true, if_false]
 subst qtxn
 by_cases qprev : 0 = prev
 case neg => simp only [decide_eq_false qprev, Bool.false_and, Bool.and_false, Bool.not_false, if_true, Bool.false_eq_true, if_false]
 subst qprev
 by_cases qslot : 0 = slot
 case neg => simp only [decide_eq_false qslot, Bool.false_and, Bool.and_false, Bool.not_false, if_true, Bool.false_eq_true, if_false]
 subst qslot
 cases bU with
 | true => simp only [show (false == true) = false from rfl, Bool.false_and, Bool.and_false, Bool.not_false, if_true, Bool.false_eq_true, if_false]
 | false =>
 by_cases qbefore : [] = aY
 case neg => simp only [decide_eq_false qbefore, Bool.false_and, Bool.and_false, Bool.not_false, if_true, Bool.false_eq_true, if_false]
 subst qbefore
 cases aU with
 | true => simp only [show (false == true) = false from rfl, Bool.false_and, Bool.and_false, Bool.not_false, if_true, Bool.false_eq_true, if_false]
 | false =>
 by_cases qafter : [] = aX
 case neg => simp only [decide_eq_false qafter, Bool.false_and, Bool.and_false, Bool.not_false, if_true, Bool.false_eq_true, if_false]
 subst qafter
 by_cases quN : 0 = uN
 case neg => simp only [decide_eq_false quN, Bool.false_and, Bool.and_false, Bool.not_false, if_true, Bool.false_eq_true, if_false]
 subst quN
 by_cases qnT : 0 = nT
 case neg => simp only [decide_eq_false qnT, Bool.false_and, Bool.and_false, Bool.not_false, if_true, Bool.false_eq_true, if_false]
 subst qnT
 by_cases qtxns : bp = 0
 case neg => simp only [decide_eq_false qtxns, Bool.false_and, Bool.and_false, Bool.not_false, if_true, Bool.false_eq_true, if_false]
 simp only [decide_eq_true qtxns]
 by_cases qdirty : bo = 0
 case neg => simp only [decide_eq_false qdirty, Bool.false_and, Bool.and_false, Bool.not_false, if_true, Bool.false_eq_true, if_false]
 simp only [decide_eq_true qdirty]
 simp only [decide_true, beq_self_eq_true, Bool.and_self, Bool.and_true, Bool.true_and, Bool.not_true, Bool.false_eq_true, if_true, if_false, List.length_nil]
 unfold imgF
 generalize isPageB page = g0 at *
 generalize pageFault aZ page = PF
 cases g0 <;> by_cases hp : PF = 0 <;> simp [hp, isLSN, fitsB]
theorem recS_0 (kind txn prev page slot : Int) (bU : Bool) (bN : Option Addr) (bO : Nat) (aY : List Int) (aU : Bool) (bH : Option Addr) (bI : Nat) (aX : List Int) (uN nT : Int) (fQ : TypeId) (b9 : Option Addr) (bp cf : Nat) (df : List Int) (fP : TypeId) (ch : Option Addr) (bo cj : Nat) (dj : List Int) (cg : Option Addr) (cm : Nat) (aZ : List Int) (w : World) (h : inB kind 1 8 = false) : Calls Tryz.prog 17 #[.agg #[.int .i64 kind, .int .i64 txn, .int .i64 prev, .int .i64 page, .int .i64 slot, .bool bU, .slice bN aY.length bO, .bool aU, .slice bH aX.length bI, .int .i64 uN, .int .i64 nT, .slice b9 bp cf, .slice ch bo cj, .slice cg aZ.length cm]] w fun e w' => e = .returned (.int .i64 1) ∧ Same w w' := by
 have h1 := fun wx => l4In_any kind 1 8 wx
 rw [h] at h1
 have bg : ¬ kind = 1 := fun e => by subst e; cases h
 have eC : ¬ kind = 2 := fun e => by subst e; cases h
 clear h
 go_enter Tryz.func17, Tryz.ntmps17
 go_wp2_with (go_at_call 16; refine (h1 _).mono ?_; rintro e w1 ⟨rfl, hk⟩)
 go_ret
 exact ⟨rfl, ((Kept.refl _ _).alloc _).trans hk⟩
theorem recI_0 (kind txn prev page slot : Int) (bU : Bool) (bN : Option Addr) (bO : Nat) (aY : List Int) (aU : Bool) (bH : Option Addr) (bI : Nat) (aX : List Int) (uN nT : Int) (fQ : TypeId) (b9 : Option Addr) (bp cf : Nat) (df : List Int) (fP : TypeId) (ch : Option Addr) (bo cj : Nat) (dj : List Int) (cg : Option Addr) (cm : Nat) (aZ : List Int) (w : World) (h1 : ¬ kind = 1) (h2 : ¬ kind = 2) (h3 : ¬ kind = 3) (h4 : ¬ kind = 4) (h5 : ¬ kind = 5) (h6 : ¬ kind = 6) (h7 : ¬ kind = 7) (h8 : ¬ kind = 8) : Calls Tryz.prog 50 #[.agg #[.int .i64 kind, .int .i64 txn, .int .i64 prev, .int .i64 page, .int .i64 slot, .bool bU, .slice bN aY.length bO, .bool aU, .slice bH aX.length bI, .int .i64 uN, .int .i64 nT, .slice b9 bp cf, .slice ch bo cj, .slice cg aZ.length cm]] w fun e w' => e = .returned (.int .i64 1) ∧ Same w w' := by
 have hT := fun wx => typeRecord_0 kind txn prev page slot bU bN aY.length bO aU bH aX.length bI uN nT b9 bp cf ch bo cj cg aZ.length cm wx h1 h2 h3 h4 h5 h6 h7 h8
 clear h1 h2 h3 h4 h5 h6 h7 h8
 go_enter Tryz.func50, Tryz.ntmps50
 go_wp2_with (go_at_call 73; refine (hT _).mono ?_; rintro e w1 ⟨rfl, hk⟩)
 go_ret
 exact ⟨rfl, ((Kept.refl _ _).alloc _).trans hk⟩
end Go.Proofs.YtepdakgfioffgaaGreat
