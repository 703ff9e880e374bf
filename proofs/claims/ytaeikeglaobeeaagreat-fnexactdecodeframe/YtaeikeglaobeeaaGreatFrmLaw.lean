import Derived.Test.YtaeikeglaobeeaaGreatFrS
import Derived.Test.YtaeikeglaobeeaaGreatFrI
import Derived.Test.YtaeikeglaobeeaaGreatTyMFrameResult
import Derived.Test.YtaeikeglaobeeaaGreatG00
namespace Go.Proofs.YtaeikeglaobeeaaGreat
open Go.RowKit
set_option linter.unusedVariables false
set_option linter.unusedSimpArgs false
theorem decF_small {y : StFrameResult} {bs : List Int} {lsn least most : Int} (hB : IsB bs) (h : y.dat = decF bs lsn least most) : y.size ≤ 1099511627776 := by
  have hz0 : sizeD zeroR ≤ 140000 := by unfold sizeD zeroR; simp
  have hp : ∀ xs : List Int, IsB xs → sizeD (decD xs).2 ≤ 140000 := fun xs hx => by
    unfold decD
    split
    · exact (rdBody_good (hx.drop 13)).2.2.2
    · exact hz0
  have hz : sizeD (y.record.dat) ≤ 140000 := by
    have e : y.record.dat = (decF bs lsn least most).2.2.2 := congrArg (fun x => x.2.2.2) h
    rw [e]
    unfold decF decG zeroF
    split
    · split
      · exact hz0
      split
      · exact hz0
      split
      · exact hz0
      split
      · exact hp _ ((hB.dropI 20).tk _)
      · exact hz0
    · exact hz0
  unfold StFrameResult.size StLogRecord.size StPageRecord.size
  simp only [sizeD, StLogRecord.dat, StPageRecord.dat] at hz
  omega
theorem specFrL (v : Value) (bs : List Int) (lsn least most : Int) (w : World) (hB : IsB bs) (hl : bs.length ≤ 1099511627776) (hv : Rd .u8 w v bs) (hlI : IsI lsn) : Calls Tryz.prog 13 #[v, .int .i64 lsn, .int .i64 least, .int .i64 most] w fun e w' => ∃ y : StFrameResult, e = .returned y.val ∧ y.dat = decF bs lsn least most ∧ (∀ b, FootL y.rows b → w.heap.size ≤ b) ∧ OwnL w' y.rows ∧ Same w w' := specFr_any v bs lsn least most w hB hlI hl hv
theorem implFrL (v : Value) (bs : List Int) (lsn least most : Int) (w : World) (hB : IsB bs) (hl : bs.length ≤ 1099511627776) (hv : Rd .u8 w v bs) (hlI : IsI lsn) : Calls Tryz.prog 14 #[v, .int .i64 lsn, .int .i64 least, .int .i64 most] w fun e w' => ∃ y : StFrameResult, e = .returned y.val ∧ y.dat = decF bs lsn least most ∧ (∀ b, FootL y.rows b → w.heap.size ≤ b) ∧ OwnL w' y.rows ∧ Same w w' := implFr_any v bs lsn least most w hB hlI hl hv
end Go.Proofs.YtaeikeglaobeeaaGreat
