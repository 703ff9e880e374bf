/-
  RecordFault of both sides.
-/
import Derived.Test.YtclmdpmelifplabRecEq
import Derived.Test.YtclmdpmelifplabRecNone
import Derived.Test.YtclmdpmelifplabRecImplA
import Derived.Test.YtclmdpmelifplabRecImplB
import Derived.Test.YtclmdpmelifplabRecImplC
import Derived.Test.YtclmdpmelifplabRecImplD
import Derived.Test.YtclmdpmelifplabRecImplE
namespace Go.Proofs.Ytclmdpmelifplab
open Go.RowKit
set_option linter.unusedVariables false
set_option linter.unusedSimpArgs false
def recFd (d : Int × Int × Int × Int × Int × (Bool × List Int) × (Bool × List Int) × Int × Int × List Int × List Int × List Int) : Int := recF d.1 d.2.1 d.2.2.1 d.2.2.2.1 d.2.2.2.2.1 d.2.2.2.2.2.1.1 d.2.2.2.2.2.1.2 d.2.2.2.2.2.2.1.1 d.2.2.2.2.2.2.1.2 d.2.2.2.2.2.2.2.1 d.2.2.2.2.2.2.2.2.1 d.2.2.2.2.2.2.2.2.2.1 d.2.2.2.2.2.2.2.2.2.2.1 d.2.2.2.2.2.2.2.2.2.2.2
def StLogRecord.isB (x : StLogRecord) : Prop := IsB x.before.data.bs ∧ IsB x.after.data.bs ∧ IsB x.image.bs
set_option maxRecDepth 100000 in
set_option maxHeartbeats 4000000 in
theorem implRec_any (x : StLogRecord) (w : World) (hB : x.isB) (hn : x.szs ≤ 1073741824) (hv : StLogRecord.rd w x) :
    Calls Try.prog 12 #[x.val] w fun e w' => e = .returned (.int .i64 (recFd x.dat)) ∧ Same w w' := by
  have hs := hn
  simp only [StLogRecord.szs, StPageRecord.szs] at hs
  have hlt := hv.2.2.1.2.1
  have hld := hv.2.2.2.1.2.1
  obtain ⟨kind, txn, prev, page, slot, ⟨before_used, ⟨before_data_e, before_data_a, before_data_c, before_data_b⟩⟩, ⟨after_used, ⟨after_data_e, after_data_a, after_data_c, after_data_b⟩⟩, undoNext, nextTxn, ⟨txns_e, txns_a, txns_n, txns_c, txns_b⟩, ⟨dirty_e, dirty_a, dirty_n, dirty_c, dirty_b⟩, ⟨image_e, image_a, image_c, image_b⟩⟩ := x
  dsimp only [StLogRecord.val, StPageRecord.val, BS.v, FR.v, recFd, StLogRecord.dat, StPageRecord.dat, StLogRecord.isB, StLogRecord.rd, StPageRecord.rd] at *
  have e1 : txns_b.length / 4 = txns_n := by omega
  have e2 : dirty_b.length / 2 = dirty_n := by omega
  have hli : image_b.length ≤ 1099511627776 := by omega
  have hnt : txns_n ≤ 1125899906842624 := by omega
  have hnd : dirty_n ≤ 1125899906842624 := by omega
  unfold recF
  by_cases h1 : kind = 1
  · subst h1
    simp only [if_true]
    exact recI_1 txn prev page slot before_used before_data_a before_data_c before_data_b after_used after_data_a after_data_c after_data_b undoNext nextTxn txns_e txns_a txns_n txns_c txns_b dirty_e dirty_a dirty_n dirty_c dirty_b image_a image_c image_b w hB.1 hB.2.1 hB.2.2 hli hv.1 hv.2.1 hv.2.2.2.2 hv.2.2.1 hv.2.2.2.1 hnt hnd
  rw [if_neg h1]
  by_cases h2 : kind = 2
  · subst h2
    rw [if_pos rfl]
    exact recI_2 txn prev page slot before_used before_data_a before_data_c before_data_b after_used after_data_a after_data_c after_data_b undoNext nextTxn txns_e txns_a txns_n txns_c txns_b dirty_e dirty_a dirty_n dirty_c dirty_b image_a image_c image_b w hB.1 hB.2.1 hB.2.2 hli hv.1 hv.2.1 hv.2.2.2.2 hv.2.2.1 hv.2.2.2.1 hnt hnd
  rw [if_neg h2]
  by_cases h3 : kind = 3
  · subst h3
    rw [if_pos rfl]
    exact recI_3 txn prev page slot before_used before_data_a before_data_c before_data_b after_used after_data_a after_data_c after_data_b undoNext nextTxn txns_e txns_a txns_n txns_c txns_b dirty_e dirty_a dirty_n dirty_c dirty_b image_a image_c image_b w hB.1 hB.2.1 hB.2.2 hli hv.1 hv.2.1 hv.2.2.2.2 hv.2.2.1 hv.2.2.2.1 hnt hnd
  rw [if_neg h3]
  by_cases h4 : kind = 4
  · subst h4
    rw [if_pos rfl]
    exact recI_4 txn prev page slot before_used before_data_a before_data_c before_data_b after_used after_data_a after_data_c after_data_b undoNext nextTxn txns_e txns_a txns_n txns_c txns_b dirty_e dirty_a dirty_n dirty_c dirty_b image_a image_c image_b w hB.1 hB.2.1 hB.2.2 hli hv.1 hv.2.1 hv.2.2.2.2 hv.2.2.1 hv.2.2.2.1 hnt hnd
  rw [if_neg h4]
  by_cases h5 : kind = 5
  · subst h5
    rw [if_pos rfl]
    exact recI_5 txn prev page slot before_used before_data_a before_data_c before_data_b after_used after_data_a after_data_c after_data_b undoNext nextTxn txns_e txns_a txns_n txns_c txns_b dirty_e dirty_a dirty_n dirty_c dirty_b image_a image_c image_b w hB.1 hB.2.1 hB.2.2 hli hv.1 hv.2.1 hv.2.2.2.2 hv.2.2.1 hv.2.2.2.1 hnt hnd
  rw [if_neg h5]
  by_cases h6 : kind = 6
  · subst h6
    rw [if_pos rfl]
    exact recI_6 txn prev page slot before_used before_data_a before_data_c before_data_b after_used after_data_a after_data_c after_data_b undoNext nextTxn txns_e txns_a txns_n txns_c txns_b dirty_e dirty_a dirty_n dirty_c dirty_b image_a image_c image_b w hB.1 hB.2.1 hB.2.2 hli hv.1 hv.2.1 hv.2.2.2.2 hv.2.2.1 hv.2.2.2.1 hnt hnd
  rw [if_neg h6]
  by_cases h7 : kind = 7
  · subst h7
    rw [if_pos rfl]
    exact recI_7 txn prev page slot before_used before_data_a before_data_c before_data_b after_used after_data_a after_data_c after_data_b undoNext nextTxn txns_e txns_a txns_n txns_c txns_b dirty_e dirty_a dirty_n dirty_c dirty_b image_a image_c image_b w hB.1 hB.2.1 hB.2.2 hli hv.1 hv.2.1 hv.2.2.2.2 hv.2.2.1 hv.2.2.2.1 hnt hnd
  rw [if_neg h7]
  by_cases h8 : kind = 8
  · subst h8
    rw [if_pos rfl]
    exact recI_8 txn prev page slot before_used before_data_a before_data_c before_data_b after_used after_data_a after_data_c after_data_b undoNext nextTxn txns_e txns_a txns_n txns_c txns_b dirty_e dirty_a dirty_n dirty_c dirty_b image_a image_c image_b w hB.1 hB.2.1 hB.2.2 hli hv.1 hv.2.1 hv.2.2.2.2 hv.2.2.1 hv.2.2.2.1 hnt hnd
  rw [if_neg h8]
  exact recI_0 kind txn prev page slot before_used before_data_a before_data_c before_data_b after_used after_data_a after_data_c after_data_b undoNext nextTxn txns_e txns_a txns_n txns_c txns_b dirty_e dirty_a dirty_n dirty_c dirty_b image_a image_c image_b w h1 h2 h3 h4 h5 h6 h7 h8
set_option maxRecDepth 100000 in
set_option maxHeartbeats 4000000 in
theorem specRec_any (x : StLogRecord) (w : World) (hB : x.isB) (hn : x.szs ≤ 1073741824) (hv : StLogRecord.rd w x) :
    Calls Try.prog 11 #[x.val] w fun e w' => e = .returned (.int .i64 (recFd x.dat)) ∧ Same w w' := by
  have hs := hn
  simp only [StLogRecord.szs, StPageRecord.szs] at hs
  have hlt := hv.2.2.1.2.1
  have hld := hv.2.2.2.1.2.1
  obtain ⟨kind, txn, prev, page, slot, ⟨before_used, ⟨before_data_e, before_data_a, before_data_c, before_data_b⟩⟩, ⟨after_used, ⟨after_data_e, after_data_a, after_data_c, after_data_b⟩⟩, undoNext, nextTxn, ⟨txns_e, txns_a, txns_n, txns_c, txns_b⟩, ⟨dirty_e, dirty_a, dirty_n, dirty_c, dirty_b⟩, ⟨image_e, image_a, image_c, image_b⟩⟩ := x
  dsimp only [StLogRecord.val, StPageRecord.val, BS.v, FR.v, recFd, StLogRecord.dat, StPageRecord.dat, StLogRecord.isB, StLogRecord.rd, StPageRecord.rd] at *
  have e1 : txns_b.length / 4 = txns_n := by omega
  have e2 : dirty_b.length / 2 = dirty_n := by omega
  have hli : image_b.length ≤ 1099511627776 := by omega
  have hnt : txns_n ≤ 1125899906842624 := by omega
  have hnd : dirty_n ≤ 1125899906842624 := by omega
  unfold recF
  by_cases h1 : kind = 1
  · subst h1
    simp only [if_true]
    rw [← eqK_1 txn prev page slot undoNext nextTxn before_used after_used before_data_b after_data_b image_b txns_b dirty_b txns_n dirty_n e1 e2]
    exact specT_1 txn prev page slot before_used before_data_a before_data_c before_data_b after_used after_data_a after_data_c after_data_b undoNext nextTxn txns_e txns_a txns_n txns_c txns_b dirty_e dirty_a dirty_n dirty_c dirty_b image_a image_c image_b w hB.1 hB.2.1 hB.2.2 hli hv.1 hv.2.1 hv.2.2.2.2 hv.2.2.1 hv.2.2.2.1 hnt hnd
  rw [if_neg h1]
  by_cases h2 : kind = 2
  · subst h2
    rw [if_pos rfl]
    rw [← eqK_2 txn prev page slot undoNext nextTxn before_used after_used before_data_b after_data_b image_b txns_b dirty_b txns_n dirty_n e1 e2]
    exact specT_2 txn prev page slot before_used before_data_a before_data_c before_data_b after_used after_data_a after_data_c after_data_b undoNext nextTxn txns_e txns_a txns_n txns_c txns_b dirty_e dirty_a dirty_n dirty_c dirty_b image_a image_c image_b w hB.1 hB.2.1 hB.2.2 hli hv.1 hv.2.1 hv.2.2.2.2 hv.2.2.1 hv.2.2.2.1 hnt hnd
  rw [if_neg h2]
  by_cases h3 : kind = 3
  · subst h3
    rw [if_pos rfl]
    rw [← eqK_3 txn prev page slot undoNext nextTxn before_used after_used before_data_b after_data_b image_b txns_b dirty_b txns_n dirty_n e1 e2]
    exact specT_3 txn prev page slot before_used before_data_a before_data_c before_data_b after_used after_data_a after_data_c after_data_b undoNext nextTxn txns_e txns_a txns_n txns_c txns_b dirty_e dirty_a dirty_n dirty_c dirty_b image_a image_c image_b w hB.1 hB.2.1 hB.2.2 hli hv.1 hv.2.1 hv.2.2.2.2 hv.2.2.1 hv.2.2.2.1 hnt hnd
  rw [if_neg h3]
  by_cases h4 : kind = 4
  · subst h4
    rw [if_pos rfl]
    rw [← eqK_4 txn prev page slot undoNext nextTxn before_used after_used before_data_b after_data_b image_b txns_b dirty_b txns_n dirty_n e1 e2]
    exact specT_4 txn prev page slot before_used before_data_a before_data_c before_data_b after_used after_data_a after_data_c after_data_b undoNext nextTxn txns_e txns_a txns_n txns_c txns_b dirty_e dirty_a dirty_n dirty_c dirty_b image_a image_c image_b w hB.1 hB.2.1 hB.2.2 hli hv.1 hv.2.1 hv.2.2.2.2 hv.2.2.1 hv.2.2.2.1 hnt hnd
  rw [if_neg h4]
  by_cases h5 : kind = 5
  · subst h5
    rw [if_pos rfl]
    rw [← eqK_5 txn prev page slot undoNext nextTxn before_used after_used before_data_b after_data_b image_b txns_b dirty_b txns_n dirty_n e1 e2]
    exact specT_5 txn prev page slot before_used before_data_a before_data_c before_data_b after_used after_data_a after_data_c after_data_b undoNext nextTxn txns_e txns_a txns_n txns_c txns_b dirty_e dirty_a dirty_n dirty_c dirty_b image_a image_c image_b w hB.1 hB.2.1 hB.2.2 hli hv.1 hv.2.1 hv.2.2.2.2 hv.2.2.1 hv.2.2.2.1 hnt hnd
  rw [if_neg h5]
  by_cases h6 : kind = 6
  · subst h6
    rw [if_pos rfl]
    rw [← eqK_6 txn prev page slot undoNext nextTxn before_used after_used before_data_b after_data_b image_b txns_b dirty_b txns_n dirty_n e1 e2]
    exact specT_6 txn prev page slot before_used before_data_a before_data_c before_data_b after_used after_data_a after_data_c after_data_b undoNext nextTxn txns_e txns_a txns_n txns_c txns_b dirty_e dirty_a dirty_n dirty_c dirty_b image_a image_c image_b w hB.1 hB.2.1 hB.2.2 hli hv.1 hv.2.1 hv.2.2.2.2 hv.2.2.1 hv.2.2.2.1 hnt hnd
  rw [if_neg h6]
  by_cases h7 : kind = 7
  · subst h7
    rw [if_pos rfl]
    rw [← eqK_7 txn prev page slot undoNext nextTxn before_used after_used before_data_b after_data_b image_b txns_b dirty_b txns_n dirty_n e1 e2]
    exact specT_7 txn prev page slot before_used before_data_a before_data_c before_data_b after_used after_data_a after_data_c after_data_b undoNext nextTxn txns_e txns_a txns_n txns_c txns_b dirty_e dirty_a dirty_n dirty_c dirty_b image_a image_c image_b w hB.1 hB.2.1 hB.2.2 hli hv.1 hv.2.1 hv.2.2.2.2 hv.2.2.1 hv.2.2.2.1 hnt hnd
  rw [if_neg h7]
  by_cases h8 : kind = 8
  · subst h8
    rw [if_pos rfl]
    rw [← eqK_8 txn prev page slot undoNext nextTxn before_used after_used before_data_b after_data_b image_b txns_b dirty_b txns_n dirty_n e1 e2]
    exact specT_8 txn prev page slot before_used before_data_a before_data_c before_data_b after_used after_data_a after_data_c after_data_b undoNext nextTxn txns_e txns_a txns_n txns_c txns_b dirty_e dirty_a dirty_n dirty_c dirty_b image_a image_c image_b w hB.1 hB.2.1 hB.2.2 hli hv.1 hv.2.1 hv.2.2.2.2 hv.2.2.1 hv.2.2.2.1 hnt hnd
  rw [if_neg h8]
  exact recS_0 kind txn prev page slot before_used before_data_a before_data_c before_data_b after_used after_data_a after_data_c after_data_b undoNext nextTxn txns_e txns_a txns_n txns_c txns_b dirty_e dirty_a dirty_n dirty_c dirty_b image_a image_c image_b w (by unfold inB; simp only [Bool.and_eq_false_iff, decide_eq_false_iff_not]; omega)
end Go.Proofs.Ytclmdpmelifplab
