/-
  The law over RecordFault (by tools/lawgen.py).
-/
import Derived.Test.YtclmdpmelifplabRecLaw
import Derived.Deep.DeepCutAuto
import Derived.Deep.RegionWith
import Derived.Deep.DeepMust
namespace Go.Proofs.Ytclmdpmelifplab
open Go.RowKit
set_option linter.unusedVariables false

set_option maxRecDepth 100000 in
set_option maxHeartbeats 16000000 in
theorem recordFault_law (x0 : StLogRecord) (w : World) (hv0 : StLogRecord.rd w x0) (hB0 : x0.isB) :
    Calls Try.prog 4 #[x0.val] w fun e w' => e = .returned (.bool true) ∧ Same w w' := by
  obtain ⟨p0kind, p0txn, p0prev, p0page, p0slot, ⟨p0before_used, ⟨p0before_data_e, p0before_data_a, p0before_data_c, p0before_data_b⟩⟩, ⟨p0after_used, ⟨p0after_data_e, p0after_data_a, p0after_data_c, p0after_data_b⟩⟩, p0undoNext, p0nextTxn, ⟨p0txns_e, p0txns_a, p0txns_n, p0txns_c, p0txns_b⟩, ⟨p0dirty_e, p0dirty_a, p0dirty_n, p0dirty_c, p0dirty_b⟩, ⟨p0image_e, p0image_a, p0image_c, p0image_b⟩⟩ := x0
  have HV0 := (show Hid (StLogRecord.rd w ⟨p0kind, p0txn, p0prev, p0page, p0slot, ⟨p0before_used, ⟨p0before_data_e, p0before_data_a, p0before_data_c, p0before_data_b⟩⟩, ⟨p0after_used, ⟨p0after_data_e, p0after_data_a, p0after_data_c, p0after_data_b⟩⟩, p0undoNext, p0nextTxn, ⟨p0txns_e, p0txns_a, p0txns_n, p0txns_c, p0txns_b⟩, ⟨p0dirty_e, p0dirty_a, p0dirty_n, p0dirty_c, p0dirty_b⟩, ⟨p0image_e, p0image_a, p0image_c, p0image_b⟩⟩) from hv0)
  clear hv0
  have HB0 := (show Hid (StLogRecord.isB ⟨p0kind, p0txn, p0prev, p0page, p0slot, ⟨p0before_used, ⟨p0before_data_e, p0before_data_a, p0before_data_c, p0before_data_b⟩⟩, ⟨p0after_used, ⟨p0after_data_e, p0after_data_a, p0after_data_c, p0after_data_b⟩⟩, p0undoNext, p0nextTxn, ⟨p0txns_e, p0txns_a, p0txns_n, p0txns_c, p0txns_b⟩, ⟨p0dirty_e, p0dirty_a, p0dirty_n, p0dirty_c, p0dirty_b⟩, ⟨p0image_e, p0image_a, p0image_c, p0image_b⟩⟩) from hB0)
  clear hB0
  dsimp only [StLogRecord.val, StPageRecord.val, BS.v, FR.v]
  go_enter Try.func4, Try.ntmps4
  have HKw : Hid (Same w w) := Kept.refl _ _
  go_wp2_with fail
  refine (szLogRecord_any ⟨p0kind, p0txn, p0prev, p0page, p0slot, ⟨p0before_used, ⟨p0before_data_e, p0before_data_a, p0before_data_c, p0before_data_b⟩⟩, ⟨p0after_used, ⟨p0after_data_e, p0after_data_a, p0after_data_c, p0after_data_b⟩⟩, p0undoNext, p0nextTxn, ⟨p0txns_e, p0txns_a, p0txns_n, p0txns_c, p0txns_b⟩, ⟨p0dirty_e, p0dirty_a, p0dirty_n, p0dirty_c, p0dirty_b⟩, ⟨p0image_e, p0image_a, p0image_c, p0image_b⟩⟩ _ _ (by omega) (by omega) (HV0.out.same ((Kept.refl _ _).alloc _))).mono ?_
  rintro e w1 ⟨sz0, rfl, hr, hk⟩
  have hkk : Same w w1 := ((Kept.refl _ _).alloc _).trans hk
  have hzw1 := hk.size
  rw [World.size_alloc] at hzw1
  have HA0w1 := (show Hid (Blk w1 (w.heap.size) 28 [.int .i64 p0kind, .int .i64 p0txn, .int .i64 p0prev, .int .i64 p0page, .int .i64 p0slot, .bool p0before_used, .slice p0before_data_a p0before_data_b.length p0before_data_c, .bool p0after_used, .slice p0after_data_a p0after_data_b.length p0after_data_c, .int .i64 p0undoNext, .int .i64 p0nextTxn, .slice p0txns_a p0txns_n p0txns_c, .slice p0dirty_a p0dirty_n p0dirty_c, .slice p0image_a p0image_b.length p0image_c]) from (Blk.new w #[.int .i64 p0kind, .int .i64 p0txn, .int .i64 p0prev, .int .i64 p0page, .int .i64 p0slot, .bool p0before_used, .slice p0before_data_a p0before_data_b.length p0before_data_c, .bool p0after_used, .slice p0after_data_a p0after_data_b.length p0after_data_c, .int .i64 p0undoNext, .int .i64 p0nextTxn, .slice p0txns_a p0txns_n p0txns_c, .slice p0dirty_a p0dirty_n p0dirty_c, .slice p0image_a p0image_b.length p0image_c] 28).same hk)
  have HKw1 := (show Hid (Same w w1) from HKw.out.trans hkk)
  clear hkk hk
  rcases hr with rfl | ⟨hr, hr0⟩
  · go_wp2
    go_ret
    exact ⟨rfl, HKw1.out⟩
  have hsz0 : StLogRecord.szs ⟨p0kind, p0txn, p0prev, p0page, p0slot, ⟨p0before_used, ⟨p0before_data_e, p0before_data_a, p0before_data_c, p0before_data_b⟩⟩, ⟨p0after_used, ⟨p0after_data_e, p0after_data_a, p0after_data_c, p0after_data_b⟩⟩, p0undoNext, p0nextTxn, ⟨p0txns_e, p0txns_a, p0txns_n, p0txns_c, p0txns_b⟩, ⟨p0dirty_e, p0dirty_a, p0dirty_n, p0dirty_c, p0dirty_b⟩, ⟨p0image_e, p0image_a, p0image_c, p0image_b⟩⟩ ≤ 1048576 := by omega
  clear hr
  have cA0_0 : w1.cell? ⟨w.heap.size, 0, none⟩ = some (.int .i64 p0kind) := HA0w1.out.cell 0
  have cA0_1 : w1.cell? ⟨w.heap.size, 1, none⟩ = some (.int .i64 p0txn) := HA0w1.out.cell 1
  have cA0_2 : w1.cell? ⟨w.heap.size, 2, none⟩ = some (.int .i64 p0prev) := HA0w1.out.cell 2
  have cA0_3 : w1.cell? ⟨w.heap.size, 3, none⟩ = some (.int .i64 p0page) := HA0w1.out.cell 3
  have cA0_4 : w1.cell? ⟨w.heap.size, 4, none⟩ = some (.int .i64 p0slot) := HA0w1.out.cell 4
  have cA0_5 : w1.cell? ⟨w.heap.size, 5, none⟩ = some (.bool p0before_used) := HA0w1.out.cell 5
  have cA0_6 : w1.cell? ⟨w.heap.size, 6, none⟩ = some (.slice p0before_data_a p0before_data_b.length p0before_data_c) := HA0w1.out.cell 6
  have cA0_7 : w1.cell? ⟨w.heap.size, 7, none⟩ = some (.bool p0after_used) := HA0w1.out.cell 7
  have cA0_8 : w1.cell? ⟨w.heap.size, 8, none⟩ = some (.slice p0after_data_a p0after_data_b.length p0after_data_c) := HA0w1.out.cell 8
  have cA0_9 : w1.cell? ⟨w.heap.size, 9, none⟩ = some (.int .i64 p0undoNext) := HA0w1.out.cell 9
  have cA0_10 : w1.cell? ⟨w.heap.size, 10, none⟩ = some (.int .i64 p0nextTxn) := HA0w1.out.cell 10
  have cA0_11 : w1.cell? ⟨w.heap.size, 11, none⟩ = some (.slice p0txns_a p0txns_n p0txns_c) := HA0w1.out.cell 11
  have cA0_12 : w1.cell? ⟨w.heap.size, 12, none⟩ = some (.slice p0dirty_a p0dirty_n p0dirty_c) := HA0w1.out.cell 12
  have cA0_13 : w1.cell? ⟨w.heap.size, 13, none⟩ = some (.slice p0image_a p0image_b.length p0image_c) := HA0w1.out.cell 13
  have lA0 := HA0w1.out.lt
  go_wp2_with fail
  refine (toLogRecord_any ⟨p0kind, p0txn, p0prev, p0page, p0slot, ⟨p0before_used, ⟨p0before_data_e, p0before_data_a, p0before_data_c, p0before_data_b⟩⟩, ⟨p0after_used, ⟨p0after_data_e, p0after_data_a, p0after_data_c, p0after_data_b⟩⟩, p0undoNext, p0nextTxn, ⟨p0txns_e, p0txns_a, p0txns_n, p0txns_c, p0txns_b⟩, ⟨p0dirty_e, p0dirty_a, p0dirty_n, p0dirty_c, p0dirty_b⟩, ⟨p0image_e, p0image_a, p0image_c, p0image_b⟩⟩ _ (by omega) (HV0.out.same HKw1.out)).mono ?_
  rintro e w2 ⟨⟨C0kind, C0txn, C0prev, C0page, C0slot, ⟨C0before_used, ⟨C0before_data_e, C0before_data_a, C0before_data_c, C0before_data_b⟩⟩, ⟨C0after_used, ⟨C0after_data_e, C0after_data_a, C0after_data_c, C0after_data_b⟩⟩, C0undoNext, C0nextTxn, ⟨C0txns_e, C0txns_a, C0txns_n, C0txns_c, C0txns_b⟩, ⟨C0dirty_e, C0dirty_a, C0dirty_n, C0dirty_c, C0dirty_b⟩, ⟨C0image_e, C0image_a, C0image_c, C0image_b⟩⟩, rfl, hd, hz, hf, ho, hk⟩
  have HCC0 := (show Hid (StLogRecord.dat ⟨C0kind, C0txn, C0prev, C0page, C0slot, ⟨C0before_used, ⟨C0before_data_e, C0before_data_a, C0before_data_c, C0before_data_b⟩⟩, ⟨C0after_used, ⟨C0after_data_e, C0after_data_a, C0after_data_c, C0after_data_b⟩⟩, C0undoNext, C0nextTxn, ⟨C0txns_e, C0txns_a, C0txns_n, C0txns_c, C0txns_b⟩, ⟨C0dirty_e, C0dirty_a, C0dirty_n, C0dirty_c, C0dirty_b⟩, ⟨C0image_e, C0image_a, C0image_c, C0image_b⟩⟩ = StLogRecord.dat ⟨p0kind, p0txn, p0prev, p0page, p0slot, ⟨p0before_used, ⟨p0before_data_e, p0before_data_a, p0before_data_c, p0before_data_b⟩⟩, ⟨p0after_used, ⟨p0after_data_e, p0after_data_a, p0after_data_c, p0after_data_b⟩⟩, p0undoNext, p0nextTxn, ⟨p0txns_e, p0txns_a, p0txns_n, p0txns_c, p0txns_b⟩, ⟨p0dirty_e, p0dirty_a, p0dirty_n, p0dirty_c, p0dirty_b⟩, ⟨p0image_e, p0image_a, p0image_c, p0image_b⟩⟩) from hd)
  have HZC0 := (show Hid (StLogRecord.szs ⟨C0kind, C0txn, C0prev, C0page, C0slot, ⟨C0before_used, ⟨C0before_data_e, C0before_data_a, C0before_data_c, C0before_data_b⟩⟩, ⟨C0after_used, ⟨C0after_data_e, C0after_data_a, C0after_data_c, C0after_data_b⟩⟩, C0undoNext, C0nextTxn, ⟨C0txns_e, C0txns_a, C0txns_n, C0txns_c, C0txns_b⟩, ⟨C0dirty_e, C0dirty_a, C0dirty_n, C0dirty_c, C0dirty_b⟩, ⟨C0image_e, C0image_a, C0image_c, C0image_b⟩⟩ = StLogRecord.szs ⟨p0kind, p0txn, p0prev, p0page, p0slot, ⟨p0before_used, ⟨p0before_data_e, p0before_data_a, p0before_data_c, p0before_data_b⟩⟩, ⟨p0after_used, ⟨p0after_data_e, p0after_data_a, p0after_data_c, p0after_data_b⟩⟩, p0undoNext, p0nextTxn, ⟨p0txns_e, p0txns_a, p0txns_n, p0txns_c, p0txns_b⟩, ⟨p0dirty_e, p0dirty_a, p0dirty_n, p0dirty_c, p0dirty_b⟩, ⟨p0image_e, p0image_a, p0image_c, p0image_b⟩⟩) from hz)
  clear hd hz
  dsimp only [StLogRecord.val, StPageRecord.val, BS.v, FR.v]
  have HFC0 := (show Hid (∀ b, FootL (StLogRecord.rows ⟨C0kind, C0txn, C0prev, C0page, C0slot, ⟨C0before_used, ⟨C0before_data_e, C0before_data_a, C0before_data_c, C0before_data_b⟩⟩, ⟨C0after_used, ⟨C0after_data_e, C0after_data_a, C0after_data_c, C0after_data_b⟩⟩, C0undoNext, C0nextTxn, ⟨C0txns_e, C0txns_a, C0txns_n, C0txns_c, C0txns_b⟩, ⟨C0dirty_e, C0dirty_a, C0dirty_n, C0dirty_c, C0dirty_b⟩, ⟨C0image_e, C0image_a, C0image_c, C0image_b⟩⟩) b → w1.heap.size ≤ b ∧ b < w2.heap.size) from fun b hb => ⟨hf b hb, ho.lt b hb⟩)
  have HC0w2 := (show Hid (OwnL w2 (StLogRecord.rows ⟨C0kind, C0txn, C0prev, C0page, C0slot, ⟨C0before_used, ⟨C0before_data_e, C0before_data_a, C0before_data_c, C0before_data_b⟩⟩, ⟨C0after_used, ⟨C0after_data_e, C0after_data_a, C0after_data_c, C0after_data_b⟩⟩, C0undoNext, C0nextTxn, ⟨C0txns_e, C0txns_a, C0txns_n, C0txns_c, C0txns_b⟩, ⟨C0dirty_e, C0dirty_a, C0dirty_n, C0dirty_c, C0dirty_b⟩, ⟨C0image_e, C0image_a, C0image_c, C0image_b⟩⟩)) from ho)
  clear hf ho
  have hkk : Same w1 w2 := hk
  have hzw2 := hkk.size
  have HA0w2 := (show Hid (Blk w2 (w.heap.size) 28 [.int .i64 p0kind, .int .i64 p0txn, .int .i64 p0prev, .int .i64 p0page, .int .i64 p0slot, .bool p0before_used, .slice p0before_data_a p0before_data_b.length p0before_data_c, .bool p0after_used, .slice p0after_data_a p0after_data_b.length p0after_data_c, .int .i64 p0undoNext, .int .i64 p0nextTxn, .slice p0txns_a p0txns_n p0txns_c, .slice p0dirty_a p0dirty_n p0dirty_c, .slice p0image_a p0image_b.length p0image_c]) from HA0w1.out.same hkk)
  have HKw2 := (show Hid (Same w w2) from HKw1.out.trans hkk)
  clear hkk hk
  clear cA0_0 cA0_1 cA0_2 cA0_3 cA0_4 cA0_5 cA0_6 cA0_7 cA0_8 cA0_9 cA0_10 cA0_11 cA0_12 cA0_13 lA0
  have cA0_0 : w2.cell? ⟨w.heap.size, 0, none⟩ = some (.int .i64 p0kind) := HA0w2.out.cell 0
  have cA0_1 : w2.cell? ⟨w.heap.size, 1, none⟩ = some (.int .i64 p0txn) := HA0w2.out.cell 1
  have cA0_2 : w2.cell? ⟨w.heap.size, 2, none⟩ = some (.int .i64 p0prev) := HA0w2.out.cell 2
  have cA0_3 : w2.cell? ⟨w.heap.size, 3, none⟩ = some (.int .i64 p0page) := HA0w2.out.cell 3
  have cA0_4 : w2.cell? ⟨w.heap.size, 4, none⟩ = some (.int .i64 p0slot) := HA0w2.out.cell 4
  have cA0_5 : w2.cell? ⟨w.heap.size, 5, none⟩ = some (.bool p0before_used) := HA0w2.out.cell 5
  have cA0_6 : w2.cell? ⟨w.heap.size, 6, none⟩ = some (.slice p0before_data_a p0before_data_b.length p0before_data_c) := HA0w2.out.cell 6
  have cA0_7 : w2.cell? ⟨w.heap.size, 7, none⟩ = some (.bool p0after_used) := HA0w2.out.cell 7
  have cA0_8 : w2.cell? ⟨w.heap.size, 8, none⟩ = some (.slice p0after_data_a p0after_data_b.length p0after_data_c) := HA0w2.out.cell 8
  have cA0_9 : w2.cell? ⟨w.heap.size, 9, none⟩ = some (.int .i64 p0undoNext) := HA0w2.out.cell 9
  have cA0_10 : w2.cell? ⟨w.heap.size, 10, none⟩ = some (.int .i64 p0nextTxn) := HA0w2.out.cell 10
  have cA0_11 : w2.cell? ⟨w.heap.size, 11, none⟩ = some (.slice p0txns_a p0txns_n p0txns_c) := HA0w2.out.cell 11
  have cA0_12 : w2.cell? ⟨w.heap.size, 12, none⟩ = some (.slice p0dirty_a p0dirty_n p0dirty_c) := HA0w2.out.cell 12
  have cA0_13 : w2.cell? ⟨w.heap.size, 13, none⟩ = some (.slice p0image_a p0image_b.length p0image_c) := HA0w2.out.cell 13
  have lA0 := HA0w2.out.lt
  go_wp2_with fail
  refine (specRec_any ⟨C0kind, C0txn, C0prev, C0page, C0slot, ⟨C0before_used, ⟨C0before_data_e, C0before_data_a, C0before_data_c, C0before_data_b⟩⟩, ⟨C0after_used, ⟨C0after_data_e, C0after_data_a, C0after_data_c, C0after_data_b⟩⟩, C0undoNext, C0nextTxn, ⟨C0txns_e, C0txns_a, C0txns_n, C0txns_c, C0txns_b⟩, ⟨C0dirty_e, C0dirty_a, C0dirty_n, C0dirty_c, C0dirty_b⟩, ⟨C0image_e, C0image_a, C0image_c, C0image_b⟩⟩ _ (StLogRecord.isB_dat HCC0.out HB0.out) (by have := HZC0.out; omega) (StLogRecord.own_rd HC0w2.out)).mono ?_
  rintro e w3 ⟨rfl, hk⟩
  rw [HCC0.out]
  obtain ⟨r0, hR⟩ : ∃ r, recFd (StLogRecord.dat ⟨p0kind, p0txn, p0prev, p0page, p0slot, ⟨p0before_used, ⟨p0before_data_e, p0before_data_a, p0before_data_c, p0before_data_b⟩⟩, ⟨p0after_used, ⟨p0after_data_e, p0after_data_a, p0after_data_c, p0after_data_b⟩⟩, p0undoNext, p0nextTxn, ⟨p0txns_e, p0txns_a, p0txns_n, p0txns_c, p0txns_b⟩, ⟨p0dirty_e, p0dirty_a, p0dirty_n, p0dirty_c, p0dirty_b⟩, ⟨p0image_e, p0image_a, p0image_c, p0image_b⟩⟩) = r := ⟨_, rfl⟩
  have HR : Hid (recFd (StLogRecord.dat ⟨p0kind, p0txn, p0prev, p0page, p0slot, ⟨p0before_used, ⟨p0before_data_e, p0before_data_a, p0before_data_c, p0before_data_b⟩⟩, ⟨p0after_used, ⟨p0after_data_e, p0after_data_a, p0after_data_c, p0after_data_b⟩⟩, p0undoNext, p0nextTxn, ⟨p0txns_e, p0txns_a, p0txns_n, p0txns_c, p0txns_b⟩, ⟨p0dirty_e, p0dirty_a, p0dirty_n, p0dirty_c, p0dirty_b⟩, ⟨p0image_e, p0image_a, p0image_c, p0image_b⟩⟩) = r0) := hR
  clear hR
  rw [HR.out]
  have hkk : Same w2 w3 := hk
  have hzw3 := hkk.size
  have HA0w3 := (show Hid (Blk w3 (w.heap.size) 28 [.int .i64 p0kind, .int .i64 p0txn, .int .i64 p0prev, .int .i64 p0page, .int .i64 p0slot, .bool p0before_used, .slice p0before_data_a p0before_data_b.length p0before_data_c, .bool p0after_used, .slice p0after_data_a p0after_data_b.length p0after_data_c, .int .i64 p0undoNext, .int .i64 p0nextTxn, .slice p0txns_a p0txns_n p0txns_c, .slice p0dirty_a p0dirty_n p0dirty_c, .slice p0image_a p0image_b.length p0image_c]) from HA0w2.out.same hkk)
  have HC0w3 := (show Hid (OwnL w3 (StLogRecord.rows ⟨C0kind, C0txn, C0prev, C0page, C0slot, ⟨C0before_used, ⟨C0before_data_e, C0before_data_a, C0before_data_c, C0before_data_b⟩⟩, ⟨C0after_used, ⟨C0after_data_e, C0after_data_a, C0after_data_c, C0after_data_b⟩⟩, C0undoNext, C0nextTxn, ⟨C0txns_e, C0txns_a, C0txns_n, C0txns_c, C0txns_b⟩, ⟨C0dirty_e, C0dirty_a, C0dirty_n, C0dirty_c, C0dirty_b⟩, ⟨C0image_e, C0image_a, C0image_c, C0image_b⟩⟩)) from HC0w2.out.same hkk)
  have HKw3 := (show Hid (Same w w3) from HKw2.out.trans hkk)
  clear hkk hk
  clear cA0_0 cA0_1 cA0_2 cA0_3 cA0_4 cA0_5 cA0_6 cA0_7 cA0_8 cA0_9 cA0_10 cA0_11 cA0_12 cA0_13 lA0
  have cA0_0 : w3.cell? ⟨w.heap.size, 0, none⟩ = some (.int .i64 p0kind) := HA0w3.out.cell 0
  have cA0_1 : w3.cell? ⟨w.heap.size, 1, none⟩ = some (.int .i64 p0txn) := HA0w3.out.cell 1
  have cA0_2 : w3.cell? ⟨w.heap.size, 2, none⟩ = some (.int .i64 p0prev) := HA0w3.out.cell 2
  have cA0_3 : w3.cell? ⟨w.heap.size, 3, none⟩ = some (.int .i64 p0page) := HA0w3.out.cell 3
  have cA0_4 : w3.cell? ⟨w.heap.size, 4, none⟩ = some (.int .i64 p0slot) := HA0w3.out.cell 4
  have cA0_5 : w3.cell? ⟨w.heap.size, 5, none⟩ = some (.bool p0before_used) := HA0w3.out.cell 5
  have cA0_6 : w3.cell? ⟨w.heap.size, 6, none⟩ = some (.slice p0before_data_a p0before_data_b.length p0before_data_c) := HA0w3.out.cell 6
  have cA0_7 : w3.cell? ⟨w.heap.size, 7, none⟩ = some (.bool p0after_used) := HA0w3.out.cell 7
  have cA0_8 : w3.cell? ⟨w.heap.size, 8, none⟩ = some (.slice p0after_data_a p0after_data_b.length p0after_data_c) := HA0w3.out.cell 8
  have cA0_9 : w3.cell? ⟨w.heap.size, 9, none⟩ = some (.int .i64 p0undoNext) := HA0w3.out.cell 9
  have cA0_10 : w3.cell? ⟨w.heap.size, 10, none⟩ = some (.int .i64 p0nextTxn) := HA0w3.out.cell 10
  have cA0_11 : w3.cell? ⟨w.heap.size, 11, none⟩ = some (.slice p0txns_a p0txns_n p0txns_c) := HA0w3.out.cell 11
  have cA0_12 : w3.cell? ⟨w.heap.size, 12, none⟩ = some (.slice p0dirty_a p0dirty_n p0dirty_c) := HA0w3.out.cell 12
  have cA0_13 : w3.cell? ⟨w.heap.size, 13, none⟩ = some (.slice p0image_a p0image_b.length p0image_c) := HA0w3.out.cell 13
  have lA0 := HA0w3.out.lt
  go_wp2_with fail
  refine (toLogRecord_any ⟨p0kind, p0txn, p0prev, p0page, p0slot, ⟨p0before_used, ⟨p0before_data_e, p0before_data_a, p0before_data_c, p0before_data_b⟩⟩, ⟨p0after_used, ⟨p0after_data_e, p0after_data_a, p0after_data_c, p0after_data_b⟩⟩, p0undoNext, p0nextTxn, ⟨p0txns_e, p0txns_a, p0txns_n, p0txns_c, p0txns_b⟩, ⟨p0dirty_e, p0dirty_a, p0dirty_n, p0dirty_c, p0dirty_b⟩, ⟨p0image_e, p0image_a, p0image_c, p0image_b⟩⟩ _ (by omega) (HV0.out.same HKw3.out)).mono ?_
  rintro e w4 ⟨⟨X0kind, X0txn, X0prev, X0page, X0slot, ⟨X0before_used, ⟨X0before_data_e, X0before_data_a, X0before_data_c, X0before_data_b⟩⟩, ⟨X0after_used, ⟨X0after_data_e, X0after_data_a, X0after_data_c, X0after_data_b⟩⟩, X0undoNext, X0nextTxn, ⟨X0txns_e, X0txns_a, X0txns_n, X0txns_c, X0txns_b⟩, ⟨X0dirty_e, X0dirty_a, X0dirty_n, X0dirty_c, X0dirty_b⟩, ⟨X0image_e, X0image_a, X0image_c, X0image_b⟩⟩, rfl, hd, hz, hf, ho, hk⟩
  have HCX0 := (show Hid (StLogRecord.dat ⟨X0kind, X0txn, X0prev, X0page, X0slot, ⟨X0before_used, ⟨X0before_data_e, X0before_data_a, X0before_data_c, X0before_data_b⟩⟩, ⟨X0after_used, ⟨X0after_data_e, X0after_data_a, X0after_data_c, X0after_data_b⟩⟩, X0undoNext, X0nextTxn, ⟨X0txns_e, X0txns_a, X0txns_n, X0txns_c, X0txns_b⟩, ⟨X0dirty_e, X0dirty_a, X0dirty_n, X0dirty_c, X0dirty_b⟩, ⟨X0image_e, X0image_a, X0image_c, X0image_b⟩⟩ = StLogRecord.dat ⟨p0kind, p0txn, p0prev, p0page, p0slot, ⟨p0before_used, ⟨p0before_data_e, p0before_data_a, p0before_data_c, p0before_data_b⟩⟩, ⟨p0after_used, ⟨p0after_data_e, p0after_data_a, p0after_data_c, p0after_data_b⟩⟩, p0undoNext, p0nextTxn, ⟨p0txns_e, p0txns_a, p0txns_n, p0txns_c, p0txns_b⟩, ⟨p0dirty_e, p0dirty_a, p0dirty_n, p0dirty_c, p0dirty_b⟩, ⟨p0image_e, p0image_a, p0image_c, p0image_b⟩⟩) from hd)
  have HZX0 := (show Hid (StLogRecord.szs ⟨X0kind, X0txn, X0prev, X0page, X0slot, ⟨X0before_used, ⟨X0before_data_e, X0before_data_a, X0before_data_c, X0before_data_b⟩⟩, ⟨X0after_used, ⟨X0after_data_e, X0after_data_a, X0after_data_c, X0after_data_b⟩⟩, X0undoNext, X0nextTxn, ⟨X0txns_e, X0txns_a, X0txns_n, X0txns_c, X0txns_b⟩, ⟨X0dirty_e, X0dirty_a, X0dirty_n, X0dirty_c, X0dirty_b⟩, ⟨X0image_e, X0image_a, X0image_c, X0image_b⟩⟩ = StLogRecord.szs ⟨p0kind, p0txn, p0prev, p0page, p0slot, ⟨p0before_used, ⟨p0before_data_e, p0before_data_a, p0before_data_c, p0before_data_b⟩⟩, ⟨p0after_used, ⟨p0after_data_e, p0after_data_a, p0after_data_c, p0after_data_b⟩⟩, p0undoNext, p0nextTxn, ⟨p0txns_e, p0txns_a, p0txns_n, p0txns_c, p0txns_b⟩, ⟨p0dirty_e, p0dirty_a, p0dirty_n, p0dirty_c, p0dirty_b⟩, ⟨p0image_e, p0image_a, p0image_c, p0image_b⟩⟩) from hz)
  clear hd hz
  dsimp only [StLogRecord.val, StPageRecord.val, BS.v, FR.v]
  have HFX0 := (show Hid (∀ b, FootL (StLogRecord.rows ⟨X0kind, X0txn, X0prev, X0page, X0slot, ⟨X0before_used, ⟨X0before_data_e, X0before_data_a, X0before_data_c, X0before_data_b⟩⟩, ⟨X0after_used, ⟨X0after_data_e, X0after_data_a, X0after_data_c, X0after_data_b⟩⟩, X0undoNext, X0nextTxn, ⟨X0txns_e, X0txns_a, X0txns_n, X0txns_c, X0txns_b⟩, ⟨X0dirty_e, X0dirty_a, X0dirty_n, X0dirty_c, X0dirty_b⟩, ⟨X0image_e, X0image_a, X0image_c, X0image_b⟩⟩) b → w3.heap.size ≤ b ∧ b < w4.heap.size) from fun b hb => ⟨hf b hb, ho.lt b hb⟩)
  have HX0w4 := (show Hid (OwnL w4 (StLogRecord.rows ⟨X0kind, X0txn, X0prev, X0page, X0slot, ⟨X0before_used, ⟨X0before_data_e, X0before_data_a, X0before_data_c, X0before_data_b⟩⟩, ⟨X0after_used, ⟨X0after_data_e, X0after_data_a, X0after_data_c, X0after_data_b⟩⟩, X0undoNext, X0nextTxn, ⟨X0txns_e, X0txns_a, X0txns_n, X0txns_c, X0txns_b⟩, ⟨X0dirty_e, X0dirty_a, X0dirty_n, X0dirty_c, X0dirty_b⟩, ⟨X0image_e, X0image_a, X0image_c, X0image_b⟩⟩)) from ho)
  clear hf ho
  have hkk : Same w3 w4 := hk
  have hzw4 := hkk.size
  have HA0w4 := (show Hid (Blk w4 (w.heap.size) 28 [.int .i64 p0kind, .int .i64 p0txn, .int .i64 p0prev, .int .i64 p0page, .int .i64 p0slot, .bool p0before_used, .slice p0before_data_a p0before_data_b.length p0before_data_c, .bool p0after_used, .slice p0after_data_a p0after_data_b.length p0after_data_c, .int .i64 p0undoNext, .int .i64 p0nextTxn, .slice p0txns_a p0txns_n p0txns_c, .slice p0dirty_a p0dirty_n p0dirty_c, .slice p0image_a p0image_b.length p0image_c]) from HA0w3.out.same hkk)
  have HKw4 := (show Hid (Same w w4) from HKw3.out.trans hkk)
  clear hkk hk
  clear cA0_0 cA0_1 cA0_2 cA0_3 cA0_4 cA0_5 cA0_6 cA0_7 cA0_8 cA0_9 cA0_10 cA0_11 cA0_12 cA0_13 lA0
  have cA0_0 : w4.cell? ⟨w.heap.size, 0, none⟩ = some (.int .i64 p0kind) := HA0w4.out.cell 0
  have cA0_1 : w4.cell? ⟨w.heap.size, 1, none⟩ = some (.int .i64 p0txn) := HA0w4.out.cell 1
  have cA0_2 : w4.cell? ⟨w.heap.size, 2, none⟩ = some (.int .i64 p0prev) := HA0w4.out.cell 2
  have cA0_3 : w4.cell? ⟨w.heap.size, 3, none⟩ = some (.int .i64 p0page) := HA0w4.out.cell 3
  have cA0_4 : w4.cell? ⟨w.heap.size, 4, none⟩ = some (.int .i64 p0slot) := HA0w4.out.cell 4
  have cA0_5 : w4.cell? ⟨w.heap.size, 5, none⟩ = some (.bool p0before_used) := HA0w4.out.cell 5
  have cA0_6 : w4.cell? ⟨w.heap.size, 6, none⟩ = some (.slice p0before_data_a p0before_data_b.length p0before_data_c) := HA0w4.out.cell 6
  have cA0_7 : w4.cell? ⟨w.heap.size, 7, none⟩ = some (.bool p0after_used) := HA0w4.out.cell 7
  have cA0_8 : w4.cell? ⟨w.heap.size, 8, none⟩ = some (.slice p0after_data_a p0after_data_b.length p0after_data_c) := HA0w4.out.cell 8
  have cA0_9 : w4.cell? ⟨w.heap.size, 9, none⟩ = some (.int .i64 p0undoNext) := HA0w4.out.cell 9
  have cA0_10 : w4.cell? ⟨w.heap.size, 10, none⟩ = some (.int .i64 p0nextTxn) := HA0w4.out.cell 10
  have cA0_11 : w4.cell? ⟨w.heap.size, 11, none⟩ = some (.slice p0txns_a p0txns_n p0txns_c) := HA0w4.out.cell 11
  have cA0_12 : w4.cell? ⟨w.heap.size, 12, none⟩ = some (.slice p0dirty_a p0dirty_n p0dirty_c) := HA0w4.out.cell 12
  have cA0_13 : w4.cell? ⟨w.heap.size, 13, none⟩ = some (.slice p0image_a p0image_b.length p0image_c) := HA0w4.out.cell 13
  have lA0 := HA0w4.out.lt
  go_wp2_with fail
  refine (implRec_any ⟨X0kind, X0txn, X0prev, X0page, X0slot, ⟨X0before_used, ⟨X0before_data_e, X0before_data_a, X0before_data_c, X0before_data_b⟩⟩, ⟨X0after_used, ⟨X0after_data_e, X0after_data_a, X0after_data_c, X0after_data_b⟩⟩, X0undoNext, X0nextTxn, ⟨X0txns_e, X0txns_a, X0txns_n, X0txns_c, X0txns_b⟩, ⟨X0dirty_e, X0dirty_a, X0dirty_n, X0dirty_c, X0dirty_b⟩, ⟨X0image_e, X0image_a, X0image_c, X0image_b⟩⟩ _ (StLogRecord.isB_dat HCX0.out HB0.out) (by have := HZX0.out; omega) (StLogRecord.own_rd (HX0w4.out.same ((Kept.refl _ _).alloc _)))).mono ?_
  rintro e w5 ⟨rfl, hk⟩
  rw [HCX0.out]
  rw [HR.out]
  have hkk : Same w4 w5 := ((Kept.refl _ _).alloc _).trans hk
  have hzw5 := hk.size
  rw [World.size_alloc] at hzw5
  have HA0w5 := (show Hid (Blk w5 (w.heap.size) 28 [.int .i64 p0kind, .int .i64 p0txn, .int .i64 p0prev, .int .i64 p0page, .int .i64 p0slot, .bool p0before_used, .slice p0before_data_a p0before_data_b.length p0before_data_c, .bool p0after_used, .slice p0after_data_a p0after_data_b.length p0after_data_c, .int .i64 p0undoNext, .int .i64 p0nextTxn, .slice p0txns_a p0txns_n p0txns_c, .slice p0dirty_a p0dirty_n p0dirty_c, .slice p0image_a p0image_b.length p0image_c]) from HA0w4.out.same hkk)
  have HX0w5 := (show Hid (OwnL w5 (StLogRecord.rows ⟨X0kind, X0txn, X0prev, X0page, X0slot, ⟨X0before_used, ⟨X0before_data_e, X0before_data_a, X0before_data_c, X0before_data_b⟩⟩, ⟨X0after_used, ⟨X0after_data_e, X0after_data_a, X0after_data_c, X0after_data_b⟩⟩, X0undoNext, X0nextTxn, ⟨X0txns_e, X0txns_a, X0txns_n, X0txns_c, X0txns_b⟩, ⟨X0dirty_e, X0dirty_a, X0dirty_n, X0dirty_c, X0dirty_b⟩, ⟨X0image_e, X0image_a, X0image_c, X0image_b⟩⟩)) from HX0w4.out.same hkk)
  have HT0w5 := (show Hid (Blk w5 (w4.heap.size) 35 [.int .i64 X0kind, .int .i64 X0txn, .int .i64 X0prev, .int .i64 X0page, .int .i64 X0slot, .bool X0before_used, .slice X0before_data_a X0before_data_b.length X0before_data_c, .bool X0after_used, .slice X0after_data_a X0after_data_b.length X0after_data_c, .int .i64 X0undoNext, .int .i64 X0nextTxn, .slice X0txns_a X0txns_n X0txns_c, .slice X0dirty_a X0dirty_n X0dirty_c, .slice X0image_a X0image_b.length X0image_c]) from (Blk.new w4 #[.int .i64 X0kind, .int .i64 X0txn, .int .i64 X0prev, .int .i64 X0page, .int .i64 X0slot, .bool X0before_used, .slice X0before_data_a X0before_data_b.length X0before_data_c, .bool X0after_used, .slice X0after_data_a X0after_data_b.length X0after_data_c, .int .i64 X0undoNext, .int .i64 X0nextTxn, .slice X0txns_a X0txns_n X0txns_c, .slice X0dirty_a X0dirty_n X0dirty_c, .slice X0image_a X0image_b.length X0image_c] 35).same hk)
  have HKw5 := (show Hid (Same w w5) from HKw4.out.trans hkk)
  clear hkk hk
  clear cA0_0 cA0_1 cA0_2 cA0_3 cA0_4 cA0_5 cA0_6 cA0_7 cA0_8 cA0_9 cA0_10 cA0_11 cA0_12 cA0_13 lA0
  have cA0_0 : w5.cell? ⟨w.heap.size, 0, none⟩ = some (.int .i64 p0kind) := HA0w5.out.cell 0
  have cA0_1 : w5.cell? ⟨w.heap.size, 1, none⟩ = some (.int .i64 p0txn) := HA0w5.out.cell 1
  have cA0_2 : w5.cell? ⟨w.heap.size, 2, none⟩ = some (.int .i64 p0prev) := HA0w5.out.cell 2
  have cA0_3 : w5.cell? ⟨w.heap.size, 3, none⟩ = some (.int .i64 p0page) := HA0w5.out.cell 3
  have cA0_4 : w5.cell? ⟨w.heap.size, 4, none⟩ = some (.int .i64 p0slot) := HA0w5.out.cell 4
  have cA0_5 : w5.cell? ⟨w.heap.size, 5, none⟩ = some (.bool p0before_used) := HA0w5.out.cell 5
  have cA0_6 : w5.cell? ⟨w.heap.size, 6, none⟩ = some (.slice p0before_data_a p0before_data_b.length p0before_data_c) := HA0w5.out.cell 6
  have cA0_7 : w5.cell? ⟨w.heap.size, 7, none⟩ = some (.bool p0after_used) := HA0w5.out.cell 7
  have cA0_8 : w5.cell? ⟨w.heap.size, 8, none⟩ = some (.slice p0after_data_a p0after_data_b.length p0after_data_c) := HA0w5.out.cell 8
  have cA0_9 : w5.cell? ⟨w.heap.size, 9, none⟩ = some (.int .i64 p0undoNext) := HA0w5.out.cell 9
  have cA0_10 : w5.cell? ⟨w.heap.size, 10, none⟩ = some (.int .i64 p0nextTxn) := HA0w5.out.cell 10
  have cA0_11 : w5.cell? ⟨w.heap.size, 11, none⟩ = some (.slice p0txns_a p0txns_n p0txns_c) := HA0w5.out.cell 11
  have cA0_12 : w5.cell? ⟨w.heap.size, 12, none⟩ = some (.slice p0dirty_a p0dirty_n p0dirty_c) := HA0w5.out.cell 12
  have cA0_13 : w5.cell? ⟨w.heap.size, 13, none⟩ = some (.slice p0image_a p0image_b.length p0image_c) := HA0w5.out.cell 13
  have lA0 := HA0w5.out.lt
  have cT0_0 : w5.cell? ⟨w4.heap.size, 0, none⟩ = some (.int .i64 X0kind) := HT0w5.out.cell 0
  have cT0_1 : w5.cell? ⟨w4.heap.size, 1, none⟩ = some (.int .i64 X0txn) := HT0w5.out.cell 1
  have cT0_2 : w5.cell? ⟨w4.heap.size, 2, none⟩ = some (.int .i64 X0prev) := HT0w5.out.cell 2
  have cT0_3 : w5.cell? ⟨w4.heap.size, 3, none⟩ = some (.int .i64 X0page) := HT0w5.out.cell 3
  have cT0_4 : w5.cell? ⟨w4.heap.size, 4, none⟩ = some (.int .i64 X0slot) := HT0w5.out.cell 4
  have cT0_5 : w5.cell? ⟨w4.heap.size, 5, none⟩ = some (.bool X0before_used) := HT0w5.out.cell 5
  have cT0_6 : w5.cell? ⟨w4.heap.size, 6, none⟩ = some (.slice X0before_data_a X0before_data_b.length X0before_data_c) := HT0w5.out.cell 6
  have cT0_7 : w5.cell? ⟨w4.heap.size, 7, none⟩ = some (.bool X0after_used) := HT0w5.out.cell 7
  have cT0_8 : w5.cell? ⟨w4.heap.size, 8, none⟩ = some (.slice X0after_data_a X0after_data_b.length X0after_data_c) := HT0w5.out.cell 8
  have cT0_9 : w5.cell? ⟨w4.heap.size, 9, none⟩ = some (.int .i64 X0undoNext) := HT0w5.out.cell 9
  have cT0_10 : w5.cell? ⟨w4.heap.size, 10, none⟩ = some (.int .i64 X0nextTxn) := HT0w5.out.cell 10
  have cT0_11 : w5.cell? ⟨w4.heap.size, 11, none⟩ = some (.slice X0txns_a X0txns_n X0txns_c) := HT0w5.out.cell 11
  have cT0_12 : w5.cell? ⟨w4.heap.size, 12, none⟩ = some (.slice X0dirty_a X0dirty_n X0dirty_c) := HT0w5.out.cell 12
  have cT0_13 : w5.cell? ⟨w4.heap.size, 13, none⟩ = some (.slice X0image_a X0image_b.length X0image_c) := HT0w5.out.cell 13
  have lT0 := HT0w5.out.lt
  go_wp2_with fail
  go_cut [26] (fun v wc => v = .bool false ∧ Hid (Same w5 wc))
  case first =>
    have HD1 : Hid (Same w w5.drew) := HKw5.out.drew
    have HD2 : Hid (Same w5 w5.drew) := (Kept.refl _ _).drew
    go_region_with (first | (go_at_call 8; refine (toLogRecord_any ⟨p0kind, p0txn, p0prev, p0page, p0slot, ⟨p0before_used, ⟨p0before_data_e, p0before_data_a, p0before_data_c, p0before_data_b⟩⟩, ⟨p0after_used, ⟨p0after_data_e, p0after_data_a, p0after_data_c, p0after_data_b⟩⟩, p0undoNext, p0nextTxn, ⟨p0txns_e, p0txns_a, p0txns_n, p0txns_c, p0txns_b⟩, ⟨p0dirty_e, p0dirty_a, p0dirty_n, p0dirty_c, p0dirty_b⟩, ⟨p0image_e, p0image_a, p0image_c, p0image_b⟩⟩ _ (by omega) (by exact HV0.out.same HD1.out)).mono ?_; rintro e wx7 ⟨⟨zkind, ztxn, zprev, zpage, zslot, ⟨zbefore_used, ⟨zbefore_data_e, zbefore_data_a, zbefore_data_c, zbefore_data_b⟩⟩, ⟨zafter_used, ⟨zafter_data_e, zafter_data_a, zafter_data_c, zafter_data_b⟩⟩, zundoNext, znextTxn, ⟨ztxns_e, ztxns_a, ztxns_n, ztxns_c, ztxns_b⟩, ⟨zdirty_e, zdirty_a, zdirty_n, zdirty_c, zdirty_b⟩, ⟨zimage_e, zimage_a, zimage_c, zimage_b⟩⟩, rfl, hd7, _, hf7, ho7, hk7⟩; have HO7 := (show Hid (OwnL wx7 (StLogRecord.rows ⟨zkind, ztxn, zprev, zpage, zslot, ⟨zbefore_used, ⟨zbefore_data_e, zbefore_data_a, zbefore_data_c, zbefore_data_b⟩⟩, ⟨zafter_used, ⟨zafter_data_e, zafter_data_a, zafter_data_c, zafter_data_b⟩⟩, zundoNext, znextTxn, ⟨ztxns_e, ztxns_a, ztxns_n, ztxns_c, ztxns_b⟩, ⟨zdirty_e, zdirty_a, zdirty_n, zdirty_c, zdirty_b⟩, ⟨zimage_e, zimage_a, zimage_c, zimage_b⟩⟩)) from ho7); have HQ7 := (show Hid (StLogRecord.dat ⟨zkind, ztxn, zprev, zpage, zslot, ⟨zbefore_used, ⟨zbefore_data_e, zbefore_data_a, zbefore_data_c, zbefore_data_b⟩⟩, ⟨zafter_used, ⟨zafter_data_e, zafter_data_a, zafter_data_c, zafter_data_b⟩⟩, zundoNext, znextTxn, ⟨ztxns_e, ztxns_a, ztxns_n, ztxns_c, ztxns_b⟩, ⟨zdirty_e, zdirty_a, zdirty_n, zdirty_c, zdirty_b⟩, ⟨zimage_e, zimage_a, zimage_c, zimage_b⟩⟩ = StLogRecord.dat ⟨p0kind, p0txn, p0prev, p0page, p0slot, ⟨p0before_used, ⟨p0before_data_e, p0before_data_a, p0before_data_c, p0before_data_b⟩⟩, ⟨p0after_used, ⟨p0after_data_e, p0after_data_a, p0after_data_c, p0after_data_b⟩⟩, p0undoNext, p0nextTxn, ⟨p0txns_e, p0txns_a, p0txns_n, p0txns_c, p0txns_b⟩, ⟨p0dirty_e, p0dirty_a, p0dirty_n, p0dirty_c, p0dirty_b⟩, ⟨p0image_e, p0image_a, p0image_c, p0image_b⟩⟩) from hd7); have HK7 : Hid (Same w5 wx7) := HD2.out.trans hk7; clear ho7 hd7 hf7 hk7; dsimp only [StLogRecord.val, StPageRecord.val, BS.v, FR.v]; have y0 : wx7.cell? ⟨w4.heap.size, 0, none⟩ = some (.int .i64 X0kind) := (HT0w5.out.same HK7.out).cell 0; have y1 : wx7.cell? ⟨w4.heap.size, 1, none⟩ = some (.int .i64 X0txn) := (HT0w5.out.same HK7.out).cell 1; have y2 : wx7.cell? ⟨w4.heap.size, 2, none⟩ = some (.int .i64 X0prev) := (HT0w5.out.same HK7.out).cell 2; have y3 : wx7.cell? ⟨w4.heap.size, 3, none⟩ = some (.int .i64 X0page) := (HT0w5.out.same HK7.out).cell 3; have y4 : wx7.cell? ⟨w4.heap.size, 4, none⟩ = some (.int .i64 X0slot) := (HT0w5.out.same HK7.out).cell 4; have y5 : wx7.cell? ⟨w4.heap.size, 5, none⟩ = some (.bool X0before_used) := (HT0w5.out.same HK7.out).cell 5; have y6 : wx7.cell? ⟨w4.heap.size, 6, none⟩ = some (.slice X0before_data_a X0before_data_b.length X0before_data_c) := (HT0w5.out.same HK7.out).cell 6; have y7 : wx7.cell? ⟨w4.heap.size, 7, none⟩ = some (.bool X0after_used) := (HT0w5.out.same HK7.out).cell 7; have y8 : wx7.cell? ⟨w4.heap.size, 8, none⟩ = some (.slice X0after_data_a X0after_data_b.length X0after_data_c) := (HT0w5.out.same HK7.out).cell 8; have y9 : wx7.cell? ⟨w4.heap.size, 9, none⟩ = some (.int .i64 X0undoNext) := (HT0w5.out.same HK7.out).cell 9; have y10 : wx7.cell? ⟨w4.heap.size, 10, none⟩ = some (.int .i64 X0nextTxn) := (HT0w5.out.same HK7.out).cell 10; have y11 : wx7.cell? ⟨w4.heap.size, 11, none⟩ = some (.slice X0txns_a X0txns_n X0txns_c) := (HT0w5.out.same HK7.out).cell 11; have y12 : wx7.cell? ⟨w4.heap.size, 12, none⟩ = some (.slice X0dirty_a X0dirty_n X0dirty_c) := (HT0w5.out.same HK7.out).cell 12; have y13 : wx7.cell? ⟨w4.heap.size, 13, none⟩ = some (.slice X0image_a X0image_b.length X0image_c) := (HT0w5.out.same HK7.out).cell 13) | (go_at_call 10; refine (eqLogRecord_own ⟨X0kind, X0txn, X0prev, X0page, X0slot, ⟨X0before_used, ⟨X0before_data_e, X0before_data_a, X0before_data_c, X0before_data_b⟩⟩, ⟨X0after_used, ⟨X0after_data_e, X0after_data_a, X0after_data_c, X0after_data_b⟩⟩, X0undoNext, X0nextTxn, ⟨X0txns_e, X0txns_a, X0txns_n, X0txns_c, X0txns_b⟩, ⟨X0dirty_e, X0dirty_a, X0dirty_n, X0dirty_c, X0dirty_b⟩, ⟨X0image_e, X0image_a, X0image_c, X0image_b⟩⟩ ⟨zkind, ztxn, zprev, zpage, zslot, ⟨zbefore_used, ⟨zbefore_data_e, zbefore_data_a, zbefore_data_c, zbefore_data_b⟩⟩, ⟨zafter_used, ⟨zafter_data_e, zafter_data_a, zafter_data_c, zafter_data_b⟩⟩, zundoNext, znextTxn, ⟨ztxns_e, ztxns_a, ztxns_n, ztxns_c, ztxns_b⟩, ⟨zdirty_e, zdirty_a, zdirty_n, zdirty_c, zdirty_b⟩, ⟨zimage_e, zimage_a, zimage_c, zimage_b⟩⟩ _ (by have h1 := StLogRecord.size_rd (StLogRecord.own_rd HX0w5.out); have h2 := HZX0.out; omega) (HCX0.out.trans HQ7.out.symm) (HX0w5.out.same HK7.out) HO7.out).mono ?_; rintro e wx8 ⟨rfl, hk8⟩))
    all_goals
      have HK8 : Hid (Same w5 wx8) := HK7.out.trans hk8
      clear hk8
      go_wp2_with fail
      go_meet
      case rel => exact ⟨rfl, HK8⟩
  case rest =>
  obtain ⟨rfl, HKC⟩ := hcut
  obtain ⟨w6, hwc⟩ : ∃ x, x = wc := ⟨_, rfl⟩
  subst hwc
  clear cA0_0 cA0_1 cA0_2 cA0_3 cA0_4 cA0_5 cA0_6 cA0_7 cA0_8 cA0_9 cA0_10 cA0_11 cA0_12 cA0_13 lA0 cT0_0 cT0_1 cT0_2 cT0_3 cT0_4 cT0_5 cT0_6 cT0_7 cT0_8 cT0_9 cT0_10 cT0_11 cT0_12 cT0_13 lT0
  have hkk : Same w5 w6 := HKC.out
  have hzw6 := hkk.size
  have HA0w6 := (show Hid (Blk w6 (w.heap.size) 28 [.int .i64 p0kind, .int .i64 p0txn, .int .i64 p0prev, .int .i64 p0page, .int .i64 p0slot, .bool p0before_used, .slice p0before_data_a p0before_data_b.length p0before_data_c, .bool p0after_used, .slice p0after_data_a p0after_data_b.length p0after_data_c, .int .i64 p0undoNext, .int .i64 p0nextTxn, .slice p0txns_a p0txns_n p0txns_c, .slice p0dirty_a p0dirty_n p0dirty_c, .slice p0image_a p0image_b.length p0image_c]) from HA0w5.out.same hkk)
  have HX0w6 := (show Hid (OwnL w6 (StLogRecord.rows ⟨X0kind, X0txn, X0prev, X0page, X0slot, ⟨X0before_used, ⟨X0before_data_e, X0before_data_a, X0before_data_c, X0before_data_b⟩⟩, ⟨X0after_used, ⟨X0after_data_e, X0after_data_a, X0after_data_c, X0after_data_b⟩⟩, X0undoNext, X0nextTxn, ⟨X0txns_e, X0txns_a, X0txns_n, X0txns_c, X0txns_b⟩, ⟨X0dirty_e, X0dirty_a, X0dirty_n, X0dirty_c, X0dirty_b⟩, ⟨X0image_e, X0image_a, X0image_c, X0image_b⟩⟩)) from HX0w5.out.same hkk)
  have HT0w6 := (show Hid (Blk w6 (w4.heap.size) 35 [.int .i64 X0kind, .int .i64 X0txn, .int .i64 X0prev, .int .i64 X0page, .int .i64 X0slot, .bool X0before_used, .slice X0before_data_a X0before_data_b.length X0before_data_c, .bool X0after_used, .slice X0after_data_a X0after_data_b.length X0after_data_c, .int .i64 X0undoNext, .int .i64 X0nextTxn, .slice X0txns_a X0txns_n X0txns_c, .slice X0dirty_a X0dirty_n X0dirty_c, .slice X0image_a X0image_b.length X0image_c]) from HT0w5.out.same hkk)
  have HKw6 := (show Hid (Same w w6) from HKw5.out.trans hkk)
  clear hkk
  go_wp2
  go_ret
  exact ⟨rfl, HKw6.out⟩
end Go.Proofs.Ytclmdpmelifplab
