import Derived.Test.YtaeikeglaobeeaaGreatFrmLaw
import Derived.Deep.DeepCutAuto
namespace Go.Proofs.YtaeikeglaobeeaaGreat
open Go.RowKit
set_option linter.unusedVariables false

set_option maxRecDepth 100000 in
set_option maxHeartbeats 16000000 in
theorem decodeFrame_law (v0 : Value) (bs0 : List Int) (s1 : Int) (s2 : Int) (s3 : Int) (w : World) (hv0 : Rd .u8 w v0 bs0) (hB0 : IsB bs0) (hB1 : IsI s1) :
    Calls Tryz.prog 4 #[v0, .int .i64 s1, .int .i64 s2, .int .i64 s3] w fun e w' => e = .returned (.bool true) ∧ Same w w' := by
  obtain ⟨a0a, c0a, rfl⟩ := hv0.form
  have hm0 := hv0.1
  unfold maxLen at hm0
  have HB0 := (show Hid (IsB bs0) from hB0)
  clear hB0
  have HV0 := (show Hid (Rd .u8 w (.slice a0a bs0.length c0a) bs0) from hv0)
  clear hv0
  have HB1 := (show Hid (IsI s1) from hB1)
  clear hB1
  go_enter Tryz.func4, Tryz.ntmps4
  have HKw : Hid (Same w w) := Kept.refl _ _
  by_cases hb0 : (1048576 : Int) < (bs0.length : Int)
  · go_wp2
    go_ret
    exact ⟨rfl, by first | exact Kept.refl _ _ | exact (Kept.refl _ _).alloc _ | exact ((Kept.refl _ _).alloc _).alloc _⟩
  as_aux_lemma =>
  go_wp2_with fail
  refine (toByteS_any _ bs0 _ (by omega) (HV0.out.same HKw.out)).mono ?_
  rintro e w1 ⟨gC0, rfl, hf, ho, hk⟩
  have hf : ∀ b, (Value.slice (some ⟨gC0, 0, none⟩) bs0.length bs0.length).ownBlock = some b → _ ≤ b := fun b hb => by rw [← (Option.some.inj hb : gC0 = b)]; exact hf
  have HFC0 := (show Hid (∀ b, (Value.slice (some ⟨gC0, 0, none⟩) bs0.length bs0.length).ownBlock = some b → w.heap.size ≤ b ∧ b < w1.heap.size) from fun b hb => ⟨hf b hb, (ho.lt b hb).2⟩)
  have HC0w1 := (show Hid (Own 0 5 .u8 w1 (.slice (some ⟨gC0, 0, none⟩) bs0.length bs0.length) bs0) from ho)
  clear hf ho
  have hkk : Same w w1 := hk
  have hzw1 := hkk.size
  have HKw1 := (show Hid (Same w w1) from HKw.out.trans hkk)
  clear hkk hk
  as_aux_lemma =>
  go_wp2_with fail
  refine (specFrL _ bs0 s1 s2 s3 _ HB0.out (by omega) (HC0w1.out.rd) HB1.out).mono ?_
  rintro e w2 ⟨⟨Wcode, Wfsz, Wepoch, ⟨Wrecord_kind, Wrecord_txn, Wrecord_prev, Wrecord_page, Wrecord_slot, ⟨Wrecord_before_used, ⟨Wrecord_before_data_e, Wrecord_before_data_a, Wrecord_before_data_c, Wrecord_before_data_b⟩⟩, ⟨Wrecord_after_used, ⟨Wrecord_after_data_e, Wrecord_after_data_a, Wrecord_after_data_c, Wrecord_after_data_b⟩⟩, Wrecord_uN, Wrecord_nT, ⟨Wrecord_txns_e, Wrecord_txns_a, Wrecord_txns_n, Wrecord_txns_c, Wrecord_txns_b⟩, ⟨Wrecord_dirty_e, Wrecord_dirty_a, Wrecord_dirty_n, Wrecord_dirty_c, Wrecord_dirty_b⟩, ⟨Wrecord_image_e, Wrecord_image_a, Wrecord_image_c, Wrecord_image_b⟩⟩⟩, rfl, hd, hf, ho, hk⟩
  have hnW : StFrameResult.size ⟨Wcode, Wfsz, Wepoch, ⟨Wrecord_kind, Wrecord_txn, Wrecord_prev, Wrecord_page, Wrecord_slot, ⟨Wrecord_before_used, ⟨Wrecord_before_data_e, Wrecord_before_data_a, Wrecord_before_data_c, Wrecord_before_data_b⟩⟩, ⟨Wrecord_after_used, ⟨Wrecord_after_data_e, Wrecord_after_data_a, Wrecord_after_data_c, Wrecord_after_data_b⟩⟩, Wrecord_uN, Wrecord_nT, ⟨Wrecord_txns_e, Wrecord_txns_a, Wrecord_txns_n, Wrecord_txns_c, Wrecord_txns_b⟩, ⟨Wrecord_dirty_e, Wrecord_dirty_a, Wrecord_dirty_n, Wrecord_dirty_c, Wrecord_dirty_b⟩, ⟨Wrecord_image_e, Wrecord_image_a, Wrecord_image_c, Wrecord_image_b⟩⟩⟩ ≤ 1099511627776 := decF_small HB0.out hd
  have hnW0 := StFrameResult.size_le ⟨Wcode, Wfsz, Wepoch, ⟨Wrecord_kind, Wrecord_txn, Wrecord_prev, Wrecord_page, Wrecord_slot, ⟨Wrecord_before_used, ⟨Wrecord_before_data_e, Wrecord_before_data_a, Wrecord_before_data_c, Wrecord_before_data_b⟩⟩, ⟨Wrecord_after_used, ⟨Wrecord_after_data_e, Wrecord_after_data_a, Wrecord_after_data_c, Wrecord_after_data_b⟩⟩, Wrecord_uN, Wrecord_nT, ⟨Wrecord_txns_e, Wrecord_txns_a, Wrecord_txns_n, Wrecord_txns_c, Wrecord_txns_b⟩, ⟨Wrecord_dirty_e, Wrecord_dirty_a, Wrecord_dirty_n, Wrecord_dirty_c, Wrecord_dirty_b⟩, ⟨Wrecord_image_e, Wrecord_image_a, Wrecord_image_c, Wrecord_image_b⟩⟩⟩
  have HDW := (show Hid (StFrameResult.dat ⟨Wcode, Wfsz, Wepoch, ⟨Wrecord_kind, Wrecord_txn, Wrecord_prev, Wrecord_page, Wrecord_slot, ⟨Wrecord_before_used, ⟨Wrecord_before_data_e, Wrecord_before_data_a, Wrecord_before_data_c, Wrecord_before_data_b⟩⟩, ⟨Wrecord_after_used, ⟨Wrecord_after_data_e, Wrecord_after_data_a, Wrecord_after_data_c, Wrecord_after_data_b⟩⟩, Wrecord_uN, Wrecord_nT, ⟨Wrecord_txns_e, Wrecord_txns_a, Wrecord_txns_n, Wrecord_txns_c, Wrecord_txns_b⟩, ⟨Wrecord_dirty_e, Wrecord_dirty_a, Wrecord_dirty_n, Wrecord_dirty_c, Wrecord_dirty_b⟩, ⟨Wrecord_image_e, Wrecord_image_a, Wrecord_image_c, Wrecord_image_b⟩⟩⟩ = decF bs0 s1 s2 s3) from hd)
  dsimp only [StFrameResult.val, StLogRecord.val, StPageRecord.val, BS.v, FR.v]
  have HFW := (show Hid (∀ b, FootL (StFrameResult.rows ⟨Wcode, Wfsz, Wepoch, ⟨Wrecord_kind, Wrecord_txn, Wrecord_prev, Wrecord_page, Wrecord_slot, ⟨Wrecord_before_used, ⟨Wrecord_before_data_e, Wrecord_before_data_a, Wrecord_before_data_c, Wrecord_before_data_b⟩⟩, ⟨Wrecord_after_used, ⟨Wrecord_after_data_e, Wrecord_after_data_a, Wrecord_after_data_c, Wrecord_after_data_b⟩⟩, Wrecord_uN, Wrecord_nT, ⟨Wrecord_txns_e, Wrecord_txns_a, Wrecord_txns_n, Wrecord_txns_c, Wrecord_txns_b⟩, ⟨Wrecord_dirty_e, Wrecord_dirty_a, Wrecord_dirty_n, Wrecord_dirty_c, Wrecord_dirty_b⟩, ⟨Wrecord_image_e, Wrecord_image_a, Wrecord_image_c, Wrecord_image_b⟩⟩⟩) b → w1.heap.size ≤ b ∧ b < w2.heap.size) from fun b hb => ⟨hf b hb, ho.lt b hb⟩)
  have HWw2 := (show Hid (OwnL w2 (StFrameResult.rows ⟨Wcode, Wfsz, Wepoch, ⟨Wrecord_kind, Wrecord_txn, Wrecord_prev, Wrecord_page, Wrecord_slot, ⟨Wrecord_before_used, ⟨Wrecord_before_data_e, Wrecord_before_data_a, Wrecord_before_data_c, Wrecord_before_data_b⟩⟩, ⟨Wrecord_after_used, ⟨Wrecord_after_data_e, Wrecord_after_data_a, Wrecord_after_data_c, Wrecord_after_data_b⟩⟩, Wrecord_uN, Wrecord_nT, ⟨Wrecord_txns_e, Wrecord_txns_a, Wrecord_txns_n, Wrecord_txns_c, Wrecord_txns_b⟩, ⟨Wrecord_dirty_e, Wrecord_dirty_a, Wrecord_dirty_n, Wrecord_dirty_c, Wrecord_dirty_b⟩, ⟨Wrecord_image_e, Wrecord_image_a, Wrecord_image_c, Wrecord_image_b⟩⟩⟩)) from ho)
  clear hd hf ho
  have hkk : Same w1 w2 := hk
  have hzw2 := hkk.size
  have HC0w2 := (show Hid (Own 0 5 .u8 w2 (.slice (some ⟨gC0, 0, none⟩) bs0.length bs0.length) bs0) from HC0w1.out.same hkk)
  have HKw2 := (show Hid (Same w w2) from HKw1.out.trans hkk)
  clear hkk hk
  as_aux_lemma =>
  go_wp2_with fail
  refine (toByteS_any _ bs0 _ (by omega) (HV0.out.same (HKw2.out.alloc _))).mono ?_
  rintro e w3 ⟨gX0, rfl, hf, ho, hk⟩
  have hf : ∀ b, (Value.slice (some ⟨gX0, 0, none⟩) bs0.length bs0.length).ownBlock = some b → _ ≤ b := fun b hb => by rw [← (Option.some.inj hb : gX0 = b)]; exact hf
  simp only [World.size_alloc] at hf
  have HFX0 := (show Hid (∀ b, (Value.slice (some ⟨gX0, 0, none⟩) bs0.length bs0.length).ownBlock = some b → w2.heap.size < b ∧ b < w3.heap.size) from fun b hb => ⟨by have := hf b hb; omega, (ho.lt b hb).2⟩)
  have HX0w3 := (show Hid (Own 0 5 .u8 w3 (.slice (some ⟨gX0, 0, none⟩) bs0.length bs0.length) bs0) from ho)
  clear hf ho
  have hkk : Same w2 w3 := ((Kept.refl _ _).alloc _).trans hk
  have hzw3 := hk.size
  rw [World.size_alloc] at hzw3
  have HWw3 := (show Hid (OwnL w3 (StFrameResult.rows ⟨Wcode, Wfsz, Wepoch, ⟨Wrecord_kind, Wrecord_txn, Wrecord_prev, Wrecord_page, Wrecord_slot, ⟨Wrecord_before_used, ⟨Wrecord_before_data_e, Wrecord_before_data_a, Wrecord_before_data_c, Wrecord_before_data_b⟩⟩, ⟨Wrecord_after_used, ⟨Wrecord_after_data_e, Wrecord_after_data_a, Wrecord_after_data_c, Wrecord_after_data_b⟩⟩, Wrecord_uN, Wrecord_nT, ⟨Wrecord_txns_e, Wrecord_txns_a, Wrecord_txns_n, Wrecord_txns_c, Wrecord_txns_b⟩, ⟨Wrecord_dirty_e, Wrecord_dirty_a, Wrecord_dirty_n, Wrecord_dirty_c, Wrecord_dirty_b⟩, ⟨Wrecord_image_e, Wrecord_image_a, Wrecord_image_c, Wrecord_image_b⟩⟩⟩)) from HWw2.out.same hkk)
  have HZw3 := (show Hid (Blk w3 (w2.heap.size) 39 [.int .i64 Wcode, .int .i64 Wfsz, .int .i64 Wepoch, .int .i64 Wrecord_kind, .int .i64 Wrecord_txn, .int .i64 Wrecord_prev, .int .i64 Wrecord_page, .int .i64 Wrecord_slot, .bool Wrecord_before_used, .slice Wrecord_before_data_a Wrecord_before_data_b.length Wrecord_before_data_c, .bool Wrecord_after_used, .slice Wrecord_after_data_a Wrecord_after_data_b.length Wrecord_after_data_c, .int .i64 Wrecord_uN, .int .i64 Wrecord_nT, .slice Wrecord_txns_a Wrecord_txns_n Wrecord_txns_c, .slice Wrecord_dirty_a Wrecord_dirty_n Wrecord_dirty_c, .slice Wrecord_image_a Wrecord_image_b.length Wrecord_image_c]) from (Blk.new w2 #[.int .i64 Wcode, .int .i64 Wfsz, .int .i64 Wepoch, .int .i64 Wrecord_kind, .int .i64 Wrecord_txn, .int .i64 Wrecord_prev, .int .i64 Wrecord_page, .int .i64 Wrecord_slot, .bool Wrecord_before_used, .slice Wrecord_before_data_a Wrecord_before_data_b.length Wrecord_before_data_c, .bool Wrecord_after_used, .slice Wrecord_after_data_a Wrecord_after_data_b.length Wrecord_after_data_c, .int .i64 Wrecord_uN, .int .i64 Wrecord_nT, .slice Wrecord_txns_a Wrecord_txns_n Wrecord_txns_c, .slice Wrecord_dirty_a Wrecord_dirty_n Wrecord_dirty_c, .slice Wrecord_image_a Wrecord_image_b.length Wrecord_image_c] 39).same hk)
  have HKw3 := (show Hid (Same w w3) from HKw2.out.trans hkk)
  clear hkk hk
  as_aux_lemma =>
  have cZ_0 : w3.cell? ⟨w2.heap.size, 0, none⟩ = some (.int .i64 Wcode) := HZw3.out.cell 0
  have cZ_1 : w3.cell? ⟨w2.heap.size, 1, none⟩ = some (.int .i64 Wfsz) := HZw3.out.cell 1
  have cZ_2 : w3.cell? ⟨w2.heap.size, 2, none⟩ = some (.int .i64 Wepoch) := HZw3.out.cell 2
  have cZ_3 : w3.cell? ⟨w2.heap.size, 3, none⟩ = some (.int .i64 Wrecord_kind) := HZw3.out.cell 3
  have cZ_4 : w3.cell? ⟨w2.heap.size, 4, none⟩ = some (.int .i64 Wrecord_txn) := HZw3.out.cell 4
  have cZ_5 : w3.cell? ⟨w2.heap.size, 5, none⟩ = some (.int .i64 Wrecord_prev) := HZw3.out.cell 5
  have cZ_6 : w3.cell? ⟨w2.heap.size, 6, none⟩ = some (.int .i64 Wrecord_page) := HZw3.out.cell 6
  have cZ_7 : w3.cell? ⟨w2.heap.size, 7, none⟩ = some (.int .i64 Wrecord_slot) := HZw3.out.cell 7
  have cZ_8 : w3.cell? ⟨w2.heap.size, 8, none⟩ = some (.bool Wrecord_before_used) := HZw3.out.cell 8
  have cZ_9 : w3.cell? ⟨w2.heap.size, 9, none⟩ = some (.slice Wrecord_before_data_a Wrecord_before_data_b.length Wrecord_before_data_c) := HZw3.out.cell 9
  have cZ_10 : w3.cell? ⟨w2.heap.size, 10, none⟩ = some (.bool Wrecord_after_used) := HZw3.out.cell 10
  have cZ_11 : w3.cell? ⟨w2.heap.size, 11, none⟩ = some (.slice Wrecord_after_data_a Wrecord_after_data_b.length Wrecord_after_data_c) := HZw3.out.cell 11
  have cZ_12 : w3.cell? ⟨w2.heap.size, 12, none⟩ = some (.int .i64 Wrecord_uN) := HZw3.out.cell 12
  have cZ_13 : w3.cell? ⟨w2.heap.size, 13, none⟩ = some (.int .i64 Wrecord_nT) := HZw3.out.cell 13
  have cZ_14 : w3.cell? ⟨w2.heap.size, 14, none⟩ = some (.slice Wrecord_txns_a Wrecord_txns_n Wrecord_txns_c) := HZw3.out.cell 14
  have cZ_15 : w3.cell? ⟨w2.heap.size, 15, none⟩ = some (.slice Wrecord_dirty_a Wrecord_dirty_n Wrecord_dirty_c) := HZw3.out.cell 15
  have cZ_16 : w3.cell? ⟨w2.heap.size, 16, none⟩ = some (.slice Wrecord_image_a Wrecord_image_b.length Wrecord_image_c) := HZw3.out.cell 16
  have lZ := HZw3.out.lt
  go_wp2_with fail
  refine (implFrL _ bs0 s1 s2 s3 _ HB0.out (by omega) (HX0w3.out.rd) HB1.out).mono ?_
  rintro e w4 ⟨⟨Gcode, Gfsz, Gepoch, ⟨Grecord_kind, Grecord_txn, Grecord_prev, Grecord_page, Grecord_slot, ⟨Grecord_before_used, ⟨Grecord_before_data_e, Grecord_before_data_a, Grecord_before_data_c, Grecord_before_data_b⟩⟩, ⟨Grecord_after_used, ⟨Grecord_after_data_e, Grecord_after_data_a, Grecord_after_data_c, Grecord_after_data_b⟩⟩, Grecord_uN, Grecord_nT, ⟨Grecord_txns_e, Grecord_txns_a, Grecord_txns_n, Grecord_txns_c, Grecord_txns_b⟩, ⟨Grecord_dirty_e, Grecord_dirty_a, Grecord_dirty_n, Grecord_dirty_c, Grecord_dirty_b⟩, ⟨Grecord_image_e, Grecord_image_a, Grecord_image_c, Grecord_image_b⟩⟩⟩, rfl, hd, hf, ho, hk⟩
  have hnG : StFrameResult.size ⟨Gcode, Gfsz, Gepoch, ⟨Grecord_kind, Grecord_txn, Grecord_prev, Grecord_page, Grecord_slot, ⟨Grecord_before_used, ⟨Grecord_before_data_e, Grecord_before_data_a, Grecord_before_data_c, Grecord_before_data_b⟩⟩, ⟨Grecord_after_used, ⟨Grecord_after_data_e, Grecord_after_data_a, Grecord_after_data_c, Grecord_after_data_b⟩⟩, Grecord_uN, Grecord_nT, ⟨Grecord_txns_e, Grecord_txns_a, Grecord_txns_n, Grecord_txns_c, Grecord_txns_b⟩, ⟨Grecord_dirty_e, Grecord_dirty_a, Grecord_dirty_n, Grecord_dirty_c, Grecord_dirty_b⟩, ⟨Grecord_image_e, Grecord_image_a, Grecord_image_c, Grecord_image_b⟩⟩⟩ ≤ 1099511627776 := decF_small HB0.out hd
  have hnG0 := StFrameResult.size_le ⟨Gcode, Gfsz, Gepoch, ⟨Grecord_kind, Grecord_txn, Grecord_prev, Grecord_page, Grecord_slot, ⟨Grecord_before_used, ⟨Grecord_before_data_e, Grecord_before_data_a, Grecord_before_data_c, Grecord_before_data_b⟩⟩, ⟨Grecord_after_used, ⟨Grecord_after_data_e, Grecord_after_data_a, Grecord_after_data_c, Grecord_after_data_b⟩⟩, Grecord_uN, Grecord_nT, ⟨Grecord_txns_e, Grecord_txns_a, Grecord_txns_n, Grecord_txns_c, Grecord_txns_b⟩, ⟨Grecord_dirty_e, Grecord_dirty_a, Grecord_dirty_n, Grecord_dirty_c, Grecord_dirty_b⟩, ⟨Grecord_image_e, Grecord_image_a, Grecord_image_c, Grecord_image_b⟩⟩⟩
  have HDG := (show Hid (StFrameResult.dat ⟨Gcode, Gfsz, Gepoch, ⟨Grecord_kind, Grecord_txn, Grecord_prev, Grecord_page, Grecord_slot, ⟨Grecord_before_used, ⟨Grecord_before_data_e, Grecord_before_data_a, Grecord_before_data_c, Grecord_before_data_b⟩⟩, ⟨Grecord_after_used, ⟨Grecord_after_data_e, Grecord_after_data_a, Grecord_after_data_c, Grecord_after_data_b⟩⟩, Grecord_uN, Grecord_nT, ⟨Grecord_txns_e, Grecord_txns_a, Grecord_txns_n, Grecord_txns_c, Grecord_txns_b⟩, ⟨Grecord_dirty_e, Grecord_dirty_a, Grecord_dirty_n, Grecord_dirty_c, Grecord_dirty_b⟩, ⟨Grecord_image_e, Grecord_image_a, Grecord_image_c, Grecord_image_b⟩⟩⟩ = decF bs0 s1 s2 s3) from hd)
  dsimp only [StFrameResult.val, StLogRecord.val, StPageRecord.val, BS.v, FR.v]
  have HFG := (show Hid (∀ b, FootL (StFrameResult.rows ⟨Gcode, Gfsz, Gepoch, ⟨Grecord_kind, Grecord_txn, Grecord_prev, Grecord_page, Grecord_slot, ⟨Grecord_before_used, ⟨Grecord_before_data_e, Grecord_before_data_a, Grecord_before_data_c, Grecord_before_data_b⟩⟩, ⟨Grecord_after_used, ⟨Grecord_after_data_e, Grecord_after_data_a, Grecord_after_data_c, Grecord_after_data_b⟩⟩, Grecord_uN, Grecord_nT, ⟨Grecord_txns_e, Grecord_txns_a, Grecord_txns_n, Grecord_txns_c, Grecord_txns_b⟩, ⟨Grecord_dirty_e, Grecord_dirty_a, Grecord_dirty_n, Grecord_dirty_c, Grecord_dirty_b⟩, ⟨Grecord_image_e, Grecord_image_a, Grecord_image_c, Grecord_image_b⟩⟩⟩) b → w3.heap.size ≤ b ∧ b < w4.heap.size) from fun b hb => ⟨hf b hb, ho.lt b hb⟩)
  have HGw4 := (show Hid (OwnL w4 (StFrameResult.rows ⟨Gcode, Gfsz, Gepoch, ⟨Grecord_kind, Grecord_txn, Grecord_prev, Grecord_page, Grecord_slot, ⟨Grecord_before_used, ⟨Grecord_before_data_e, Grecord_before_data_a, Grecord_before_data_c, Grecord_before_data_b⟩⟩, ⟨Grecord_after_used, ⟨Grecord_after_data_e, Grecord_after_data_a, Grecord_after_data_c, Grecord_after_data_b⟩⟩, Grecord_uN, Grecord_nT, ⟨Grecord_txns_e, Grecord_txns_a, Grecord_txns_n, Grecord_txns_c, Grecord_txns_b⟩, ⟨Grecord_dirty_e, Grecord_dirty_a, Grecord_dirty_n, Grecord_dirty_c, Grecord_dirty_b⟩, ⟨Grecord_image_e, Grecord_image_a, Grecord_image_c, Grecord_image_b⟩⟩⟩)) from ho)
  clear hd hf ho
  have hkk : Same w3 w4 := hk
  have hzw4 := hkk.size
  have HWw4 := (show Hid (OwnL w4 (StFrameResult.rows ⟨Wcode, Wfsz, Wepoch, ⟨Wrecord_kind, Wrecord_txn, Wrecord_prev, Wrecord_page, Wrecord_slot, ⟨Wrecord_before_used, ⟨Wrecord_before_data_e, Wrecord_before_data_a, Wrecord_before_data_c, Wrecord_before_data_b⟩⟩, ⟨Wrecord_after_used, ⟨Wrecord_after_data_e, Wrecord_after_data_a, Wrecord_after_data_c, Wrecord_after_data_b⟩⟩, Wrecord_uN, Wrecord_nT, ⟨Wrecord_txns_e, Wrecord_txns_a, Wrecord_txns_n, Wrecord_txns_c, Wrecord_txns_b⟩, ⟨Wrecord_dirty_e, Wrecord_dirty_a, Wrecord_dirty_n, Wrecord_dirty_c, Wrecord_dirty_b⟩, ⟨Wrecord_image_e, Wrecord_image_a, Wrecord_image_c, Wrecord_image_b⟩⟩⟩)) from HWw3.out.same hkk)
  have HZw4 := (show Hid (Blk w4 (w2.heap.size) 39 [.int .i64 Wcode, .int .i64 Wfsz, .int .i64 Wepoch, .int .i64 Wrecord_kind, .int .i64 Wrecord_txn, .int .i64 Wrecord_prev, .int .i64 Wrecord_page, .int .i64 Wrecord_slot, .bool Wrecord_before_used, .slice Wrecord_before_data_a Wrecord_before_data_b.length Wrecord_before_data_c, .bool Wrecord_after_used, .slice Wrecord_after_data_a Wrecord_after_data_b.length Wrecord_after_data_c, .int .i64 Wrecord_uN, .int .i64 Wrecord_nT, .slice Wrecord_txns_a Wrecord_txns_n Wrecord_txns_c, .slice Wrecord_dirty_a Wrecord_dirty_n Wrecord_dirty_c, .slice Wrecord_image_a Wrecord_image_b.length Wrecord_image_c]) from HZw3.out.same hkk)
  have HX0w4 := (show Hid (Own 0 5 .u8 w4 (.slice (some ⟨gX0, 0, none⟩) bs0.length bs0.length) bs0) from HX0w3.out.same hkk)
  have HKw4 := (show Hid (Same w w4) from HKw3.out.trans hkk)
  clear hkk hk
  clear cZ_0 cZ_1 cZ_2 cZ_3 cZ_4 cZ_5 cZ_6 cZ_7 cZ_8 cZ_9 cZ_10 cZ_11 cZ_12 cZ_13 cZ_14 cZ_15 cZ_16 lZ
  as_aux_lemma =>
  have cZ_0 : w4.cell? ⟨w2.heap.size, 0, none⟩ = some (.int .i64 Wcode) := HZw4.out.cell 0
  have cZ_1 : w4.cell? ⟨w2.heap.size, 1, none⟩ = some (.int .i64 Wfsz) := HZw4.out.cell 1
  have cZ_2 : w4.cell? ⟨w2.heap.size, 2, none⟩ = some (.int .i64 Wepoch) := HZw4.out.cell 2
  have cZ_3 : w4.cell? ⟨w2.heap.size, 3, none⟩ = some (.int .i64 Wrecord_kind) := HZw4.out.cell 3
  have cZ_4 : w4.cell? ⟨w2.heap.size, 4, none⟩ = some (.int .i64 Wrecord_txn) := HZw4.out.cell 4
  have cZ_5 : w4.cell? ⟨w2.heap.size, 5, none⟩ = some (.int .i64 Wrecord_prev) := HZw4.out.cell 5
  have cZ_6 : w4.cell? ⟨w2.heap.size, 6, none⟩ = some (.int .i64 Wrecord_page) := HZw4.out.cell 6
  have cZ_7 : w4.cell? ⟨w2.heap.size, 7, none⟩ = some (.int .i64 Wrecord_slot) := HZw4.out.cell 7
  have cZ_8 : w4.cell? ⟨w2.heap.size, 8, none⟩ = some (.bool Wrecord_before_used) := HZw4.out.cell 8
  have cZ_9 : w4.cell? ⟨w2.heap.size, 9, none⟩ = some (.slice Wrecord_before_data_a Wrecord_before_data_b.length Wrecord_before_data_c) := HZw4.out.cell 9
  have cZ_10 : w4.cell? ⟨w2.heap.size, 10, none⟩ = some (.bool Wrecord_after_used) := HZw4.out.cell 10
  have cZ_11 : w4.cell? ⟨w2.heap.size, 11, none⟩ = some (.slice Wrecord_after_data_a Wrecord_after_data_b.length Wrecord_after_data_c) := HZw4.out.cell 11
  have cZ_12 : w4.cell? ⟨w2.heap.size, 12, none⟩ = some (.int .i64 Wrecord_uN) := HZw4.out.cell 12
  have cZ_13 : w4.cell? ⟨w2.heap.size, 13, none⟩ = some (.int .i64 Wrecord_nT) := HZw4.out.cell 13
  have cZ_14 : w4.cell? ⟨w2.heap.size, 14, none⟩ = some (.slice Wrecord_txns_a Wrecord_txns_n Wrecord_txns_c) := HZw4.out.cell 14
  have cZ_15 : w4.cell? ⟨w2.heap.size, 15, none⟩ = some (.slice Wrecord_dirty_a Wrecord_dirty_n Wrecord_dirty_c) := HZw4.out.cell 15
  have cZ_16 : w4.cell? ⟨w2.heap.size, 16, none⟩ = some (.slice Wrecord_image_a Wrecord_image_b.length Wrecord_image_c) := HZw4.out.cell 16
  have lZ := HZw4.out.lt
  go_wp2_with fail
  refine (eqFrameResult_own ⟨Gcode, Gfsz, Gepoch, ⟨Grecord_kind, Grecord_txn, Grecord_prev, Grecord_page, Grecord_slot, ⟨Grecord_before_used, ⟨Grecord_before_data_e, Grecord_before_data_a, Grecord_before_data_c, Grecord_before_data_b⟩⟩, ⟨Grecord_after_used, ⟨Grecord_after_data_e, Grecord_after_data_a, Grecord_after_data_c, Grecord_after_data_b⟩⟩, Grecord_uN, Grecord_nT, ⟨Grecord_txns_e, Grecord_txns_a, Grecord_txns_n, Grecord_txns_c, Grecord_txns_b⟩, ⟨Grecord_dirty_e, Grecord_dirty_a, Grecord_dirty_n, Grecord_dirty_c, Grecord_dirty_b⟩, ⟨Grecord_image_e, Grecord_image_a, Grecord_image_c, Grecord_image_b⟩⟩⟩ ⟨Wcode, Wfsz, Wepoch, ⟨Wrecord_kind, Wrecord_txn, Wrecord_prev, Wrecord_page, Wrecord_slot, ⟨Wrecord_before_used, ⟨Wrecord_before_data_e, Wrecord_before_data_a, Wrecord_before_data_c, Wrecord_before_data_b⟩⟩, ⟨Wrecord_after_used, ⟨Wrecord_after_data_e, Wrecord_after_data_a, Wrecord_after_data_c, Wrecord_after_data_b⟩⟩, Wrecord_uN, Wrecord_nT, ⟨Wrecord_txns_e, Wrecord_txns_a, Wrecord_txns_n, Wrecord_txns_c, Wrecord_txns_b⟩, ⟨Wrecord_dirty_e, Wrecord_dirty_a, Wrecord_dirty_n, Wrecord_dirty_c, Wrecord_dirty_b⟩, ⟨Wrecord_image_e, Wrecord_image_a, Wrecord_image_c, Wrecord_image_b⟩⟩⟩ _ (by omega) (HDG.out.trans HDW.out.symm) (HGw4.out.same ((Kept.refl _ _).alloc _)) (HWw4.out.same ((Kept.refl _ _).alloc _))).mono ?_
  rintro e w5 ⟨rfl, hk⟩
  have hkk : Same w4 w5 := ((Kept.refl _ _).alloc _).trans hk
  have hzw5 := hk.size
  rw [World.size_alloc] at hzw5
  have HWw5 := (show Hid (OwnL w5 (StFrameResult.rows ⟨Wcode, Wfsz, Wepoch, ⟨Wrecord_kind, Wrecord_txn, Wrecord_prev, Wrecord_page, Wrecord_slot, ⟨Wrecord_before_used, ⟨Wrecord_before_data_e, Wrecord_before_data_a, Wrecord_before_data_c, Wrecord_before_data_b⟩⟩, ⟨Wrecord_after_used, ⟨Wrecord_after_data_e, Wrecord_after_data_a, Wrecord_after_data_c, Wrecord_after_data_b⟩⟩, Wrecord_uN, Wrecord_nT, ⟨Wrecord_txns_e, Wrecord_txns_a, Wrecord_txns_n, Wrecord_txns_c, Wrecord_txns_b⟩, ⟨Wrecord_dirty_e, Wrecord_dirty_a, Wrecord_dirty_n, Wrecord_dirty_c, Wrecord_dirty_b⟩, ⟨Wrecord_image_e, Wrecord_image_a, Wrecord_image_c, Wrecord_image_b⟩⟩⟩)) from HWw4.out.same hkk)
  have HZw5 := (show Hid (Blk w5 (w2.heap.size) 39 [.int .i64 Wcode, .int .i64 Wfsz, .int .i64 Wepoch, .int .i64 Wrecord_kind, .int .i64 Wrecord_txn, .int .i64 Wrecord_prev, .int .i64 Wrecord_page, .int .i64 Wrecord_slot, .bool Wrecord_before_used, .slice Wrecord_before_data_a Wrecord_before_data_b.length Wrecord_before_data_c, .bool Wrecord_after_used, .slice Wrecord_after_data_a Wrecord_after_data_b.length Wrecord_after_data_c, .int .i64 Wrecord_uN, .int .i64 Wrecord_nT, .slice Wrecord_txns_a Wrecord_txns_n Wrecord_txns_c, .slice Wrecord_dirty_a Wrecord_dirty_n Wrecord_dirty_c, .slice Wrecord_image_a Wrecord_image_b.length Wrecord_image_c]) from HZw4.out.same hkk)
  have HX0w5 := (show Hid (Own 0 5 .u8 w5 (.slice (some ⟨gX0, 0, none⟩) bs0.length bs0.length) bs0) from HX0w4.out.same hkk)
  have HGw5 := (show Hid (OwnL w5 (StFrameResult.rows ⟨Gcode, Gfsz, Gepoch, ⟨Grecord_kind, Grecord_txn, Grecord_prev, Grecord_page, Grecord_slot, ⟨Grecord_before_used, ⟨Grecord_before_data_e, Grecord_before_data_a, Grecord_before_data_c, Grecord_before_data_b⟩⟩, ⟨Grecord_after_used, ⟨Grecord_after_data_e, Grecord_after_data_a, Grecord_after_data_c, Grecord_after_data_b⟩⟩, Grecord_uN, Grecord_nT, ⟨Grecord_txns_e, Grecord_txns_a, Grecord_txns_n, Grecord_txns_c, Grecord_txns_b⟩, ⟨Grecord_dirty_e, Grecord_dirty_a, Grecord_dirty_n, Grecord_dirty_c, Grecord_dirty_b⟩, ⟨Grecord_image_e, Grecord_image_a, Grecord_image_c, Grecord_image_b⟩⟩⟩)) from HGw4.out.same hkk)
  have HYw5 := (show Hid (Blk w5 (w4.heap.size) 39 [.int .i64 Gcode, .int .i64 Gfsz, .int .i64 Gepoch, .int .i64 Grecord_kind, .int .i64 Grecord_txn, .int .i64 Grecord_prev, .int .i64 Grecord_page, .int .i64 Grecord_slot, .bool Grecord_before_used, .slice Grecord_before_data_a Grecord_before_data_b.length Grecord_before_data_c, .bool Grecord_after_used, .slice Grecord_after_data_a Grecord_after_data_b.length Grecord_after_data_c, .int .i64 Grecord_uN, .int .i64 Grecord_nT, .slice Grecord_txns_a Grecord_txns_n Grecord_txns_c, .slice Grecord_dirty_a Grecord_dirty_n Grecord_dirty_c, .slice Grecord_image_a Grecord_image_b.length Grecord_image_c]) from (Blk.new w4 #[.int .i64 Gcode, .int .i64 Gfsz, .int .i64 Gepoch, .int .i64 Grecord_kind, .int .i64 Grecord_txn, .int .i64 Grecord_prev, .int .i64 Grecord_page, .int .i64 Grecord_slot, .bool Grecord_before_used, .slice Grecord_before_data_a Grecord_before_data_b.length Grecord_before_data_c, .bool Grecord_after_used, .slice Grecord_after_data_a Grecord_after_data_b.length Grecord_after_data_c, .int .i64 Grecord_uN, .int .i64 Grecord_nT, .slice Grecord_txns_a Grecord_txns_n Grecord_txns_c, .slice Grecord_dirty_a Grecord_dirty_n Grecord_dirty_c, .slice Grecord_image_a Grecord_image_b.length Grecord_image_c] 39).same hk)
  have HKw5 := (show Hid (Same w w5) from HKw4.out.trans hkk)
  clear hkk hk
  clear cZ_0 cZ_1 cZ_2 cZ_3 cZ_4 cZ_5 cZ_6 cZ_7 cZ_8 cZ_9 cZ_10 cZ_11 cZ_12 cZ_13 cZ_14 cZ_15 cZ_16 lZ
  as_aux_lemma =>
  have cZ_0 : w5.cell? ⟨w2.heap.size, 0, none⟩ = some (.int .i64 Wcode) := HZw5.out.cell 0
  have cZ_1 : w5.cell? ⟨w2.heap.size, 1, none⟩ = some (.int .i64 Wfsz) := HZw5.out.cell 1
  have cZ_2 : w5.cell? ⟨w2.heap.size, 2, none⟩ = some (.int .i64 Wepoch) := HZw5.out.cell 2
  have cZ_3 : w5.cell? ⟨w2.heap.size, 3, none⟩ = some (.int .i64 Wrecord_kind) := HZw5.out.cell 3
  have cZ_4 : w5.cell? ⟨w2.heap.size, 4, none⟩ = some (.int .i64 Wrecord_txn) := HZw5.out.cell 4
  have cZ_5 : w5.cell? ⟨w2.heap.size, 5, none⟩ = some (.int .i64 Wrecord_prev) := HZw5.out.cell 5
  have cZ_6 : w5.cell? ⟨w2.heap.size, 6, none⟩ = some (.int .i64 Wrecord_page) := HZw5.out.cell 6
  have cZ_7 : w5.cell? ⟨w2.heap.size, 7, none⟩ = some (.int .i64 Wrecord_slot) := HZw5.out.cell 7
  have cZ_8 : w5.cell? ⟨w2.heap.size, 8, none⟩ = some (.bool Wrecord_before_used) := HZw5.out.cell 8
  have cZ_9 : w5.cell? ⟨w2.heap.size, 9, none⟩ = some (.slice Wrecord_before_data_a Wrecord_before_data_b.length Wrecord_before_data_c) := HZw5.out.cell 9
  have cZ_10 : w5.cell? ⟨w2.heap.size, 10, none⟩ = some (.bool Wrecord_after_used) := HZw5.out.cell 10
  have cZ_11 : w5.cell? ⟨w2.heap.size, 11, none⟩ = some (.slice Wrecord_after_data_a Wrecord_after_data_b.length Wrecord_after_data_c) := HZw5.out.cell 11
  have cZ_12 : w5.cell? ⟨w2.heap.size, 12, none⟩ = some (.int .i64 Wrecord_uN) := HZw5.out.cell 12
  have cZ_13 : w5.cell? ⟨w2.heap.size, 13, none⟩ = some (.int .i64 Wrecord_nT) := HZw5.out.cell 13
  have cZ_14 : w5.cell? ⟨w2.heap.size, 14, none⟩ = some (.slice Wrecord_txns_a Wrecord_txns_n Wrecord_txns_c) := HZw5.out.cell 14
  have cZ_15 : w5.cell? ⟨w2.heap.size, 15, none⟩ = some (.slice Wrecord_dirty_a Wrecord_dirty_n Wrecord_dirty_c) := HZw5.out.cell 15
  have cZ_16 : w5.cell? ⟨w2.heap.size, 16, none⟩ = some (.slice Wrecord_image_a Wrecord_image_b.length Wrecord_image_c) := HZw5.out.cell 16
  have lZ := HZw5.out.lt
  have cY_0 : w5.cell? ⟨w4.heap.size, 0, none⟩ = some (.int .i64 Gcode) := HYw5.out.cell 0
  have cY_1 : w5.cell? ⟨w4.heap.size, 1, none⟩ = some (.int .i64 Gfsz) := HYw5.out.cell 1
  have cY_2 : w5.cell? ⟨w4.heap.size, 2, none⟩ = some (.int .i64 Gepoch) := HYw5.out.cell 2
  have cY_3 : w5.cell? ⟨w4.heap.size, 3, none⟩ = some (.int .i64 Grecord_kind) := HYw5.out.cell 3
  have cY_4 : w5.cell? ⟨w4.heap.size, 4, none⟩ = some (.int .i64 Grecord_txn) := HYw5.out.cell 4
  have cY_5 : w5.cell? ⟨w4.heap.size, 5, none⟩ = some (.int .i64 Grecord_prev) := HYw5.out.cell 5
  have cY_6 : w5.cell? ⟨w4.heap.size, 6, none⟩ = some (.int .i64 Grecord_page) := HYw5.out.cell 6
  have cY_7 : w5.cell? ⟨w4.heap.size, 7, none⟩ = some (.int .i64 Grecord_slot) := HYw5.out.cell 7
  have cY_8 : w5.cell? ⟨w4.heap.size, 8, none⟩ = some (.bool Grecord_before_used) := HYw5.out.cell 8
  have cY_9 : w5.cell? ⟨w4.heap.size, 9, none⟩ = some (.slice Grecord_before_data_a Grecord_before_data_b.length Grecord_before_data_c) := HYw5.out.cell 9
  have cY_10 : w5.cell? ⟨w4.heap.size, 10, none⟩ = some (.bool Grecord_after_used) := HYw5.out.cell 10
  have cY_11 : w5.cell? ⟨w4.heap.size, 11, none⟩ = some (.slice Grecord_after_data_a Grecord_after_data_b.length Grecord_after_data_c) := HYw5.out.cell 11
  have cY_12 : w5.cell? ⟨w4.heap.size, 12, none⟩ = some (.int .i64 Grecord_uN) := HYw5.out.cell 12
  have cY_13 : w5.cell? ⟨w4.heap.size, 13, none⟩ = some (.int .i64 Grecord_nT) := HYw5.out.cell 13
  have cY_14 : w5.cell? ⟨w4.heap.size, 14, none⟩ = some (.slice Grecord_txns_a Grecord_txns_n Grecord_txns_c) := HYw5.out.cell 14
  have cY_15 : w5.cell? ⟨w4.heap.size, 15, none⟩ = some (.slice Grecord_dirty_a Grecord_dirty_n Grecord_dirty_c) := HYw5.out.cell 15
  have cY_16 : w5.cell? ⟨w4.heap.size, 16, none⟩ = some (.slice Grecord_image_a Grecord_image_b.length Grecord_image_c) := HYw5.out.cell 16
  have lY := HYw5.out.lt
  go_wp2_with fail
  refine (toByteS_any _ bs0 _ (by omega) (HV0.out.same HKw5.out)).mono ?_
  rintro e w6 ⟨gD0, rfl, hf, ho, hk⟩
  have hf : ∀ b, (Value.slice (some ⟨gD0, 0, none⟩) bs0.length bs0.length).ownBlock = some b → _ ≤ b := fun b hb => by rw [← (Option.some.inj hb : gD0 = b)]; exact hf
  have HFD0 := (show Hid (∀ b, (Value.slice (some ⟨gD0, 0, none⟩) bs0.length bs0.length).ownBlock = some b → w5.heap.size ≤ b ∧ b < w6.heap.size) from fun b hb => ⟨hf b hb, (ho.lt b hb).2⟩)
  have HD0w6 := (show Hid (Own 0 5 .u8 w6 (.slice (some ⟨gD0, 0, none⟩) bs0.length bs0.length) bs0) from ho)
  clear hf ho
  have hkk : Same w5 w6 := hk
  have hzw6 := hkk.size
  have HWw6 := (show Hid (OwnL w6 (StFrameResult.rows ⟨Wcode, Wfsz, Wepoch, ⟨Wrecord_kind, Wrecord_txn, Wrecord_prev, Wrecord_page, Wrecord_slot, ⟨Wrecord_before_used, ⟨Wrecord_before_data_e, Wrecord_before_data_a, Wrecord_before_data_c, Wrecord_before_data_b⟩⟩, ⟨Wrecord_after_used, ⟨Wrecord_after_data_e, Wrecord_after_data_a, Wrecord_after_data_c, Wrecord_after_data_b⟩⟩, Wrecord_uN, Wrecord_nT, ⟨Wrecord_txns_e, Wrecord_txns_a, Wrecord_txns_n, Wrecord_txns_c, Wrecord_txns_b⟩, ⟨Wrecord_dirty_e, Wrecord_dirty_a, Wrecord_dirty_n, Wrecord_dirty_c, Wrecord_dirty_b⟩, ⟨Wrecord_image_e, Wrecord_image_a, Wrecord_image_c, Wrecord_image_b⟩⟩⟩)) from HWw5.out.same hkk)
  have HZw6 := (show Hid (Blk w6 (w2.heap.size) 39 [.int .i64 Wcode, .int .i64 Wfsz, .int .i64 Wepoch, .int .i64 Wrecord_kind, .int .i64 Wrecord_txn, .int .i64 Wrecord_prev, .int .i64 Wrecord_page, .int .i64 Wrecord_slot, .bool Wrecord_before_used, .slice Wrecord_before_data_a Wrecord_before_data_b.length Wrecord_before_data_c, .bool Wrecord_after_used, .slice Wrecord_after_data_a Wrecord_after_data_b.length Wrecord_after_data_c, .int .i64 Wrecord_uN, .int .i64 Wrecord_nT, .slice Wrecord_txns_a Wrecord_txns_n Wrecord_txns_c, .slice Wrecord_dirty_a Wrecord_dirty_n Wrecord_dirty_c, .slice Wrecord_image_a Wrecord_image_b.length Wrecord_image_c]) from HZw5.out.same hkk)
  have HX0w6 := (show Hid (Own 0 5 .u8 w6 (.slice (some ⟨gX0, 0, none⟩) bs0.length bs0.length) bs0) from HX0w5.out.same hkk)
  have HGw6 := (show Hid (OwnL w6 (StFrameResult.rows ⟨Gcode, Gfsz, Gepoch, ⟨Grecord_kind, Grecord_txn, Grecord_prev, Grecord_page, Grecord_slot, ⟨Grecord_before_used, ⟨Grecord_before_data_e, Grecord_before_data_a, Grecord_before_data_c, Grecord_before_data_b⟩⟩, ⟨Grecord_after_used, ⟨Grecord_after_data_e, Grecord_after_data_a, Grecord_after_data_c, Grecord_after_data_b⟩⟩, Grecord_uN, Grecord_nT, ⟨Grecord_txns_e, Grecord_txns_a, Grecord_txns_n, Grecord_txns_c, Grecord_txns_b⟩, ⟨Grecord_dirty_e, Grecord_dirty_a, Grecord_dirty_n, Grecord_dirty_c, Grecord_dirty_b⟩, ⟨Grecord_image_e, Grecord_image_a, Grecord_image_c, Grecord_image_b⟩⟩⟩)) from HGw5.out.same hkk)
  have HYw6 := (show Hid (Blk w6 (w4.heap.size) 39 [.int .i64 Gcode, .int .i64 Gfsz, .int .i64 Gepoch, .int .i64 Grecord_kind, .int .i64 Grecord_txn, .int .i64 Grecord_prev, .int .i64 Grecord_page, .int .i64 Grecord_slot, .bool Grecord_before_used, .slice Grecord_before_data_a Grecord_before_data_b.length Grecord_before_data_c, .bool Grecord_after_used, .slice Grecord_after_data_a Grecord_after_data_b.length Grecord_after_data_c, .int .i64 Grecord_uN, .int .i64 Grecord_nT, .slice Grecord_txns_a Grecord_txns_n Grecord_txns_c, .slice Grecord_dirty_a Grecord_dirty_n Grecord_dirty_c, .slice Grecord_image_a Grecord_image_b.length Grecord_image_c]) from HYw5.out.same hkk)
  have HKw6 := (show Hid (Same w w6) from HKw5.out.trans hkk)
  clear hkk hk
  clear cZ_0 cZ_1 cZ_2 cZ_3 cZ_4 cZ_5 cZ_6 cZ_7 cZ_8 cZ_9 cZ_10 cZ_11 cZ_12 cZ_13 cZ_14 cZ_15 cZ_16 lZ cY_0 cY_1 cY_2 cY_3 cY_4 cY_5 cY_6 cY_7 cY_8 cY_9 cY_10 cY_11 cY_12 cY_13 cY_14 cY_15 cY_16 lY
  as_aux_lemma =>
  have cZ_0 : w6.cell? ⟨w2.heap.size, 0, none⟩ = some (.int .i64 Wcode) := HZw6.out.cell 0
  have cZ_1 : w6.cell? ⟨w2.heap.size, 1, none⟩ = some (.int .i64 Wfsz) := HZw6.out.cell 1
  have cZ_2 : w6.cell? ⟨w2.heap.size, 2, none⟩ = some (.int .i64 Wepoch) := HZw6.out.cell 2
  have cZ_3 : w6.cell? ⟨w2.heap.size, 3, none⟩ = some (.int .i64 Wrecord_kind) := HZw6.out.cell 3
  have cZ_4 : w6.cell? ⟨w2.heap.size, 4, none⟩ = some (.int .i64 Wrecord_txn) := HZw6.out.cell 4
  have cZ_5 : w6.cell? ⟨w2.heap.size, 5, none⟩ = some (.int .i64 Wrecord_prev) := HZw6.out.cell 5
  have cZ_6 : w6.cell? ⟨w2.heap.size, 6, none⟩ = some (.int .i64 Wrecord_page) := HZw6.out.cell 6
  have cZ_7 : w6.cell? ⟨w2.heap.size, 7, none⟩ = some (.int .i64 Wrecord_slot) := HZw6.out.cell 7
  have cZ_8 : w6.cell? ⟨w2.heap.size, 8, none⟩ = some (.bool Wrecord_before_used) := HZw6.out.cell 8
  have cZ_9 : w6.cell? ⟨w2.heap.size, 9, none⟩ = some (.slice Wrecord_before_data_a Wrecord_before_data_b.length Wrecord_before_data_c) := HZw6.out.cell 9
  have cZ_10 : w6.cell? ⟨w2.heap.size, 10, none⟩ = some (.bool Wrecord_after_used) := HZw6.out.cell 10
  have cZ_11 : w6.cell? ⟨w2.heap.size, 11, none⟩ = some (.slice Wrecord_after_data_a Wrecord_after_data_b.length Wrecord_after_data_c) := HZw6.out.cell 11
  have cZ_12 : w6.cell? ⟨w2.heap.size, 12, none⟩ = some (.int .i64 Wrecord_uN) := HZw6.out.cell 12
  have cZ_13 : w6.cell? ⟨w2.heap.size, 13, none⟩ = some (.int .i64 Wrecord_nT) := HZw6.out.cell 13
  have cZ_14 : w6.cell? ⟨w2.heap.size, 14, none⟩ = some (.slice Wrecord_txns_a Wrecord_txns_n Wrecord_txns_c) := HZw6.out.cell 14
  have cZ_15 : w6.cell? ⟨w2.heap.size, 15, none⟩ = some (.slice Wrecord_dirty_a Wrecord_dirty_n Wrecord_dirty_c) := HZw6.out.cell 15
  have cZ_16 : w6.cell? ⟨w2.heap.size, 16, none⟩ = some (.slice Wrecord_image_a Wrecord_image_b.length Wrecord_image_c) := HZw6.out.cell 16
  have lZ := HZw6.out.lt
  have cY_0 : w6.cell? ⟨w4.heap.size, 0, none⟩ = some (.int .i64 Gcode) := HYw6.out.cell 0
  have cY_1 : w6.cell? ⟨w4.heap.size, 1, none⟩ = some (.int .i64 Gfsz) := HYw6.out.cell 1
  have cY_2 : w6.cell? ⟨w4.heap.size, 2, none⟩ = some (.int .i64 Gepoch) := HYw6.out.cell 2
  have cY_3 : w6.cell? ⟨w4.heap.size, 3, none⟩ = some (.int .i64 Grecord_kind) := HYw6.out.cell 3
  have cY_4 : w6.cell? ⟨w4.heap.size, 4, none⟩ = some (.int .i64 Grecord_txn) := HYw6.out.cell 4
  have cY_5 : w6.cell? ⟨w4.heap.size, 5, none⟩ = some (.int .i64 Grecord_prev) := HYw6.out.cell 5
  have cY_6 : w6.cell? ⟨w4.heap.size, 6, none⟩ = some (.int .i64 Grecord_page) := HYw6.out.cell 6
  have cY_7 : w6.cell? ⟨w4.heap.size, 7, none⟩ = some (.int .i64 Grecord_slot) := HYw6.out.cell 7
  have cY_8 : w6.cell? ⟨w4.heap.size, 8, none⟩ = some (.bool Grecord_before_used) := HYw6.out.cell 8
  have cY_9 : w6.cell? ⟨w4.heap.size, 9, none⟩ = some (.slice Grecord_before_data_a Grecord_before_data_b.length Grecord_before_data_c) := HYw6.out.cell 9
  have cY_10 : w6.cell? ⟨w4.heap.size, 10, none⟩ = some (.bool Grecord_after_used) := HYw6.out.cell 10
  have cY_11 : w6.cell? ⟨w4.heap.size, 11, none⟩ = some (.slice Grecord_after_data_a Grecord_after_data_b.length Grecord_after_data_c) := HYw6.out.cell 11
  have cY_12 : w6.cell? ⟨w4.heap.size, 12, none⟩ = some (.int .i64 Grecord_uN) := HYw6.out.cell 12
  have cY_13 : w6.cell? ⟨w4.heap.size, 13, none⟩ = some (.int .i64 Grecord_nT) := HYw6.out.cell 13
  have cY_14 : w6.cell? ⟨w4.heap.size, 14, none⟩ = some (.slice Grecord_txns_a Grecord_txns_n Grecord_txns_c) := HYw6.out.cell 14
  have cY_15 : w6.cell? ⟨w4.heap.size, 15, none⟩ = some (.slice Grecord_dirty_a Grecord_dirty_n Grecord_dirty_c) := HYw6.out.cell 15
  have cY_16 : w6.cell? ⟨w4.heap.size, 16, none⟩ = some (.slice Grecord_image_a Grecord_image_b.length Grecord_image_c) := HYw6.out.cell 16
  have lY := HYw6.out.lt
  go_wp2_with fail
  refine (eqByteS_own 0 _ _ bs0 _ (by omega) HX0w6.out HD0w6.out).mono ?_
  rintro e w7 ⟨rfl, nn, hww⟩
  have hk : Same w6 w7 := by rw [hww]; exact (Kept.refl _ _).drewN _
  clear hww
  have hkk : Same w6 w7 := hk
  have hzw7 := hkk.size
  have HWw7 := (show Hid (OwnL w7 (StFrameResult.rows ⟨Wcode, Wfsz, Wepoch, ⟨Wrecord_kind, Wrecord_txn, Wrecord_prev, Wrecord_page, Wrecord_slot, ⟨Wrecord_before_used, ⟨Wrecord_before_data_e, Wrecord_before_data_a, Wrecord_before_data_c, Wrecord_before_data_b⟩⟩, ⟨Wrecord_after_used, ⟨Wrecord_after_data_e, Wrecord_after_data_a, Wrecord_after_data_c, Wrecord_after_data_b⟩⟩, Wrecord_uN, Wrecord_nT, ⟨Wrecord_txns_e, Wrecord_txns_a, Wrecord_txns_n, Wrecord_txns_c, Wrecord_txns_b⟩, ⟨Wrecord_dirty_e, Wrecord_dirty_a, Wrecord_dirty_n, Wrecord_dirty_c, Wrecord_dirty_b⟩, ⟨Wrecord_image_e, Wrecord_image_a, Wrecord_image_c, Wrecord_image_b⟩⟩⟩)) from HWw6.out.same hkk)
  have HZw7 := (show Hid (Blk w7 (w2.heap.size) 39 [.int .i64 Wcode, .int .i64 Wfsz, .int .i64 Wepoch, .int .i64 Wrecord_kind, .int .i64 Wrecord_txn, .int .i64 Wrecord_prev, .int .i64 Wrecord_page, .int .i64 Wrecord_slot, .bool Wrecord_before_used, .slice Wrecord_before_data_a Wrecord_before_data_b.length Wrecord_before_data_c, .bool Wrecord_after_used, .slice Wrecord_after_data_a Wrecord_after_data_b.length Wrecord_after_data_c, .int .i64 Wrecord_uN, .int .i64 Wrecord_nT, .slice Wrecord_txns_a Wrecord_txns_n Wrecord_txns_c, .slice Wrecord_dirty_a Wrecord_dirty_n Wrecord_dirty_c, .slice Wrecord_image_a Wrecord_image_b.length Wrecord_image_c]) from HZw6.out.same hkk)
  have HX0w7 := (show Hid (Own 0 5 .u8 w7 (.slice (some ⟨gX0, 0, none⟩) bs0.length bs0.length) bs0) from HX0w6.out.same hkk)
  have HGw7 := (show Hid (OwnL w7 (StFrameResult.rows ⟨Gcode, Gfsz, Gepoch, ⟨Grecord_kind, Grecord_txn, Grecord_prev, Grecord_page, Grecord_slot, ⟨Grecord_before_used, ⟨Grecord_before_data_e, Grecord_before_data_a, Grecord_before_data_c, Grecord_before_data_b⟩⟩, ⟨Grecord_after_used, ⟨Grecord_after_data_e, Grecord_after_data_a, Grecord_after_data_c, Grecord_after_data_b⟩⟩, Grecord_uN, Grecord_nT, ⟨Grecord_txns_e, Grecord_txns_a, Grecord_txns_n, Grecord_txns_c, Grecord_txns_b⟩, ⟨Grecord_dirty_e, Grecord_dirty_a, Grecord_dirty_n, Grecord_dirty_c, Grecord_dirty_b⟩, ⟨Grecord_image_e, Grecord_image_a, Grecord_image_c, Grecord_image_b⟩⟩⟩)) from HGw6.out.same hkk)
  have HYw7 := (show Hid (Blk w7 (w4.heap.size) 39 [.int .i64 Gcode, .int .i64 Gfsz, .int .i64 Gepoch, .int .i64 Grecord_kind, .int .i64 Grecord_txn, .int .i64 Grecord_prev, .int .i64 Grecord_page, .int .i64 Grecord_slot, .bool Grecord_before_used, .slice Grecord_before_data_a Grecord_before_data_b.length Grecord_before_data_c, .bool Grecord_after_used, .slice Grecord_after_data_a Grecord_after_data_b.length Grecord_after_data_c, .int .i64 Grecord_uN, .int .i64 Grecord_nT, .slice Grecord_txns_a Grecord_txns_n Grecord_txns_c, .slice Grecord_dirty_a Grecord_dirty_n Grecord_dirty_c, .slice Grecord_image_a Grecord_image_b.length Grecord_image_c]) from HYw6.out.same hkk)
  have HKw7 := (show Hid (Same w w7) from HKw6.out.trans hkk)
  clear hkk hk
  clear cZ_0 cZ_1 cZ_2 cZ_3 cZ_4 cZ_5 cZ_6 cZ_7 cZ_8 cZ_9 cZ_10 cZ_11 cZ_12 cZ_13 cZ_14 cZ_15 cZ_16 lZ cY_0 cY_1 cY_2 cY_3 cY_4 cY_5 cY_6 cY_7 cY_8 cY_9 cY_10 cY_11 cY_12 cY_13 cY_14 cY_15 cY_16 lY
  have hE0 : (0 : Int) ≤ 1 := by omega
  have hE0b : (1 : Int) ≤ 1 := by omega
  as_aux_lemma =>
  have cZ_0 : w7.cell? ⟨w2.heap.size, 0, none⟩ = some (.int .i64 Wcode) := HZw7.out.cell 0
  have cZ_1 : w7.cell? ⟨w2.heap.size, 1, none⟩ = some (.int .i64 Wfsz) := HZw7.out.cell 1
  have cZ_2 : w7.cell? ⟨w2.heap.size, 2, none⟩ = some (.int .i64 Wepoch) := HZw7.out.cell 2
  have cZ_3 : w7.cell? ⟨w2.heap.size, 3, none⟩ = some (.int .i64 Wrecord_kind) := HZw7.out.cell 3
  have cZ_4 : w7.cell? ⟨w2.heap.size, 4, none⟩ = some (.int .i64 Wrecord_txn) := HZw7.out.cell 4
  have cZ_5 : w7.cell? ⟨w2.heap.size, 5, none⟩ = some (.int .i64 Wrecord_prev) := HZw7.out.cell 5
  have cZ_6 : w7.cell? ⟨w2.heap.size, 6, none⟩ = some (.int .i64 Wrecord_page) := HZw7.out.cell 6
  have cZ_7 : w7.cell? ⟨w2.heap.size, 7, none⟩ = some (.int .i64 Wrecord_slot) := HZw7.out.cell 7
  have cZ_8 : w7.cell? ⟨w2.heap.size, 8, none⟩ = some (.bool Wrecord_before_used) := HZw7.out.cell 8
  have cZ_9 : w7.cell? ⟨w2.heap.size, 9, none⟩ = some (.slice Wrecord_before_data_a Wrecord_before_data_b.length Wrecord_before_data_c) := HZw7.out.cell 9
  have cZ_10 : w7.cell? ⟨w2.heap.size, 10, none⟩ = some (.bool Wrecord_after_used) := HZw7.out.cell 10
  have cZ_11 : w7.cell? ⟨w2.heap.size, 11, none⟩ = some (.slice Wrecord_after_data_a Wrecord_after_data_b.length Wrecord_after_data_c) := HZw7.out.cell 11
  have cZ_12 : w7.cell? ⟨w2.heap.size, 12, none⟩ = some (.int .i64 Wrecord_uN) := HZw7.out.cell 12
  have cZ_13 : w7.cell? ⟨w2.heap.size, 13, none⟩ = some (.int .i64 Wrecord_nT) := HZw7.out.cell 13
  have cZ_14 : w7.cell? ⟨w2.heap.size, 14, none⟩ = some (.slice Wrecord_txns_a Wrecord_txns_n Wrecord_txns_c) := HZw7.out.cell 14
  have cZ_15 : w7.cell? ⟨w2.heap.size, 15, none⟩ = some (.slice Wrecord_dirty_a Wrecord_dirty_n Wrecord_dirty_c) := HZw7.out.cell 15
  have cZ_16 : w7.cell? ⟨w2.heap.size, 16, none⟩ = some (.slice Wrecord_image_a Wrecord_image_b.length Wrecord_image_c) := HZw7.out.cell 16
  have lZ := HZw7.out.lt
  have cY_0 : w7.cell? ⟨w4.heap.size, 0, none⟩ = some (.int .i64 Gcode) := HYw7.out.cell 0
  have cY_1 : w7.cell? ⟨w4.heap.size, 1, none⟩ = some (.int .i64 Gfsz) := HYw7.out.cell 1
  have cY_2 : w7.cell? ⟨w4.heap.size, 2, none⟩ = some (.int .i64 Gepoch) := HYw7.out.cell 2
  have cY_3 : w7.cell? ⟨w4.heap.size, 3, none⟩ = some (.int .i64 Grecord_kind) := HYw7.out.cell 3
  have cY_4 : w7.cell? ⟨w4.heap.size, 4, none⟩ = some (.int .i64 Grecord_txn) := HYw7.out.cell 4
  have cY_5 : w7.cell? ⟨w4.heap.size, 5, none⟩ = some (.int .i64 Grecord_prev) := HYw7.out.cell 5
  have cY_6 : w7.cell? ⟨w4.heap.size, 6, none⟩ = some (.int .i64 Grecord_page) := HYw7.out.cell 6
  have cY_7 : w7.cell? ⟨w4.heap.size, 7, none⟩ = some (.int .i64 Grecord_slot) := HYw7.out.cell 7
  have cY_8 : w7.cell? ⟨w4.heap.size, 8, none⟩ = some (.bool Grecord_before_used) := HYw7.out.cell 8
  have cY_9 : w7.cell? ⟨w4.heap.size, 9, none⟩ = some (.slice Grecord_before_data_a Grecord_before_data_b.length Grecord_before_data_c) := HYw7.out.cell 9
  have cY_10 : w7.cell? ⟨w4.heap.size, 10, none⟩ = some (.bool Grecord_after_used) := HYw7.out.cell 10
  have cY_11 : w7.cell? ⟨w4.heap.size, 11, none⟩ = some (.slice Grecord_after_data_a Grecord_after_data_b.length Grecord_after_data_c) := HYw7.out.cell 11
  have cY_12 : w7.cell? ⟨w4.heap.size, 12, none⟩ = some (.int .i64 Grecord_uN) := HYw7.out.cell 12
  have cY_13 : w7.cell? ⟨w4.heap.size, 13, none⟩ = some (.int .i64 Grecord_nT) := HYw7.out.cell 13
  have cY_14 : w7.cell? ⟨w4.heap.size, 14, none⟩ = some (.slice Grecord_txns_a Grecord_txns_n Grecord_txns_c) := HYw7.out.cell 14
  have cY_15 : w7.cell? ⟨w4.heap.size, 15, none⟩ = some (.slice Grecord_dirty_a Grecord_dirty_n Grecord_dirty_c) := HYw7.out.cell 15
  have cY_16 : w7.cell? ⟨w4.heap.size, 16, none⟩ = some (.slice Grecord_image_a Grecord_image_b.length Grecord_image_c) := HYw7.out.cell 16
  have lY := HYw7.out.lt
  go_wp2_with fail
  refine (markByteS_own 0 _ bs0 1 _ (by omega) (by omega) (by omega) HX0w7.out).mono ?_
  rintro e w8 ⟨rfl, _, hk⟩
  obtain ⟨E1, hE⟩ : ∃ E : Int, 1 + (bs0.length : Int) = E := ⟨_, rfl⟩
  have hE1 : 0 ≤ E1 := by omega
  have hE1b : E1 ≤ 7000001 := by omega
  rw [hE]
  clear hE
  have hzw8 := hk.size
  have HWw8 := (show Hid (OwnL w8 (StFrameResult.rows ⟨Wcode, Wfsz, Wepoch, ⟨Wrecord_kind, Wrecord_txn, Wrecord_prev, Wrecord_page, Wrecord_slot, ⟨Wrecord_before_used, ⟨Wrecord_before_data_e, Wrecord_before_data_a, Wrecord_before_data_c, Wrecord_before_data_b⟩⟩, ⟨Wrecord_after_used, ⟨Wrecord_after_data_e, Wrecord_after_data_a, Wrecord_after_data_c, Wrecord_after_data_b⟩⟩, Wrecord_uN, Wrecord_nT, ⟨Wrecord_txns_e, Wrecord_txns_a, Wrecord_txns_n, Wrecord_txns_c, Wrecord_txns_b⟩, ⟨Wrecord_dirty_e, Wrecord_dirty_a, Wrecord_dirty_n, Wrecord_dirty_c, Wrecord_dirty_b⟩, ⟨Wrecord_image_e, Wrecord_image_a, Wrecord_image_c, Wrecord_image_b⟩⟩⟩)) from HWw7.out.kept hk (fun b hb e => by have h1 := HFX0.out _ e; have h2 := HFW.out b hb; omega))
  have HZw8 := (show Hid (Blk w8 (w2.heap.size) 39 [.int .i64 Wcode, .int .i64 Wfsz, .int .i64 Wepoch, .int .i64 Wrecord_kind, .int .i64 Wrecord_txn, .int .i64 Wrecord_prev, .int .i64 Wrecord_page, .int .i64 Wrecord_slot, .bool Wrecord_before_used, .slice Wrecord_before_data_a Wrecord_before_data_b.length Wrecord_before_data_c, .bool Wrecord_after_used, .slice Wrecord_after_data_a Wrecord_after_data_b.length Wrecord_after_data_c, .int .i64 Wrecord_uN, .int .i64 Wrecord_nT, .slice Wrecord_txns_a Wrecord_txns_n Wrecord_txns_c, .slice Wrecord_dirty_a Wrecord_dirty_n Wrecord_dirty_c, .slice Wrecord_image_a Wrecord_image_b.length Wrecord_image_c]) from HZw7.out.kept hk (fun e => by have h1 := HFX0.out _ e; omega))
  have HGw8 := (show Hid (OwnL w8 (StFrameResult.rows ⟨Gcode, Gfsz, Gepoch, ⟨Grecord_kind, Grecord_txn, Grecord_prev, Grecord_page, Grecord_slot, ⟨Grecord_before_used, ⟨Grecord_before_data_e, Grecord_before_data_a, Grecord_before_data_c, Grecord_before_data_b⟩⟩, ⟨Grecord_after_used, ⟨Grecord_after_data_e, Grecord_after_data_a, Grecord_after_data_c, Grecord_after_data_b⟩⟩, Grecord_uN, Grecord_nT, ⟨Grecord_txns_e, Grecord_txns_a, Grecord_txns_n, Grecord_txns_c, Grecord_txns_b⟩, ⟨Grecord_dirty_e, Grecord_dirty_a, Grecord_dirty_n, Grecord_dirty_c, Grecord_dirty_b⟩, ⟨Grecord_image_e, Grecord_image_a, Grecord_image_c, Grecord_image_b⟩⟩⟩)) from HGw7.out.kept hk (fun b hb e => by have h1 := HFX0.out _ e; have h2 := HFG.out b hb; omega))
  have HYw8 := (show Hid (Blk w8 (w4.heap.size) 39 [.int .i64 Gcode, .int .i64 Gfsz, .int .i64 Gepoch, .int .i64 Grecord_kind, .int .i64 Grecord_txn, .int .i64 Grecord_prev, .int .i64 Grecord_page, .int .i64 Grecord_slot, .bool Grecord_before_used, .slice Grecord_before_data_a Grecord_before_data_b.length Grecord_before_data_c, .bool Grecord_after_used, .slice Grecord_after_data_a Grecord_after_data_b.length Grecord_after_data_c, .int .i64 Grecord_uN, .int .i64 Grecord_nT, .slice Grecord_txns_a Grecord_txns_n Grecord_txns_c, .slice Grecord_dirty_a Grecord_dirty_n Grecord_dirty_c, .slice Grecord_image_a Grecord_image_b.length Grecord_image_c]) from HYw7.out.kept hk (fun e => by have h1 := HFX0.out _ e; omega))
  have HKw8 := (show Hid (Same w w8) from HKw7.out.next hk (fun b hb e => by have h1 := HFX0.out _ e; omega))
  clear cZ_0 cZ_1 cZ_2 cZ_3 cZ_4 cZ_5 cZ_6 cZ_7 cZ_8 cZ_9 cZ_10 cZ_11 cZ_12 cZ_13 cZ_14 cZ_15 cZ_16 lZ cY_0 cY_1 cY_2 cY_3 cY_4 cY_5 cY_6 cY_7 cY_8 cY_9 cY_10 cY_11 cY_12 cY_13 cY_14 cY_15 cY_16 lY
  clear hk
  have hEn : ¬ E1 < 0 := by omega
  as_aux_lemma =>
  have cZ_0 : w8.cell? ⟨w2.heap.size, 0, none⟩ = some (.int .i64 Wcode) := HZw8.out.cell 0
  have cZ_1 : w8.cell? ⟨w2.heap.size, 1, none⟩ = some (.int .i64 Wfsz) := HZw8.out.cell 1
  have cZ_2 : w8.cell? ⟨w2.heap.size, 2, none⟩ = some (.int .i64 Wepoch) := HZw8.out.cell 2
  have cZ_3 : w8.cell? ⟨w2.heap.size, 3, none⟩ = some (.int .i64 Wrecord_kind) := HZw8.out.cell 3
  have cZ_4 : w8.cell? ⟨w2.heap.size, 4, none⟩ = some (.int .i64 Wrecord_txn) := HZw8.out.cell 4
  have cZ_5 : w8.cell? ⟨w2.heap.size, 5, none⟩ = some (.int .i64 Wrecord_prev) := HZw8.out.cell 5
  have cZ_6 : w8.cell? ⟨w2.heap.size, 6, none⟩ = some (.int .i64 Wrecord_page) := HZw8.out.cell 6
  have cZ_7 : w8.cell? ⟨w2.heap.size, 7, none⟩ = some (.int .i64 Wrecord_slot) := HZw8.out.cell 7
  have cZ_8 : w8.cell? ⟨w2.heap.size, 8, none⟩ = some (.bool Wrecord_before_used) := HZw8.out.cell 8
  have cZ_9 : w8.cell? ⟨w2.heap.size, 9, none⟩ = some (.slice Wrecord_before_data_a Wrecord_before_data_b.length Wrecord_before_data_c) := HZw8.out.cell 9
  have cZ_10 : w8.cell? ⟨w2.heap.size, 10, none⟩ = some (.bool Wrecord_after_used) := HZw8.out.cell 10
  have cZ_11 : w8.cell? ⟨w2.heap.size, 11, none⟩ = some (.slice Wrecord_after_data_a Wrecord_after_data_b.length Wrecord_after_data_c) := HZw8.out.cell 11
  have cZ_12 : w8.cell? ⟨w2.heap.size, 12, none⟩ = some (.int .i64 Wrecord_uN) := HZw8.out.cell 12
  have cZ_13 : w8.cell? ⟨w2.heap.size, 13, none⟩ = some (.int .i64 Wrecord_nT) := HZw8.out.cell 13
  have cZ_14 : w8.cell? ⟨w2.heap.size, 14, none⟩ = some (.slice Wrecord_txns_a Wrecord_txns_n Wrecord_txns_c) := HZw8.out.cell 14
  have cZ_15 : w8.cell? ⟨w2.heap.size, 15, none⟩ = some (.slice Wrecord_dirty_a Wrecord_dirty_n Wrecord_dirty_c) := HZw8.out.cell 15
  have cZ_16 : w8.cell? ⟨w2.heap.size, 16, none⟩ = some (.slice Wrecord_image_a Wrecord_image_b.length Wrecord_image_c) := HZw8.out.cell 16
  have lZ := HZw8.out.lt
  have cY_0 : w8.cell? ⟨w4.heap.size, 0, none⟩ = some (.int .i64 Gcode) := HYw8.out.cell 0
  have cY_1 : w8.cell? ⟨w4.heap.size, 1, none⟩ = some (.int .i64 Gfsz) := HYw8.out.cell 1
  have cY_2 : w8.cell? ⟨w4.heap.size, 2, none⟩ = some (.int .i64 Gepoch) := HYw8.out.cell 2
  have cY_3 : w8.cell? ⟨w4.heap.size, 3, none⟩ = some (.int .i64 Grecord_kind) := HYw8.out.cell 3
  have cY_4 : w8.cell? ⟨w4.heap.size, 4, none⟩ = some (.int .i64 Grecord_txn) := HYw8.out.cell 4
  have cY_5 : w8.cell? ⟨w4.heap.size, 5, none⟩ = some (.int .i64 Grecord_prev) := HYw8.out.cell 5
  have cY_6 : w8.cell? ⟨w4.heap.size, 6, none⟩ = some (.int .i64 Grecord_page) := HYw8.out.cell 6
  have cY_7 : w8.cell? ⟨w4.heap.size, 7, none⟩ = some (.int .i64 Grecord_slot) := HYw8.out.cell 7
  have cY_8 : w8.cell? ⟨w4.heap.size, 8, none⟩ = some (.bool Grecord_before_used) := HYw8.out.cell 8
  have cY_9 : w8.cell? ⟨w4.heap.size, 9, none⟩ = some (.slice Grecord_before_data_a Grecord_before_data_b.length Grecord_before_data_c) := HYw8.out.cell 9
  have cY_10 : w8.cell? ⟨w4.heap.size, 10, none⟩ = some (.bool Grecord_after_used) := HYw8.out.cell 10
  have cY_11 : w8.cell? ⟨w4.heap.size, 11, none⟩ = some (.slice Grecord_after_data_a Grecord_after_data_b.length Grecord_after_data_c) := HYw8.out.cell 11
  have cY_12 : w8.cell? ⟨w4.heap.size, 12, none⟩ = some (.int .i64 Grecord_uN) := HYw8.out.cell 12
  have cY_13 : w8.cell? ⟨w4.heap.size, 13, none⟩ = some (.int .i64 Grecord_nT) := HYw8.out.cell 13
  have cY_14 : w8.cell? ⟨w4.heap.size, 14, none⟩ = some (.slice Grecord_txns_a Grecord_txns_n Grecord_txns_c) := HYw8.out.cell 14
  have cY_15 : w8.cell? ⟨w4.heap.size, 15, none⟩ = some (.slice Grecord_dirty_a Grecord_dirty_n Grecord_dirty_c) := HYw8.out.cell 15
  have cY_16 : w8.cell? ⟨w4.heap.size, 16, none⟩ = some (.slice Grecord_image_a Grecord_image_b.length Grecord_image_c) := HYw8.out.cell 16
  have lY := HYw8.out.lt
  go_wp2_with fail
  refine (eqFrameResult_own ⟨Gcode, Gfsz, Gepoch, ⟨Grecord_kind, Grecord_txn, Grecord_prev, Grecord_page, Grecord_slot, ⟨Grecord_before_used, ⟨Grecord_before_data_e, Grecord_before_data_a, Grecord_before_data_c, Grecord_before_data_b⟩⟩, ⟨Grecord_after_used, ⟨Grecord_after_data_e, Grecord_after_data_a, Grecord_after_data_c, Grecord_after_data_b⟩⟩, Grecord_uN, Grecord_nT, ⟨Grecord_txns_e, Grecord_txns_a, Grecord_txns_n, Grecord_txns_c, Grecord_txns_b⟩, ⟨Grecord_dirty_e, Grecord_dirty_a, Grecord_dirty_n, Grecord_dirty_c, Grecord_dirty_b⟩, ⟨Grecord_image_e, Grecord_image_a, Grecord_image_c, Grecord_image_b⟩⟩⟩ ⟨Wcode, Wfsz, Wepoch, ⟨Wrecord_kind, Wrecord_txn, Wrecord_prev, Wrecord_page, Wrecord_slot, ⟨Wrecord_before_used, ⟨Wrecord_before_data_e, Wrecord_before_data_a, Wrecord_before_data_c, Wrecord_before_data_b⟩⟩, ⟨Wrecord_after_used, ⟨Wrecord_after_data_e, Wrecord_after_data_a, Wrecord_after_data_c, Wrecord_after_data_b⟩⟩, Wrecord_uN, Wrecord_nT, ⟨Wrecord_txns_e, Wrecord_txns_a, Wrecord_txns_n, Wrecord_txns_c, Wrecord_txns_b⟩, ⟨Wrecord_dirty_e, Wrecord_dirty_a, Wrecord_dirty_n, Wrecord_dirty_c, Wrecord_dirty_b⟩, ⟨Wrecord_image_e, Wrecord_image_a, Wrecord_image_c, Wrecord_image_b⟩⟩⟩ _ (by omega) (HDG.out.trans HDW.out.symm) HGw8.out HWw8.out).mono ?_
  rintro e w9 ⟨rfl, hk⟩
  have hkk : Same w8 w9 := hk
  have hzw9 := hkk.size
  have HWw9 := (show Hid (OwnL w9 (StFrameResult.rows ⟨Wcode, Wfsz, Wepoch, ⟨Wrecord_kind, Wrecord_txn, Wrecord_prev, Wrecord_page, Wrecord_slot, ⟨Wrecord_before_used, ⟨Wrecord_before_data_e, Wrecord_before_data_a, Wrecord_before_data_c, Wrecord_before_data_b⟩⟩, ⟨Wrecord_after_used, ⟨Wrecord_after_data_e, Wrecord_after_data_a, Wrecord_after_data_c, Wrecord_after_data_b⟩⟩, Wrecord_uN, Wrecord_nT, ⟨Wrecord_txns_e, Wrecord_txns_a, Wrecord_txns_n, Wrecord_txns_c, Wrecord_txns_b⟩, ⟨Wrecord_dirty_e, Wrecord_dirty_a, Wrecord_dirty_n, Wrecord_dirty_c, Wrecord_dirty_b⟩, ⟨Wrecord_image_e, Wrecord_image_a, Wrecord_image_c, Wrecord_image_b⟩⟩⟩)) from HWw8.out.same hkk)
  have HZw9 := (show Hid (Blk w9 (w2.heap.size) 39 [.int .i64 Wcode, .int .i64 Wfsz, .int .i64 Wepoch, .int .i64 Wrecord_kind, .int .i64 Wrecord_txn, .int .i64 Wrecord_prev, .int .i64 Wrecord_page, .int .i64 Wrecord_slot, .bool Wrecord_before_used, .slice Wrecord_before_data_a Wrecord_before_data_b.length Wrecord_before_data_c, .bool Wrecord_after_used, .slice Wrecord_after_data_a Wrecord_after_data_b.length Wrecord_after_data_c, .int .i64 Wrecord_uN, .int .i64 Wrecord_nT, .slice Wrecord_txns_a Wrecord_txns_n Wrecord_txns_c, .slice Wrecord_dirty_a Wrecord_dirty_n Wrecord_dirty_c, .slice Wrecord_image_a Wrecord_image_b.length Wrecord_image_c]) from HZw8.out.same hkk)
  have HGw9 := (show Hid (OwnL w9 (StFrameResult.rows ⟨Gcode, Gfsz, Gepoch, ⟨Grecord_kind, Grecord_txn, Grecord_prev, Grecord_page, Grecord_slot, ⟨Grecord_before_used, ⟨Grecord_before_data_e, Grecord_before_data_a, Grecord_before_data_c, Grecord_before_data_b⟩⟩, ⟨Grecord_after_used, ⟨Grecord_after_data_e, Grecord_after_data_a, Grecord_after_data_c, Grecord_after_data_b⟩⟩, Grecord_uN, Grecord_nT, ⟨Grecord_txns_e, Grecord_txns_a, Grecord_txns_n, Grecord_txns_c, Grecord_txns_b⟩, ⟨Grecord_dirty_e, Grecord_dirty_a, Grecord_dirty_n, Grecord_dirty_c, Grecord_dirty_b⟩, ⟨Grecord_image_e, Grecord_image_a, Grecord_image_c, Grecord_image_b⟩⟩⟩)) from HGw8.out.same hkk)
  have HYw9 := (show Hid (Blk w9 (w4.heap.size) 39 [.int .i64 Gcode, .int .i64 Gfsz, .int .i64 Gepoch, .int .i64 Grecord_kind, .int .i64 Grecord_txn, .int .i64 Grecord_prev, .int .i64 Grecord_page, .int .i64 Grecord_slot, .bool Grecord_before_used, .slice Grecord_before_data_a Grecord_before_data_b.length Grecord_before_data_c, .bool Grecord_after_used, .slice Grecord_after_data_a Grecord_after_data_b.length Grecord_after_data_c, .int .i64 Grecord_uN, .int .i64 Grecord_nT, .slice Grecord_txns_a Grecord_txns_n Grecord_txns_c, .slice Grecord_dirty_a Grecord_dirty_n Grecord_dirty_c, .slice Grecord_image_a Grecord_image_b.length Grecord_image_c]) from HYw8.out.same hkk)
  have HKw9 := (show Hid (Same w w9) from HKw8.out.trans hkk)
  clear hkk hk
  clear cZ_0 cZ_1 cZ_2 cZ_3 cZ_4 cZ_5 cZ_6 cZ_7 cZ_8 cZ_9 cZ_10 cZ_11 cZ_12 cZ_13 cZ_14 cZ_15 cZ_16 lZ cY_0 cY_1 cY_2 cY_3 cY_4 cY_5 cY_6 cY_7 cY_8 cY_9 cY_10 cY_11 cY_12 cY_13 cY_14 cY_15 cY_16 lY
  have hM2 : ¬ (1 + StFrameResult.size ⟨Gcode, Gfsz, Gepoch, ⟨Grecord_kind, Grecord_txn, Grecord_prev, Grecord_page, Grecord_slot, ⟨Grecord_before_used, ⟨Grecord_before_data_e, Grecord_before_data_a, Grecord_before_data_c, Grecord_before_data_b⟩⟩, ⟨Grecord_after_used, ⟨Grecord_after_data_e, Grecord_after_data_a, Grecord_after_data_c, Grecord_after_data_b⟩⟩, Grecord_uN, Grecord_nT, ⟨Grecord_txns_e, Grecord_txns_a, Grecord_txns_n, Grecord_txns_c, Grecord_txns_b⟩, ⟨Grecord_dirty_e, Grecord_dirty_a, Grecord_dirty_n, Grecord_dirty_c, Grecord_dirty_b⟩, ⟨Grecord_image_e, Grecord_image_a, Grecord_image_c, Grecord_image_b⟩⟩⟩) < 0 := by omega
  obtain ⟨M, hM⟩ : ∃ M, 1 + StFrameResult.size ⟨Gcode, Gfsz, Gepoch, ⟨Grecord_kind, Grecord_txn, Grecord_prev, Grecord_page, Grecord_slot, ⟨Grecord_before_used, ⟨Grecord_before_data_e, Grecord_before_data_a, Grecord_before_data_c, Grecord_before_data_b⟩⟩, ⟨Grecord_after_used, ⟨Grecord_after_data_e, Grecord_after_data_a, Grecord_after_data_c, Grecord_after_data_b⟩⟩, Grecord_uN, Grecord_nT, ⟨Grecord_txns_e, Grecord_txns_a, Grecord_txns_n, Grecord_txns_c, Grecord_txns_b⟩, ⟨Grecord_dirty_e, Grecord_dirty_a, Grecord_dirty_n, Grecord_dirty_c, Grecord_dirty_b⟩, ⟨Grecord_image_e, Grecord_image_a, Grecord_image_c, Grecord_image_b⟩⟩⟩ = M := ⟨_, rfl⟩
  have HM := (show Hid (1 + StFrameResult.size ⟨Gcode, Gfsz, Gepoch, ⟨Grecord_kind, Grecord_txn, Grecord_prev, Grecord_page, Grecord_slot, ⟨Grecord_before_used, ⟨Grecord_before_data_e, Grecord_before_data_a, Grecord_before_data_c, Grecord_before_data_b⟩⟩, ⟨Grecord_after_used, ⟨Grecord_after_data_e, Grecord_after_data_a, Grecord_after_data_c, Grecord_after_data_b⟩⟩, Grecord_uN, Grecord_nT, ⟨Grecord_txns_e, Grecord_txns_a, Grecord_txns_n, Grecord_txns_c, Grecord_txns_b⟩, ⟨Grecord_dirty_e, Grecord_dirty_a, Grecord_dirty_n, Grecord_dirty_c, Grecord_dirty_b⟩, ⟨Grecord_image_e, Grecord_image_a, Grecord_image_c, Grecord_image_b⟩⟩⟩ = M) from hM)
  have hM3 : 0 ≤ M ∧ M ≤ 1125899906842624 := by omega
  rw [hM] at hM2
  clear hM
  as_aux_lemma =>
  have cZ_0 : w9.cell? ⟨w2.heap.size, 0, none⟩ = some (.int .i64 Wcode) := HZw9.out.cell 0
  have cZ_1 : w9.cell? ⟨w2.heap.size, 1, none⟩ = some (.int .i64 Wfsz) := HZw9.out.cell 1
  have cZ_2 : w9.cell? ⟨w2.heap.size, 2, none⟩ = some (.int .i64 Wepoch) := HZw9.out.cell 2
  have cZ_3 : w9.cell? ⟨w2.heap.size, 3, none⟩ = some (.int .i64 Wrecord_kind) := HZw9.out.cell 3
  have cZ_4 : w9.cell? ⟨w2.heap.size, 4, none⟩ = some (.int .i64 Wrecord_txn) := HZw9.out.cell 4
  have cZ_5 : w9.cell? ⟨w2.heap.size, 5, none⟩ = some (.int .i64 Wrecord_prev) := HZw9.out.cell 5
  have cZ_6 : w9.cell? ⟨w2.heap.size, 6, none⟩ = some (.int .i64 Wrecord_page) := HZw9.out.cell 6
  have cZ_7 : w9.cell? ⟨w2.heap.size, 7, none⟩ = some (.int .i64 Wrecord_slot) := HZw9.out.cell 7
  have cZ_8 : w9.cell? ⟨w2.heap.size, 8, none⟩ = some (.bool Wrecord_before_used) := HZw9.out.cell 8
  have cZ_9 : w9.cell? ⟨w2.heap.size, 9, none⟩ = some (.slice Wrecord_before_data_a Wrecord_before_data_b.length Wrecord_before_data_c) := HZw9.out.cell 9
  have cZ_10 : w9.cell? ⟨w2.heap.size, 10, none⟩ = some (.bool Wrecord_after_used) := HZw9.out.cell 10
  have cZ_11 : w9.cell? ⟨w2.heap.size, 11, none⟩ = some (.slice Wrecord_after_data_a Wrecord_after_data_b.length Wrecord_after_data_c) := HZw9.out.cell 11
  have cZ_12 : w9.cell? ⟨w2.heap.size, 12, none⟩ = some (.int .i64 Wrecord_uN) := HZw9.out.cell 12
  have cZ_13 : w9.cell? ⟨w2.heap.size, 13, none⟩ = some (.int .i64 Wrecord_nT) := HZw9.out.cell 13
  have cZ_14 : w9.cell? ⟨w2.heap.size, 14, none⟩ = some (.slice Wrecord_txns_a Wrecord_txns_n Wrecord_txns_c) := HZw9.out.cell 14
  have cZ_15 : w9.cell? ⟨w2.heap.size, 15, none⟩ = some (.slice Wrecord_dirty_a Wrecord_dirty_n Wrecord_dirty_c) := HZw9.out.cell 15
  have cZ_16 : w9.cell? ⟨w2.heap.size, 16, none⟩ = some (.slice Wrecord_image_a Wrecord_image_b.length Wrecord_image_c) := HZw9.out.cell 16
  have lZ := HZw9.out.lt
  have cY_0 : w9.cell? ⟨w4.heap.size, 0, none⟩ = some (.int .i64 Gcode) := HYw9.out.cell 0
  have cY_1 : w9.cell? ⟨w4.heap.size, 1, none⟩ = some (.int .i64 Gfsz) := HYw9.out.cell 1
  have cY_2 : w9.cell? ⟨w4.heap.size, 2, none⟩ = some (.int .i64 Gepoch) := HYw9.out.cell 2
  have cY_3 : w9.cell? ⟨w4.heap.size, 3, none⟩ = some (.int .i64 Grecord_kind) := HYw9.out.cell 3
  have cY_4 : w9.cell? ⟨w4.heap.size, 4, none⟩ = some (.int .i64 Grecord_txn) := HYw9.out.cell 4
  have cY_5 : w9.cell? ⟨w4.heap.size, 5, none⟩ = some (.int .i64 Grecord_prev) := HYw9.out.cell 5
  have cY_6 : w9.cell? ⟨w4.heap.size, 6, none⟩ = some (.int .i64 Grecord_page) := HYw9.out.cell 6
  have cY_7 : w9.cell? ⟨w4.heap.size, 7, none⟩ = some (.int .i64 Grecord_slot) := HYw9.out.cell 7
  have cY_8 : w9.cell? ⟨w4.heap.size, 8, none⟩ = some (.bool Grecord_before_used) := HYw9.out.cell 8
  have cY_9 : w9.cell? ⟨w4.heap.size, 9, none⟩ = some (.slice Grecord_before_data_a Grecord_before_data_b.length Grecord_before_data_c) := HYw9.out.cell 9
  have cY_10 : w9.cell? ⟨w4.heap.size, 10, none⟩ = some (.bool Grecord_after_used) := HYw9.out.cell 10
  have cY_11 : w9.cell? ⟨w4.heap.size, 11, none⟩ = some (.slice Grecord_after_data_a Grecord_after_data_b.length Grecord_after_data_c) := HYw9.out.cell 11
  have cY_12 : w9.cell? ⟨w4.heap.size, 12, none⟩ = some (.int .i64 Grecord_uN) := HYw9.out.cell 12
  have cY_13 : w9.cell? ⟨w4.heap.size, 13, none⟩ = some (.int .i64 Grecord_nT) := HYw9.out.cell 13
  have cY_14 : w9.cell? ⟨w4.heap.size, 14, none⟩ = some (.slice Grecord_txns_a Grecord_txns_n Grecord_txns_c) := HYw9.out.cell 14
  have cY_15 : w9.cell? ⟨w4.heap.size, 15, none⟩ = some (.slice Grecord_dirty_a Grecord_dirty_n Grecord_dirty_c) := HYw9.out.cell 15
  have cY_16 : w9.cell? ⟨w4.heap.size, 16, none⟩ = some (.slice Grecord_image_a Grecord_image_b.length Grecord_image_c) := HYw9.out.cell 16
  have lY := HYw9.out.lt
  go_wp2_with fail
  have hm := markFrameResult_own ⟨Gcode, Gfsz, Gepoch, ⟨Grecord_kind, Grecord_txn, Grecord_prev, Grecord_page, Grecord_slot, ⟨Grecord_before_used, ⟨Grecord_before_data_e, Grecord_before_data_a, Grecord_before_data_c, Grecord_before_data_b⟩⟩, ⟨Grecord_after_used, ⟨Grecord_after_data_e, Grecord_after_data_a, Grecord_after_data_c, Grecord_after_data_b⟩⟩, Grecord_uN, Grecord_nT, ⟨Grecord_txns_e, Grecord_txns_a, Grecord_txns_n, Grecord_txns_c, Grecord_txns_b⟩, ⟨Grecord_dirty_e, Grecord_dirty_a, Grecord_dirty_n, Grecord_dirty_c, Grecord_dirty_b⟩, ⟨Grecord_image_e, Grecord_image_a, Grecord_image_c, Grecord_image_b⟩⟩⟩ 1 w9 (by omega) (by rw [HM.out]; omega) HGw9.out
  rw [HM.out] at hm
  dsimp only [StFrameResult.val, StLogRecord.val, StPageRecord.val, BS.v, FR.v] at hm
  refine hm.mono ?_
  clear hm
  rintro e w10 ⟨rfl, ho, hk⟩
  have hzw10 := hk.size
  have HWw10 := (show Hid (OwnL w10 (StFrameResult.rows ⟨Wcode, Wfsz, Wepoch, ⟨Wrecord_kind, Wrecord_txn, Wrecord_prev, Wrecord_page, Wrecord_slot, ⟨Wrecord_before_used, ⟨Wrecord_before_data_e, Wrecord_before_data_a, Wrecord_before_data_c, Wrecord_before_data_b⟩⟩, ⟨Wrecord_after_used, ⟨Wrecord_after_data_e, Wrecord_after_data_a, Wrecord_after_data_c, Wrecord_after_data_b⟩⟩, Wrecord_uN, Wrecord_nT, ⟨Wrecord_txns_e, Wrecord_txns_a, Wrecord_txns_n, Wrecord_txns_c, Wrecord_txns_b⟩, ⟨Wrecord_dirty_e, Wrecord_dirty_a, Wrecord_dirty_n, Wrecord_dirty_c, Wrecord_dirty_b⟩, ⟨Wrecord_image_e, Wrecord_image_a, Wrecord_image_c, Wrecord_image_b⟩⟩⟩)) from HWw9.out.kept hk (fun b hb e => by have h1 := HFG.out _ e; have h2 := HFW.out b hb; omega))
  have HZw10 := (show Hid (Blk w10 (w2.heap.size) 39 [.int .i64 Wcode, .int .i64 Wfsz, .int .i64 Wepoch, .int .i64 Wrecord_kind, .int .i64 Wrecord_txn, .int .i64 Wrecord_prev, .int .i64 Wrecord_page, .int .i64 Wrecord_slot, .bool Wrecord_before_used, .slice Wrecord_before_data_a Wrecord_before_data_b.length Wrecord_before_data_c, .bool Wrecord_after_used, .slice Wrecord_after_data_a Wrecord_after_data_b.length Wrecord_after_data_c, .int .i64 Wrecord_uN, .int .i64 Wrecord_nT, .slice Wrecord_txns_a Wrecord_txns_n Wrecord_txns_c, .slice Wrecord_dirty_a Wrecord_dirty_n Wrecord_dirty_c, .slice Wrecord_image_a Wrecord_image_b.length Wrecord_image_c]) from HZw9.out.kept hk (fun e => by have h1 := HFG.out _ e; omega))
  have HYw10 := (show Hid (Blk w10 (w4.heap.size) 39 [.int .i64 Gcode, .int .i64 Gfsz, .int .i64 Gepoch, .int .i64 Grecord_kind, .int .i64 Grecord_txn, .int .i64 Grecord_prev, .int .i64 Grecord_page, .int .i64 Grecord_slot, .bool Grecord_before_used, .slice Grecord_before_data_a Grecord_before_data_b.length Grecord_before_data_c, .bool Grecord_after_used, .slice Grecord_after_data_a Grecord_after_data_b.length Grecord_after_data_c, .int .i64 Grecord_uN, .int .i64 Grecord_nT, .slice Grecord_txns_a Grecord_txns_n Grecord_txns_c, .slice Grecord_dirty_a Grecord_dirty_n Grecord_dirty_c, .slice Grecord_image_a Grecord_image_b.length Grecord_image_c]) from HYw9.out.kept hk (fun e => by have h1 := HFG.out _ e; omega))
  have HKw10 := (show Hid (Same w w10) from HKw9.out.next hk (fun b hb e => by have h1 := HFG.out _ e; omega))
  have HUw10 := (show Hid (OwnL w10 (StFrameResult.marked ⟨Gcode, Gfsz, Gepoch, ⟨Grecord_kind, Grecord_txn, Grecord_prev, Grecord_page, Grecord_slot, ⟨Grecord_before_used, ⟨Grecord_before_data_e, Grecord_before_data_a, Grecord_before_data_c, Grecord_before_data_b⟩⟩, ⟨Grecord_after_used, ⟨Grecord_after_data_e, Grecord_after_data_a, Grecord_after_data_c, Grecord_after_data_b⟩⟩, Grecord_uN, Grecord_nT, ⟨Grecord_txns_e, Grecord_txns_a, Grecord_txns_n, Grecord_txns_c, Grecord_txns_b⟩, ⟨Grecord_dirty_e, Grecord_dirty_a, Grecord_dirty_n, Grecord_dirty_c, Grecord_dirty_b⟩, ⟨Grecord_image_e, Grecord_image_a, Grecord_image_c, Grecord_image_b⟩⟩⟩ 1).rows) from ho)
  clear cZ_0 cZ_1 cZ_2 cZ_3 cZ_4 cZ_5 cZ_6 cZ_7 cZ_8 cZ_9 cZ_10 cZ_11 cZ_12 cZ_13 cZ_14 cZ_15 cZ_16 lZ cY_0 cY_1 cY_2 cY_3 cY_4 cY_5 cY_6 cY_7 cY_8 cY_9 cY_10 cY_11 cY_12 cY_13 cY_14 cY_15 cY_16 lY
  clear hk ho
  have HFU := (show Hid (∀ b, FootL (StFrameResult.marked ⟨Gcode, Gfsz, Gepoch, ⟨Grecord_kind, Grecord_txn, Grecord_prev, Grecord_page, Grecord_slot, ⟨Grecord_before_used, ⟨Grecord_before_data_e, Grecord_before_data_a, Grecord_before_data_c, Grecord_before_data_b⟩⟩, ⟨Grecord_after_used, ⟨Grecord_after_data_e, Grecord_after_data_a, Grecord_after_data_c, Grecord_after_data_b⟩⟩, Grecord_uN, Grecord_nT, ⟨Grecord_txns_e, Grecord_txns_a, Grecord_txns_n, Grecord_txns_c, Grecord_txns_b⟩, ⟨Grecord_dirty_e, Grecord_dirty_a, Grecord_dirty_n, Grecord_dirty_c, Grecord_dirty_b⟩, ⟨Grecord_image_e, Grecord_image_a, Grecord_image_c, Grecord_image_b⟩⟩⟩ 1).rows b → _ ∧ _) from fun b hb => HFG.out b ((StFrameResult.foot_marked _ _ b).1 hb))
  as_aux_lemma =>
  have cZ_0 : w10.cell? ⟨w2.heap.size, 0, none⟩ = some (.int .i64 Wcode) := HZw10.out.cell 0
  have cZ_1 : w10.cell? ⟨w2.heap.size, 1, none⟩ = some (.int .i64 Wfsz) := HZw10.out.cell 1
  have cZ_2 : w10.cell? ⟨w2.heap.size, 2, none⟩ = some (.int .i64 Wepoch) := HZw10.out.cell 2
  have cZ_3 : w10.cell? ⟨w2.heap.size, 3, none⟩ = some (.int .i64 Wrecord_kind) := HZw10.out.cell 3
  have cZ_4 : w10.cell? ⟨w2.heap.size, 4, none⟩ = some (.int .i64 Wrecord_txn) := HZw10.out.cell 4
  have cZ_5 : w10.cell? ⟨w2.heap.size, 5, none⟩ = some (.int .i64 Wrecord_prev) := HZw10.out.cell 5
  have cZ_6 : w10.cell? ⟨w2.heap.size, 6, none⟩ = some (.int .i64 Wrecord_page) := HZw10.out.cell 6
  have cZ_7 : w10.cell? ⟨w2.heap.size, 7, none⟩ = some (.int .i64 Wrecord_slot) := HZw10.out.cell 7
  have cZ_8 : w10.cell? ⟨w2.heap.size, 8, none⟩ = some (.bool Wrecord_before_used) := HZw10.out.cell 8
  have cZ_9 : w10.cell? ⟨w2.heap.size, 9, none⟩ = some (.slice Wrecord_before_data_a Wrecord_before_data_b.length Wrecord_before_data_c) := HZw10.out.cell 9
  have cZ_10 : w10.cell? ⟨w2.heap.size, 10, none⟩ = some (.bool Wrecord_after_used) := HZw10.out.cell 10
  have cZ_11 : w10.cell? ⟨w2.heap.size, 11, none⟩ = some (.slice Wrecord_after_data_a Wrecord_after_data_b.length Wrecord_after_data_c) := HZw10.out.cell 11
  have cZ_12 : w10.cell? ⟨w2.heap.size, 12, none⟩ = some (.int .i64 Wrecord_uN) := HZw10.out.cell 12
  have cZ_13 : w10.cell? ⟨w2.heap.size, 13, none⟩ = some (.int .i64 Wrecord_nT) := HZw10.out.cell 13
  have cZ_14 : w10.cell? ⟨w2.heap.size, 14, none⟩ = some (.slice Wrecord_txns_a Wrecord_txns_n Wrecord_txns_c) := HZw10.out.cell 14
  have cZ_15 : w10.cell? ⟨w2.heap.size, 15, none⟩ = some (.slice Wrecord_dirty_a Wrecord_dirty_n Wrecord_dirty_c) := HZw10.out.cell 15
  have cZ_16 : w10.cell? ⟨w2.heap.size, 16, none⟩ = some (.slice Wrecord_image_a Wrecord_image_b.length Wrecord_image_c) := HZw10.out.cell 16
  have lZ := HZw10.out.lt
  have cY_0 : w10.cell? ⟨w4.heap.size, 0, none⟩ = some (.int .i64 Gcode) := HYw10.out.cell 0
  have cY_1 : w10.cell? ⟨w4.heap.size, 1, none⟩ = some (.int .i64 Gfsz) := HYw10.out.cell 1
  have cY_2 : w10.cell? ⟨w4.heap.size, 2, none⟩ = some (.int .i64 Gepoch) := HYw10.out.cell 2
  have cY_3 : w10.cell? ⟨w4.heap.size, 3, none⟩ = some (.int .i64 Grecord_kind) := HYw10.out.cell 3
  have cY_4 : w10.cell? ⟨w4.heap.size, 4, none⟩ = some (.int .i64 Grecord_txn) := HYw10.out.cell 4
  have cY_5 : w10.cell? ⟨w4.heap.size, 5, none⟩ = some (.int .i64 Grecord_prev) := HYw10.out.cell 5
  have cY_6 : w10.cell? ⟨w4.heap.size, 6, none⟩ = some (.int .i64 Grecord_page) := HYw10.out.cell 6
  have cY_7 : w10.cell? ⟨w4.heap.size, 7, none⟩ = some (.int .i64 Grecord_slot) := HYw10.out.cell 7
  have cY_8 : w10.cell? ⟨w4.heap.size, 8, none⟩ = some (.bool Grecord_before_used) := HYw10.out.cell 8
  have cY_9 : w10.cell? ⟨w4.heap.size, 9, none⟩ = some (.slice Grecord_before_data_a Grecord_before_data_b.length Grecord_before_data_c) := HYw10.out.cell 9
  have cY_10 : w10.cell? ⟨w4.heap.size, 10, none⟩ = some (.bool Grecord_after_used) := HYw10.out.cell 10
  have cY_11 : w10.cell? ⟨w4.heap.size, 11, none⟩ = some (.slice Grecord_after_data_a Grecord_after_data_b.length Grecord_after_data_c) := HYw10.out.cell 11
  have cY_12 : w10.cell? ⟨w4.heap.size, 12, none⟩ = some (.int .i64 Grecord_uN) := HYw10.out.cell 12
  have cY_13 : w10.cell? ⟨w4.heap.size, 13, none⟩ = some (.int .i64 Grecord_nT) := HYw10.out.cell 13
  have cY_14 : w10.cell? ⟨w4.heap.size, 14, none⟩ = some (.slice Grecord_txns_a Grecord_txns_n Grecord_txns_c) := HYw10.out.cell 14
  have cY_15 : w10.cell? ⟨w4.heap.size, 15, none⟩ = some (.slice Grecord_dirty_a Grecord_dirty_n Grecord_dirty_c) := HYw10.out.cell 15
  have cY_16 : w10.cell? ⟨w4.heap.size, 16, none⟩ = some (.slice Grecord_image_a Grecord_image_b.length Grecord_image_c) := HYw10.out.cell 16
  have lY := HYw10.out.lt
  go_wp2_with fail
  have hm := heldFrameResult_own ⟨Gcode, Gfsz, Gepoch, ⟨Grecord_kind, Grecord_txn, Grecord_prev, Grecord_page, Grecord_slot, ⟨Grecord_before_used, ⟨Grecord_before_data_e, Grecord_before_data_a, Grecord_before_data_c, Grecord_before_data_b⟩⟩, ⟨Grecord_after_used, ⟨Grecord_after_data_e, Grecord_after_data_a, Grecord_after_data_c, Grecord_after_data_b⟩⟩, Grecord_uN, Grecord_nT, ⟨Grecord_txns_e, Grecord_txns_a, Grecord_txns_n, Grecord_txns_c, Grecord_txns_b⟩, ⟨Grecord_dirty_e, Grecord_dirty_a, Grecord_dirty_n, Grecord_dirty_c, Grecord_dirty_b⟩, ⟨Grecord_image_e, Grecord_image_a, Grecord_image_c, Grecord_image_b⟩⟩⟩ 1 w10 (by omega) (by rw [HM.out]; omega) HUw10.out
  rw [HM.out] at hm
  dsimp only [StFrameResult.val, StLogRecord.val, StPageRecord.val, BS.v, FR.v] at hm
  refine hm.mono ?_
  clear hm
  rintro e w11 ⟨rfl, hk⟩
  have hkk : Same w10 w11 := hk
  have hzw11 := hkk.size
  have HWw11 := (show Hid (OwnL w11 (StFrameResult.rows ⟨Wcode, Wfsz, Wepoch, ⟨Wrecord_kind, Wrecord_txn, Wrecord_prev, Wrecord_page, Wrecord_slot, ⟨Wrecord_before_used, ⟨Wrecord_before_data_e, Wrecord_before_data_a, Wrecord_before_data_c, Wrecord_before_data_b⟩⟩, ⟨Wrecord_after_used, ⟨Wrecord_after_data_e, Wrecord_after_data_a, Wrecord_after_data_c, Wrecord_after_data_b⟩⟩, Wrecord_uN, Wrecord_nT, ⟨Wrecord_txns_e, Wrecord_txns_a, Wrecord_txns_n, Wrecord_txns_c, Wrecord_txns_b⟩, ⟨Wrecord_dirty_e, Wrecord_dirty_a, Wrecord_dirty_n, Wrecord_dirty_c, Wrecord_dirty_b⟩, ⟨Wrecord_image_e, Wrecord_image_a, Wrecord_image_c, Wrecord_image_b⟩⟩⟩)) from HWw10.out.same hkk)
  have HZw11 := (show Hid (Blk w11 (w2.heap.size) 39 [.int .i64 Wcode, .int .i64 Wfsz, .int .i64 Wepoch, .int .i64 Wrecord_kind, .int .i64 Wrecord_txn, .int .i64 Wrecord_prev, .int .i64 Wrecord_page, .int .i64 Wrecord_slot, .bool Wrecord_before_used, .slice Wrecord_before_data_a Wrecord_before_data_b.length Wrecord_before_data_c, .bool Wrecord_after_used, .slice Wrecord_after_data_a Wrecord_after_data_b.length Wrecord_after_data_c, .int .i64 Wrecord_uN, .int .i64 Wrecord_nT, .slice Wrecord_txns_a Wrecord_txns_n Wrecord_txns_c, .slice Wrecord_dirty_a Wrecord_dirty_n Wrecord_dirty_c, .slice Wrecord_image_a Wrecord_image_b.length Wrecord_image_c]) from HZw10.out.same hkk)
  have HYw11 := (show Hid (Blk w11 (w4.heap.size) 39 [.int .i64 Gcode, .int .i64 Gfsz, .int .i64 Gepoch, .int .i64 Grecord_kind, .int .i64 Grecord_txn, .int .i64 Grecord_prev, .int .i64 Grecord_page, .int .i64 Grecord_slot, .bool Grecord_before_used, .slice Grecord_before_data_a Grecord_before_data_b.length Grecord_before_data_c, .bool Grecord_after_used, .slice Grecord_after_data_a Grecord_after_data_b.length Grecord_after_data_c, .int .i64 Grecord_uN, .int .i64 Grecord_nT, .slice Grecord_txns_a Grecord_txns_n Grecord_txns_c, .slice Grecord_dirty_a Grecord_dirty_n Grecord_dirty_c, .slice Grecord_image_a Grecord_image_b.length Grecord_image_c]) from HYw10.out.same hkk)
  have HUw11 := (show Hid (OwnL w11 (StFrameResult.marked ⟨Gcode, Gfsz, Gepoch, ⟨Grecord_kind, Grecord_txn, Grecord_prev, Grecord_page, Grecord_slot, ⟨Grecord_before_used, ⟨Grecord_before_data_e, Grecord_before_data_a, Grecord_before_data_c, Grecord_before_data_b⟩⟩, ⟨Grecord_after_used, ⟨Grecord_after_data_e, Grecord_after_data_a, Grecord_after_data_c, Grecord_after_data_b⟩⟩, Grecord_uN, Grecord_nT, ⟨Grecord_txns_e, Grecord_txns_a, Grecord_txns_n, Grecord_txns_c, Grecord_txns_b⟩, ⟨Grecord_dirty_e, Grecord_dirty_a, Grecord_dirty_n, Grecord_dirty_c, Grecord_dirty_b⟩, ⟨Grecord_image_e, Grecord_image_a, Grecord_image_c, Grecord_image_b⟩⟩⟩ 1).rows) from HUw10.out.same hkk)
  have HKw11 := (show Hid (Same w w11) from HKw10.out.trans hkk)
  clear hkk hk
  clear cZ_0 cZ_1 cZ_2 cZ_3 cZ_4 cZ_5 cZ_6 cZ_7 cZ_8 cZ_9 cZ_10 cZ_11 cZ_12 cZ_13 cZ_14 cZ_15 cZ_16 lZ cY_0 cY_1 cY_2 cY_3 cY_4 cY_5 cY_6 cY_7 cY_8 cY_9 cY_10 cY_11 cY_12 cY_13 cY_14 cY_15 cY_16 lY
  as_aux_lemma =>
  have cZ_0 : w11.cell? ⟨w2.heap.size, 0, none⟩ = some (.int .i64 Wcode) := HZw11.out.cell 0
  have cZ_1 : w11.cell? ⟨w2.heap.size, 1, none⟩ = some (.int .i64 Wfsz) := HZw11.out.cell 1
  have cZ_2 : w11.cell? ⟨w2.heap.size, 2, none⟩ = some (.int .i64 Wepoch) := HZw11.out.cell 2
  have cZ_3 : w11.cell? ⟨w2.heap.size, 3, none⟩ = some (.int .i64 Wrecord_kind) := HZw11.out.cell 3
  have cZ_4 : w11.cell? ⟨w2.heap.size, 4, none⟩ = some (.int .i64 Wrecord_txn) := HZw11.out.cell 4
  have cZ_5 : w11.cell? ⟨w2.heap.size, 5, none⟩ = some (.int .i64 Wrecord_prev) := HZw11.out.cell 5
  have cZ_6 : w11.cell? ⟨w2.heap.size, 6, none⟩ = some (.int .i64 Wrecord_page) := HZw11.out.cell 6
  have cZ_7 : w11.cell? ⟨w2.heap.size, 7, none⟩ = some (.int .i64 Wrecord_slot) := HZw11.out.cell 7
  have cZ_8 : w11.cell? ⟨w2.heap.size, 8, none⟩ = some (.bool Wrecord_before_used) := HZw11.out.cell 8
  have cZ_9 : w11.cell? ⟨w2.heap.size, 9, none⟩ = some (.slice Wrecord_before_data_a Wrecord_before_data_b.length Wrecord_before_data_c) := HZw11.out.cell 9
  have cZ_10 : w11.cell? ⟨w2.heap.size, 10, none⟩ = some (.bool Wrecord_after_used) := HZw11.out.cell 10
  have cZ_11 : w11.cell? ⟨w2.heap.size, 11, none⟩ = some (.slice Wrecord_after_data_a Wrecord_after_data_b.length Wrecord_after_data_c) := HZw11.out.cell 11
  have cZ_12 : w11.cell? ⟨w2.heap.size, 12, none⟩ = some (.int .i64 Wrecord_uN) := HZw11.out.cell 12
  have cZ_13 : w11.cell? ⟨w2.heap.size, 13, none⟩ = some (.int .i64 Wrecord_nT) := HZw11.out.cell 13
  have cZ_14 : w11.cell? ⟨w2.heap.size, 14, none⟩ = some (.slice Wrecord_txns_a Wrecord_txns_n Wrecord_txns_c) := HZw11.out.cell 14
  have cZ_15 : w11.cell? ⟨w2.heap.size, 15, none⟩ = some (.slice Wrecord_dirty_a Wrecord_dirty_n Wrecord_dirty_c) := HZw11.out.cell 15
  have cZ_16 : w11.cell? ⟨w2.heap.size, 16, none⟩ = some (.slice Wrecord_image_a Wrecord_image_b.length Wrecord_image_c) := HZw11.out.cell 16
  have lZ := HZw11.out.lt
  have cY_0 : w11.cell? ⟨w4.heap.size, 0, none⟩ = some (.int .i64 Gcode) := HYw11.out.cell 0
  have cY_1 : w11.cell? ⟨w4.heap.size, 1, none⟩ = some (.int .i64 Gfsz) := HYw11.out.cell 1
  have cY_2 : w11.cell? ⟨w4.heap.size, 2, none⟩ = some (.int .i64 Gepoch) := HYw11.out.cell 2
  have cY_3 : w11.cell? ⟨w4.heap.size, 3, none⟩ = some (.int .i64 Grecord_kind) := HYw11.out.cell 3
  have cY_4 : w11.cell? ⟨w4.heap.size, 4, none⟩ = some (.int .i64 Grecord_txn) := HYw11.out.cell 4
  have cY_5 : w11.cell? ⟨w4.heap.size, 5, none⟩ = some (.int .i64 Grecord_prev) := HYw11.out.cell 5
  have cY_6 : w11.cell? ⟨w4.heap.size, 6, none⟩ = some (.int .i64 Grecord_page) := HYw11.out.cell 6
  have cY_7 : w11.cell? ⟨w4.heap.size, 7, none⟩ = some (.int .i64 Grecord_slot) := HYw11.out.cell 7
  have cY_8 : w11.cell? ⟨w4.heap.size, 8, none⟩ = some (.bool Grecord_before_used) := HYw11.out.cell 8
  have cY_9 : w11.cell? ⟨w4.heap.size, 9, none⟩ = some (.slice Grecord_before_data_a Grecord_before_data_b.length Grecord_before_data_c) := HYw11.out.cell 9
  have cY_10 : w11.cell? ⟨w4.heap.size, 10, none⟩ = some (.bool Grecord_after_used) := HYw11.out.cell 10
  have cY_11 : w11.cell? ⟨w4.heap.size, 11, none⟩ = some (.slice Grecord_after_data_a Grecord_after_data_b.length Grecord_after_data_c) := HYw11.out.cell 11
  have cY_12 : w11.cell? ⟨w4.heap.size, 12, none⟩ = some (.int .i64 Grecord_uN) := HYw11.out.cell 12
  have cY_13 : w11.cell? ⟨w4.heap.size, 13, none⟩ = some (.int .i64 Grecord_nT) := HYw11.out.cell 13
  have cY_14 : w11.cell? ⟨w4.heap.size, 14, none⟩ = some (.slice Grecord_txns_a Grecord_txns_n Grecord_txns_c) := HYw11.out.cell 14
  have cY_15 : w11.cell? ⟨w4.heap.size, 15, none⟩ = some (.slice Grecord_dirty_a Grecord_dirty_n Grecord_dirty_c) := HYw11.out.cell 15
  have cY_16 : w11.cell? ⟨w4.heap.size, 16, none⟩ = some (.slice Grecord_image_a Grecord_image_b.length Grecord_image_c) := HYw11.out.cell 16
  have lY := HYw11.out.lt
  go_wp2_with fail
  refine (toByteS_any _ bs0 _ (by omega) (HV0.out.same HKw11.out)).mono ?_
  rintro e w12 ⟨gJ0, rfl, hf, ho, hk⟩
  have hf : ∀ b, (Value.slice (some ⟨gJ0, 0, none⟩) bs0.length bs0.length).ownBlock = some b → _ ≤ b := fun b hb => by rw [← (Option.some.inj hb : gJ0 = b)]; exact hf
  have HFJ0 := (show Hid (∀ b, (Value.slice (some ⟨gJ0, 0, none⟩) bs0.length bs0.length).ownBlock = some b → w11.heap.size ≤ b ∧ b < w12.heap.size) from fun b hb => ⟨hf b hb, (ho.lt b hb).2⟩)
  have HJ0w12 := (show Hid (Own 0 5 .u8 w12 (.slice (some ⟨gJ0, 0, none⟩) bs0.length bs0.length) bs0) from ho)
  clear hf ho
  have hkk : Same w11 w12 := hk
  have hzw12 := hkk.size
  have HWw12 := (show Hid (OwnL w12 (StFrameResult.rows ⟨Wcode, Wfsz, Wepoch, ⟨Wrecord_kind, Wrecord_txn, Wrecord_prev, Wrecord_page, Wrecord_slot, ⟨Wrecord_before_used, ⟨Wrecord_before_data_e, Wrecord_before_data_a, Wrecord_before_data_c, Wrecord_before_data_b⟩⟩, ⟨Wrecord_after_used, ⟨Wrecord_after_data_e, Wrecord_after_data_a, Wrecord_after_data_c, Wrecord_after_data_b⟩⟩, Wrecord_uN, Wrecord_nT, ⟨Wrecord_txns_e, Wrecord_txns_a, Wrecord_txns_n, Wrecord_txns_c, Wrecord_txns_b⟩, ⟨Wrecord_dirty_e, Wrecord_dirty_a, Wrecord_dirty_n, Wrecord_dirty_c, Wrecord_dirty_b⟩, ⟨Wrecord_image_e, Wrecord_image_a, Wrecord_image_c, Wrecord_image_b⟩⟩⟩)) from HWw11.out.same hkk)
  have HZw12 := (show Hid (Blk w12 (w2.heap.size) 39 [.int .i64 Wcode, .int .i64 Wfsz, .int .i64 Wepoch, .int .i64 Wrecord_kind, .int .i64 Wrecord_txn, .int .i64 Wrecord_prev, .int .i64 Wrecord_page, .int .i64 Wrecord_slot, .bool Wrecord_before_used, .slice Wrecord_before_data_a Wrecord_before_data_b.length Wrecord_before_data_c, .bool Wrecord_after_used, .slice Wrecord_after_data_a Wrecord_after_data_b.length Wrecord_after_data_c, .int .i64 Wrecord_uN, .int .i64 Wrecord_nT, .slice Wrecord_txns_a Wrecord_txns_n Wrecord_txns_c, .slice Wrecord_dirty_a Wrecord_dirty_n Wrecord_dirty_c, .slice Wrecord_image_a Wrecord_image_b.length Wrecord_image_c]) from HZw11.out.same hkk)
  have HYw12 := (show Hid (Blk w12 (w4.heap.size) 39 [.int .i64 Gcode, .int .i64 Gfsz, .int .i64 Gepoch, .int .i64 Grecord_kind, .int .i64 Grecord_txn, .int .i64 Grecord_prev, .int .i64 Grecord_page, .int .i64 Grecord_slot, .bool Grecord_before_used, .slice Grecord_before_data_a Grecord_before_data_b.length Grecord_before_data_c, .bool Grecord_after_used, .slice Grecord_after_data_a Grecord_after_data_b.length Grecord_after_data_c, .int .i64 Grecord_uN, .int .i64 Grecord_nT, .slice Grecord_txns_a Grecord_txns_n Grecord_txns_c, .slice Grecord_dirty_a Grecord_dirty_n Grecord_dirty_c, .slice Grecord_image_a Grecord_image_b.length Grecord_image_c]) from HYw11.out.same hkk)
  have HUw12 := (show Hid (OwnL w12 (StFrameResult.marked ⟨Gcode, Gfsz, Gepoch, ⟨Grecord_kind, Grecord_txn, Grecord_prev, Grecord_page, Grecord_slot, ⟨Grecord_before_used, ⟨Grecord_before_data_e, Grecord_before_data_a, Grecord_before_data_c, Grecord_before_data_b⟩⟩, ⟨Grecord_after_used, ⟨Grecord_after_data_e, Grecord_after_data_a, Grecord_after_data_c, Grecord_after_data_b⟩⟩, Grecord_uN, Grecord_nT, ⟨Grecord_txns_e, Grecord_txns_a, Grecord_txns_n, Grecord_txns_c, Grecord_txns_b⟩, ⟨Grecord_dirty_e, Grecord_dirty_a, Grecord_dirty_n, Grecord_dirty_c, Grecord_dirty_b⟩, ⟨Grecord_image_e, Grecord_image_a, Grecord_image_c, Grecord_image_b⟩⟩⟩ 1).rows) from HUw11.out.same hkk)
  have HKw12 := (show Hid (Same w w12) from HKw11.out.trans hkk)
  clear hkk hk
  clear cZ_0 cZ_1 cZ_2 cZ_3 cZ_4 cZ_5 cZ_6 cZ_7 cZ_8 cZ_9 cZ_10 cZ_11 cZ_12 cZ_13 cZ_14 cZ_15 cZ_16 lZ cY_0 cY_1 cY_2 cY_3 cY_4 cY_5 cY_6 cY_7 cY_8 cY_9 cY_10 cY_11 cY_12 cY_13 cY_14 cY_15 cY_16 lY
  as_aux_lemma =>
  have cZ_0 : w12.cell? ⟨w2.heap.size, 0, none⟩ = some (.int .i64 Wcode) := HZw12.out.cell 0
  have cZ_1 : w12.cell? ⟨w2.heap.size, 1, none⟩ = some (.int .i64 Wfsz) := HZw12.out.cell 1
  have cZ_2 : w12.cell? ⟨w2.heap.size, 2, none⟩ = some (.int .i64 Wepoch) := HZw12.out.cell 2
  have cZ_3 : w12.cell? ⟨w2.heap.size, 3, none⟩ = some (.int .i64 Wrecord_kind) := HZw12.out.cell 3
  have cZ_4 : w12.cell? ⟨w2.heap.size, 4, none⟩ = some (.int .i64 Wrecord_txn) := HZw12.out.cell 4
  have cZ_5 : w12.cell? ⟨w2.heap.size, 5, none⟩ = some (.int .i64 Wrecord_prev) := HZw12.out.cell 5
  have cZ_6 : w12.cell? ⟨w2.heap.size, 6, none⟩ = some (.int .i64 Wrecord_page) := HZw12.out.cell 6
  have cZ_7 : w12.cell? ⟨w2.heap.size, 7, none⟩ = some (.int .i64 Wrecord_slot) := HZw12.out.cell 7
  have cZ_8 : w12.cell? ⟨w2.heap.size, 8, none⟩ = some (.bool Wrecord_before_used) := HZw12.out.cell 8
  have cZ_9 : w12.cell? ⟨w2.heap.size, 9, none⟩ = some (.slice Wrecord_before_data_a Wrecord_before_data_b.length Wrecord_before_data_c) := HZw12.out.cell 9
  have cZ_10 : w12.cell? ⟨w2.heap.size, 10, none⟩ = some (.bool Wrecord_after_used) := HZw12.out.cell 10
  have cZ_11 : w12.cell? ⟨w2.heap.size, 11, none⟩ = some (.slice Wrecord_after_data_a Wrecord_after_data_b.length Wrecord_after_data_c) := HZw12.out.cell 11
  have cZ_12 : w12.cell? ⟨w2.heap.size, 12, none⟩ = some (.int .i64 Wrecord_uN) := HZw12.out.cell 12
  have cZ_13 : w12.cell? ⟨w2.heap.size, 13, none⟩ = some (.int .i64 Wrecord_nT) := HZw12.out.cell 13
  have cZ_14 : w12.cell? ⟨w2.heap.size, 14, none⟩ = some (.slice Wrecord_txns_a Wrecord_txns_n Wrecord_txns_c) := HZw12.out.cell 14
  have cZ_15 : w12.cell? ⟨w2.heap.size, 15, none⟩ = some (.slice Wrecord_dirty_a Wrecord_dirty_n Wrecord_dirty_c) := HZw12.out.cell 15
  have cZ_16 : w12.cell? ⟨w2.heap.size, 16, none⟩ = some (.slice Wrecord_image_a Wrecord_image_b.length Wrecord_image_c) := HZw12.out.cell 16
  have lZ := HZw12.out.lt
  have cY_0 : w12.cell? ⟨w4.heap.size, 0, none⟩ = some (.int .i64 Gcode) := HYw12.out.cell 0
  have cY_1 : w12.cell? ⟨w4.heap.size, 1, none⟩ = some (.int .i64 Gfsz) := HYw12.out.cell 1
  have cY_2 : w12.cell? ⟨w4.heap.size, 2, none⟩ = some (.int .i64 Gepoch) := HYw12.out.cell 2
  have cY_3 : w12.cell? ⟨w4.heap.size, 3, none⟩ = some (.int .i64 Grecord_kind) := HYw12.out.cell 3
  have cY_4 : w12.cell? ⟨w4.heap.size, 4, none⟩ = some (.int .i64 Grecord_txn) := HYw12.out.cell 4
  have cY_5 : w12.cell? ⟨w4.heap.size, 5, none⟩ = some (.int .i64 Grecord_prev) := HYw12.out.cell 5
  have cY_6 : w12.cell? ⟨w4.heap.size, 6, none⟩ = some (.int .i64 Grecord_page) := HYw12.out.cell 6
  have cY_7 : w12.cell? ⟨w4.heap.size, 7, none⟩ = some (.int .i64 Grecord_slot) := HYw12.out.cell 7
  have cY_8 : w12.cell? ⟨w4.heap.size, 8, none⟩ = some (.bool Grecord_before_used) := HYw12.out.cell 8
  have cY_9 : w12.cell? ⟨w4.heap.size, 9, none⟩ = some (.slice Grecord_before_data_a Grecord_before_data_b.length Grecord_before_data_c) := HYw12.out.cell 9
  have cY_10 : w12.cell? ⟨w4.heap.size, 10, none⟩ = some (.bool Grecord_after_used) := HYw12.out.cell 10
  have cY_11 : w12.cell? ⟨w4.heap.size, 11, none⟩ = some (.slice Grecord_after_data_a Grecord_after_data_b.length Grecord_after_data_c) := HYw12.out.cell 11
  have cY_12 : w12.cell? ⟨w4.heap.size, 12, none⟩ = some (.int .i64 Grecord_uN) := HYw12.out.cell 12
  have cY_13 : w12.cell? ⟨w4.heap.size, 13, none⟩ = some (.int .i64 Grecord_nT) := HYw12.out.cell 13
  have cY_14 : w12.cell? ⟨w4.heap.size, 14, none⟩ = some (.slice Grecord_txns_a Grecord_txns_n Grecord_txns_c) := HYw12.out.cell 14
  have cY_15 : w12.cell? ⟨w4.heap.size, 15, none⟩ = some (.slice Grecord_dirty_a Grecord_dirty_n Grecord_dirty_c) := HYw12.out.cell 15
  have cY_16 : w12.cell? ⟨w4.heap.size, 16, none⟩ = some (.slice Grecord_image_a Grecord_image_b.length Grecord_image_c) := HYw12.out.cell 16
  have lY := HYw12.out.lt
  go_wp2_with fail
  refine (implFrL _ bs0 s1 s2 s3 _ HB0.out (by omega) (HJ0w12.out.rd) HB1.out).mono ?_
  rintro e w13 ⟨⟨Lcode, Lfsz, Lepoch, ⟨Lrecord_kind, Lrecord_txn, Lrecord_prev, Lrecord_page, Lrecord_slot, ⟨Lrecord_before_used, ⟨Lrecord_before_data_e, Lrecord_before_data_a, Lrecord_before_data_c, Lrecord_before_data_b⟩⟩, ⟨Lrecord_after_used, ⟨Lrecord_after_data_e, Lrecord_after_data_a, Lrecord_after_data_c, Lrecord_after_data_b⟩⟩, Lrecord_uN, Lrecord_nT, ⟨Lrecord_txns_e, Lrecord_txns_a, Lrecord_txns_n, Lrecord_txns_c, Lrecord_txns_b⟩, ⟨Lrecord_dirty_e, Lrecord_dirty_a, Lrecord_dirty_n, Lrecord_dirty_c, Lrecord_dirty_b⟩, ⟨Lrecord_image_e, Lrecord_image_a, Lrecord_image_c, Lrecord_image_b⟩⟩⟩, rfl, hd, hf, ho, hk⟩
  have hnL : StFrameResult.size ⟨Lcode, Lfsz, Lepoch, ⟨Lrecord_kind, Lrecord_txn, Lrecord_prev, Lrecord_page, Lrecord_slot, ⟨Lrecord_before_used, ⟨Lrecord_before_data_e, Lrecord_before_data_a, Lrecord_before_data_c, Lrecord_before_data_b⟩⟩, ⟨Lrecord_after_used, ⟨Lrecord_after_data_e, Lrecord_after_data_a, Lrecord_after_data_c, Lrecord_after_data_b⟩⟩, Lrecord_uN, Lrecord_nT, ⟨Lrecord_txns_e, Lrecord_txns_a, Lrecord_txns_n, Lrecord_txns_c, Lrecord_txns_b⟩, ⟨Lrecord_dirty_e, Lrecord_dirty_a, Lrecord_dirty_n, Lrecord_dirty_c, Lrecord_dirty_b⟩, ⟨Lrecord_image_e, Lrecord_image_a, Lrecord_image_c, Lrecord_image_b⟩⟩⟩ ≤ 1099511627776 := decF_small HB0.out hd
  have hnL0 := StFrameResult.size_le ⟨Lcode, Lfsz, Lepoch, ⟨Lrecord_kind, Lrecord_txn, Lrecord_prev, Lrecord_page, Lrecord_slot, ⟨Lrecord_before_used, ⟨Lrecord_before_data_e, Lrecord_before_data_a, Lrecord_before_data_c, Lrecord_before_data_b⟩⟩, ⟨Lrecord_after_used, ⟨Lrecord_after_data_e, Lrecord_after_data_a, Lrecord_after_data_c, Lrecord_after_data_b⟩⟩, Lrecord_uN, Lrecord_nT, ⟨Lrecord_txns_e, Lrecord_txns_a, Lrecord_txns_n, Lrecord_txns_c, Lrecord_txns_b⟩, ⟨Lrecord_dirty_e, Lrecord_dirty_a, Lrecord_dirty_n, Lrecord_dirty_c, Lrecord_dirty_b⟩, ⟨Lrecord_image_e, Lrecord_image_a, Lrecord_image_c, Lrecord_image_b⟩⟩⟩
  have HDL := (show Hid (StFrameResult.dat ⟨Lcode, Lfsz, Lepoch, ⟨Lrecord_kind, Lrecord_txn, Lrecord_prev, Lrecord_page, Lrecord_slot, ⟨Lrecord_before_used, ⟨Lrecord_before_data_e, Lrecord_before_data_a, Lrecord_before_data_c, Lrecord_before_data_b⟩⟩, ⟨Lrecord_after_used, ⟨Lrecord_after_data_e, Lrecord_after_data_a, Lrecord_after_data_c, Lrecord_after_data_b⟩⟩, Lrecord_uN, Lrecord_nT, ⟨Lrecord_txns_e, Lrecord_txns_a, Lrecord_txns_n, Lrecord_txns_c, Lrecord_txns_b⟩, ⟨Lrecord_dirty_e, Lrecord_dirty_a, Lrecord_dirty_n, Lrecord_dirty_c, Lrecord_dirty_b⟩, ⟨Lrecord_image_e, Lrecord_image_a, Lrecord_image_c, Lrecord_image_b⟩⟩⟩ = decF bs0 s1 s2 s3) from hd)
  dsimp only [StFrameResult.val, StLogRecord.val, StPageRecord.val, BS.v, FR.v]
  have HFL := (show Hid (∀ b, FootL (StFrameResult.rows ⟨Lcode, Lfsz, Lepoch, ⟨Lrecord_kind, Lrecord_txn, Lrecord_prev, Lrecord_page, Lrecord_slot, ⟨Lrecord_before_used, ⟨Lrecord_before_data_e, Lrecord_before_data_a, Lrecord_before_data_c, Lrecord_before_data_b⟩⟩, ⟨Lrecord_after_used, ⟨Lrecord_after_data_e, Lrecord_after_data_a, Lrecord_after_data_c, Lrecord_after_data_b⟩⟩, Lrecord_uN, Lrecord_nT, ⟨Lrecord_txns_e, Lrecord_txns_a, Lrecord_txns_n, Lrecord_txns_c, Lrecord_txns_b⟩, ⟨Lrecord_dirty_e, Lrecord_dirty_a, Lrecord_dirty_n, Lrecord_dirty_c, Lrecord_dirty_b⟩, ⟨Lrecord_image_e, Lrecord_image_a, Lrecord_image_c, Lrecord_image_b⟩⟩⟩) b → w12.heap.size ≤ b ∧ b < w13.heap.size) from fun b hb => ⟨hf b hb, ho.lt b hb⟩)
  have HLw13 := (show Hid (OwnL w13 (StFrameResult.rows ⟨Lcode, Lfsz, Lepoch, ⟨Lrecord_kind, Lrecord_txn, Lrecord_prev, Lrecord_page, Lrecord_slot, ⟨Lrecord_before_used, ⟨Lrecord_before_data_e, Lrecord_before_data_a, Lrecord_before_data_c, Lrecord_before_data_b⟩⟩, ⟨Lrecord_after_used, ⟨Lrecord_after_data_e, Lrecord_after_data_a, Lrecord_after_data_c, Lrecord_after_data_b⟩⟩, Lrecord_uN, Lrecord_nT, ⟨Lrecord_txns_e, Lrecord_txns_a, Lrecord_txns_n, Lrecord_txns_c, Lrecord_txns_b⟩, ⟨Lrecord_dirty_e, Lrecord_dirty_a, Lrecord_dirty_n, Lrecord_dirty_c, Lrecord_dirty_b⟩, ⟨Lrecord_image_e, Lrecord_image_a, Lrecord_image_c, Lrecord_image_b⟩⟩⟩)) from ho)
  clear hd hf ho
  have hkk : Same w12 w13 := hk
  have hzw13 := hkk.size
  have HWw13 := (show Hid (OwnL w13 (StFrameResult.rows ⟨Wcode, Wfsz, Wepoch, ⟨Wrecord_kind, Wrecord_txn, Wrecord_prev, Wrecord_page, Wrecord_slot, ⟨Wrecord_before_used, ⟨Wrecord_before_data_e, Wrecord_before_data_a, Wrecord_before_data_c, Wrecord_before_data_b⟩⟩, ⟨Wrecord_after_used, ⟨Wrecord_after_data_e, Wrecord_after_data_a, Wrecord_after_data_c, Wrecord_after_data_b⟩⟩, Wrecord_uN, Wrecord_nT, ⟨Wrecord_txns_e, Wrecord_txns_a, Wrecord_txns_n, Wrecord_txns_c, Wrecord_txns_b⟩, ⟨Wrecord_dirty_e, Wrecord_dirty_a, Wrecord_dirty_n, Wrecord_dirty_c, Wrecord_dirty_b⟩, ⟨Wrecord_image_e, Wrecord_image_a, Wrecord_image_c, Wrecord_image_b⟩⟩⟩)) from HWw12.out.same hkk)
  have HZw13 := (show Hid (Blk w13 (w2.heap.size) 39 [.int .i64 Wcode, .int .i64 Wfsz, .int .i64 Wepoch, .int .i64 Wrecord_kind, .int .i64 Wrecord_txn, .int .i64 Wrecord_prev, .int .i64 Wrecord_page, .int .i64 Wrecord_slot, .bool Wrecord_before_used, .slice Wrecord_before_data_a Wrecord_before_data_b.length Wrecord_before_data_c, .bool Wrecord_after_used, .slice Wrecord_after_data_a Wrecord_after_data_b.length Wrecord_after_data_c, .int .i64 Wrecord_uN, .int .i64 Wrecord_nT, .slice Wrecord_txns_a Wrecord_txns_n Wrecord_txns_c, .slice Wrecord_dirty_a Wrecord_dirty_n Wrecord_dirty_c, .slice Wrecord_image_a Wrecord_image_b.length Wrecord_image_c]) from HZw12.out.same hkk)
  have HYw13 := (show Hid (Blk w13 (w4.heap.size) 39 [.int .i64 Gcode, .int .i64 Gfsz, .int .i64 Gepoch, .int .i64 Grecord_kind, .int .i64 Grecord_txn, .int .i64 Grecord_prev, .int .i64 Grecord_page, .int .i64 Grecord_slot, .bool Grecord_before_used, .slice Grecord_before_data_a Grecord_before_data_b.length Grecord_before_data_c, .bool Grecord_after_used, .slice Grecord_after_data_a Grecord_after_data_b.length Grecord_after_data_c, .int .i64 Grecord_uN, .int .i64 Grecord_nT, .slice Grecord_txns_a Grecord_txns_n Grecord_txns_c, .slice Grecord_dirty_a Grecord_dirty_n Grecord_dirty_c, .slice Grecord_image_a Grecord_image_b.length Grecord_image_c]) from HYw12.out.same hkk)
  have HUw13 := (show Hid (OwnL w13 (StFrameResult.marked ⟨Gcode, Gfsz, Gepoch, ⟨Grecord_kind, Grecord_txn, Grecord_prev, Grecord_page, Grecord_slot, ⟨Grecord_before_used, ⟨Grecord_before_data_e, Grecord_before_data_a, Grecord_before_data_c, Grecord_before_data_b⟩⟩, ⟨Grecord_after_used, ⟨Grecord_after_data_e, Grecord_after_data_a, Grecord_after_data_c, Grecord_after_data_b⟩⟩, Grecord_uN, Grecord_nT, ⟨Grecord_txns_e, Grecord_txns_a, Grecord_txns_n, Grecord_txns_c, Grecord_txns_b⟩, ⟨Grecord_dirty_e, Grecord_dirty_a, Grecord_dirty_n, Grecord_dirty_c, Grecord_dirty_b⟩, ⟨Grecord_image_e, Grecord_image_a, Grecord_image_c, Grecord_image_b⟩⟩⟩ 1).rows) from HUw12.out.same hkk)
  have HJ0w13 := (show Hid (Own 0 5 .u8 w13 (.slice (some ⟨gJ0, 0, none⟩) bs0.length bs0.length) bs0) from HJ0w12.out.same hkk)
  have HKw13 := (show Hid (Same w w13) from HKw12.out.trans hkk)
  clear hkk hk
  clear cZ_0 cZ_1 cZ_2 cZ_3 cZ_4 cZ_5 cZ_6 cZ_7 cZ_8 cZ_9 cZ_10 cZ_11 cZ_12 cZ_13 cZ_14 cZ_15 cZ_16 lZ cY_0 cY_1 cY_2 cY_3 cY_4 cY_5 cY_6 cY_7 cY_8 cY_9 cY_10 cY_11 cY_12 cY_13 cY_14 cY_15 cY_16 lY
  as_aux_lemma =>
  have cZ_0 : w13.cell? ⟨w2.heap.size, 0, none⟩ = some (.int .i64 Wcode) := HZw13.out.cell 0
  have cZ_1 : w13.cell? ⟨w2.heap.size, 1, none⟩ = some (.int .i64 Wfsz) := HZw13.out.cell 1
  have cZ_2 : w13.cell? ⟨w2.heap.size, 2, none⟩ = some (.int .i64 Wepoch) := HZw13.out.cell 2
  have cZ_3 : w13.cell? ⟨w2.heap.size, 3, none⟩ = some (.int .i64 Wrecord_kind) := HZw13.out.cell 3
  have cZ_4 : w13.cell? ⟨w2.heap.size, 4, none⟩ = some (.int .i64 Wrecord_txn) := HZw13.out.cell 4
  have cZ_5 : w13.cell? ⟨w2.heap.size, 5, none⟩ = some (.int .i64 Wrecord_prev) := HZw13.out.cell 5
  have cZ_6 : w13.cell? ⟨w2.heap.size, 6, none⟩ = some (.int .i64 Wrecord_page) := HZw13.out.cell 6
  have cZ_7 : w13.cell? ⟨w2.heap.size, 7, none⟩ = some (.int .i64 Wrecord_slot) := HZw13.out.cell 7
  have cZ_8 : w13.cell? ⟨w2.heap.size, 8, none⟩ = some (.bool Wrecord_before_used) := HZw13.out.cell 8
  have cZ_9 : w13.cell? ⟨w2.heap.size, 9, none⟩ = some (.slice Wrecord_before_data_a Wrecord_before_data_b.length Wrecord_before_data_c) := HZw13.out.cell 9
  have cZ_10 : w13.cell? ⟨w2.heap.size, 10, none⟩ = some (.bool Wrecord_after_used) := HZw13.out.cell 10
  have cZ_11 : w13.cell? ⟨w2.heap.size, 11, none⟩ = some (.slice Wrecord_after_data_a Wrecord_after_data_b.length Wrecord_after_data_c) := HZw13.out.cell 11
  have cZ_12 : w13.cell? ⟨w2.heap.size, 12, none⟩ = some (.int .i64 Wrecord_uN) := HZw13.out.cell 12
  have cZ_13 : w13.cell? ⟨w2.heap.size, 13, none⟩ = some (.int .i64 Wrecord_nT) := HZw13.out.cell 13
  have cZ_14 : w13.cell? ⟨w2.heap.size, 14, none⟩ = some (.slice Wrecord_txns_a Wrecord_txns_n Wrecord_txns_c) := HZw13.out.cell 14
  have cZ_15 : w13.cell? ⟨w2.heap.size, 15, none⟩ = some (.slice Wrecord_dirty_a Wrecord_dirty_n Wrecord_dirty_c) := HZw13.out.cell 15
  have cZ_16 : w13.cell? ⟨w2.heap.size, 16, none⟩ = some (.slice Wrecord_image_a Wrecord_image_b.length Wrecord_image_c) := HZw13.out.cell 16
  have lZ := HZw13.out.lt
  have cY_0 : w13.cell? ⟨w4.heap.size, 0, none⟩ = some (.int .i64 Gcode) := HYw13.out.cell 0
  have cY_1 : w13.cell? ⟨w4.heap.size, 1, none⟩ = some (.int .i64 Gfsz) := HYw13.out.cell 1
  have cY_2 : w13.cell? ⟨w4.heap.size, 2, none⟩ = some (.int .i64 Gepoch) := HYw13.out.cell 2
  have cY_3 : w13.cell? ⟨w4.heap.size, 3, none⟩ = some (.int .i64 Grecord_kind) := HYw13.out.cell 3
  have cY_4 : w13.cell? ⟨w4.heap.size, 4, none⟩ = some (.int .i64 Grecord_txn) := HYw13.out.cell 4
  have cY_5 : w13.cell? ⟨w4.heap.size, 5, none⟩ = some (.int .i64 Grecord_prev) := HYw13.out.cell 5
  have cY_6 : w13.cell? ⟨w4.heap.size, 6, none⟩ = some (.int .i64 Grecord_page) := HYw13.out.cell 6
  have cY_7 : w13.cell? ⟨w4.heap.size, 7, none⟩ = some (.int .i64 Grecord_slot) := HYw13.out.cell 7
  have cY_8 : w13.cell? ⟨w4.heap.size, 8, none⟩ = some (.bool Grecord_before_used) := HYw13.out.cell 8
  have cY_9 : w13.cell? ⟨w4.heap.size, 9, none⟩ = some (.slice Grecord_before_data_a Grecord_before_data_b.length Grecord_before_data_c) := HYw13.out.cell 9
  have cY_10 : w13.cell? ⟨w4.heap.size, 10, none⟩ = some (.bool Grecord_after_used) := HYw13.out.cell 10
  have cY_11 : w13.cell? ⟨w4.heap.size, 11, none⟩ = some (.slice Grecord_after_data_a Grecord_after_data_b.length Grecord_after_data_c) := HYw13.out.cell 11
  have cY_12 : w13.cell? ⟨w4.heap.size, 12, none⟩ = some (.int .i64 Grecord_uN) := HYw13.out.cell 12
  have cY_13 : w13.cell? ⟨w4.heap.size, 13, none⟩ = some (.int .i64 Grecord_nT) := HYw13.out.cell 13
  have cY_14 : w13.cell? ⟨w4.heap.size, 14, none⟩ = some (.slice Grecord_txns_a Grecord_txns_n Grecord_txns_c) := HYw13.out.cell 14
  have cY_15 : w13.cell? ⟨w4.heap.size, 15, none⟩ = some (.slice Grecord_dirty_a Grecord_dirty_n Grecord_dirty_c) := HYw13.out.cell 15
  have cY_16 : w13.cell? ⟨w4.heap.size, 16, none⟩ = some (.slice Grecord_image_a Grecord_image_b.length Grecord_image_c) := HYw13.out.cell 16
  have lY := HYw13.out.lt
  go_wp2_with fail
  refine (eqFrameResult_own ⟨Lcode, Lfsz, Lepoch, ⟨Lrecord_kind, Lrecord_txn, Lrecord_prev, Lrecord_page, Lrecord_slot, ⟨Lrecord_before_used, ⟨Lrecord_before_data_e, Lrecord_before_data_a, Lrecord_before_data_c, Lrecord_before_data_b⟩⟩, ⟨Lrecord_after_used, ⟨Lrecord_after_data_e, Lrecord_after_data_a, Lrecord_after_data_c, Lrecord_after_data_b⟩⟩, Lrecord_uN, Lrecord_nT, ⟨Lrecord_txns_e, Lrecord_txns_a, Lrecord_txns_n, Lrecord_txns_c, Lrecord_txns_b⟩, ⟨Lrecord_dirty_e, Lrecord_dirty_a, Lrecord_dirty_n, Lrecord_dirty_c, Lrecord_dirty_b⟩, ⟨Lrecord_image_e, Lrecord_image_a, Lrecord_image_c, Lrecord_image_b⟩⟩⟩ ⟨Wcode, Wfsz, Wepoch, ⟨Wrecord_kind, Wrecord_txn, Wrecord_prev, Wrecord_page, Wrecord_slot, ⟨Wrecord_before_used, ⟨Wrecord_before_data_e, Wrecord_before_data_a, Wrecord_before_data_c, Wrecord_before_data_b⟩⟩, ⟨Wrecord_after_used, ⟨Wrecord_after_data_e, Wrecord_after_data_a, Wrecord_after_data_c, Wrecord_after_data_b⟩⟩, Wrecord_uN, Wrecord_nT, ⟨Wrecord_txns_e, Wrecord_txns_a, Wrecord_txns_n, Wrecord_txns_c, Wrecord_txns_b⟩, ⟨Wrecord_dirty_e, Wrecord_dirty_a, Wrecord_dirty_n, Wrecord_dirty_c, Wrecord_dirty_b⟩, ⟨Wrecord_image_e, Wrecord_image_a, Wrecord_image_c, Wrecord_image_b⟩⟩⟩ _ (by omega) (HDL.out.trans HDW.out.symm) (HLw13.out.same ((Kept.refl _ _).alloc _)) (HWw13.out.same ((Kept.refl _ _).alloc _))).mono ?_
  rintro e w14 ⟨rfl, hk⟩
  have hkk : Same w13 w14 := ((Kept.refl _ _).alloc _).trans hk
  have hzw14 := hk.size
  rw [World.size_alloc] at hzw14
  have HWw14 := (show Hid (OwnL w14 (StFrameResult.rows ⟨Wcode, Wfsz, Wepoch, ⟨Wrecord_kind, Wrecord_txn, Wrecord_prev, Wrecord_page, Wrecord_slot, ⟨Wrecord_before_used, ⟨Wrecord_before_data_e, Wrecord_before_data_a, Wrecord_before_data_c, Wrecord_before_data_b⟩⟩, ⟨Wrecord_after_used, ⟨Wrecord_after_data_e, Wrecord_after_data_a, Wrecord_after_data_c, Wrecord_after_data_b⟩⟩, Wrecord_uN, Wrecord_nT, ⟨Wrecord_txns_e, Wrecord_txns_a, Wrecord_txns_n, Wrecord_txns_c, Wrecord_txns_b⟩, ⟨Wrecord_dirty_e, Wrecord_dirty_a, Wrecord_dirty_n, Wrecord_dirty_c, Wrecord_dirty_b⟩, ⟨Wrecord_image_e, Wrecord_image_a, Wrecord_image_c, Wrecord_image_b⟩⟩⟩)) from HWw13.out.same hkk)
  have HZw14 := (show Hid (Blk w14 (w2.heap.size) 39 [.int .i64 Wcode, .int .i64 Wfsz, .int .i64 Wepoch, .int .i64 Wrecord_kind, .int .i64 Wrecord_txn, .int .i64 Wrecord_prev, .int .i64 Wrecord_page, .int .i64 Wrecord_slot, .bool Wrecord_before_used, .slice Wrecord_before_data_a Wrecord_before_data_b.length Wrecord_before_data_c, .bool Wrecord_after_used, .slice Wrecord_after_data_a Wrecord_after_data_b.length Wrecord_after_data_c, .int .i64 Wrecord_uN, .int .i64 Wrecord_nT, .slice Wrecord_txns_a Wrecord_txns_n Wrecord_txns_c, .slice Wrecord_dirty_a Wrecord_dirty_n Wrecord_dirty_c, .slice Wrecord_image_a Wrecord_image_b.length Wrecord_image_c]) from HZw13.out.same hkk)
  have HYw14 := (show Hid (Blk w14 (w4.heap.size) 39 [.int .i64 Gcode, .int .i64 Gfsz, .int .i64 Gepoch, .int .i64 Grecord_kind, .int .i64 Grecord_txn, .int .i64 Grecord_prev, .int .i64 Grecord_page, .int .i64 Grecord_slot, .bool Grecord_before_used, .slice Grecord_before_data_a Grecord_before_data_b.length Grecord_before_data_c, .bool Grecord_after_used, .slice Grecord_after_data_a Grecord_after_data_b.length Grecord_after_data_c, .int .i64 Grecord_uN, .int .i64 Grecord_nT, .slice Grecord_txns_a Grecord_txns_n Grecord_txns_c, .slice Grecord_dirty_a Grecord_dirty_n Grecord_dirty_c, .slice Grecord_image_a Grecord_image_b.length Grecord_image_c]) from HYw13.out.same hkk)
  have HUw14 := (show Hid (OwnL w14 (StFrameResult.marked ⟨Gcode, Gfsz, Gepoch, ⟨Grecord_kind, Grecord_txn, Grecord_prev, Grecord_page, Grecord_slot, ⟨Grecord_before_used, ⟨Grecord_before_data_e, Grecord_before_data_a, Grecord_before_data_c, Grecord_before_data_b⟩⟩, ⟨Grecord_after_used, ⟨Grecord_after_data_e, Grecord_after_data_a, Grecord_after_data_c, Grecord_after_data_b⟩⟩, Grecord_uN, Grecord_nT, ⟨Grecord_txns_e, Grecord_txns_a, Grecord_txns_n, Grecord_txns_c, Grecord_txns_b⟩, ⟨Grecord_dirty_e, Grecord_dirty_a, Grecord_dirty_n, Grecord_dirty_c, Grecord_dirty_b⟩, ⟨Grecord_image_e, Grecord_image_a, Grecord_image_c, Grecord_image_b⟩⟩⟩ 1).rows) from HUw13.out.same hkk)
  have HLw14 := (show Hid (OwnL w14 (StFrameResult.rows ⟨Lcode, Lfsz, Lepoch, ⟨Lrecord_kind, Lrecord_txn, Lrecord_prev, Lrecord_page, Lrecord_slot, ⟨Lrecord_before_used, ⟨Lrecord_before_data_e, Lrecord_before_data_a, Lrecord_before_data_c, Lrecord_before_data_b⟩⟩, ⟨Lrecord_after_used, ⟨Lrecord_after_data_e, Lrecord_after_data_a, Lrecord_after_data_c, Lrecord_after_data_b⟩⟩, Lrecord_uN, Lrecord_nT, ⟨Lrecord_txns_e, Lrecord_txns_a, Lrecord_txns_n, Lrecord_txns_c, Lrecord_txns_b⟩, ⟨Lrecord_dirty_e, Lrecord_dirty_a, Lrecord_dirty_n, Lrecord_dirty_c, Lrecord_dirty_b⟩, ⟨Lrecord_image_e, Lrecord_image_a, Lrecord_image_c, Lrecord_image_b⟩⟩⟩)) from HLw13.out.same hkk)
  have HVw14 := (show Hid (Blk w14 (w13.heap.size) 39 [.int .i64 Lcode, .int .i64 Lfsz, .int .i64 Lepoch, .int .i64 Lrecord_kind, .int .i64 Lrecord_txn, .int .i64 Lrecord_prev, .int .i64 Lrecord_page, .int .i64 Lrecord_slot, .bool Lrecord_before_used, .slice Lrecord_before_data_a Lrecord_before_data_b.length Lrecord_before_data_c, .bool Lrecord_after_used, .slice Lrecord_after_data_a Lrecord_after_data_b.length Lrecord_after_data_c, .int .i64 Lrecord_uN, .int .i64 Lrecord_nT, .slice Lrecord_txns_a Lrecord_txns_n Lrecord_txns_c, .slice Lrecord_dirty_a Lrecord_dirty_n Lrecord_dirty_c, .slice Lrecord_image_a Lrecord_image_b.length Lrecord_image_c]) from (Blk.new w13 #[.int .i64 Lcode, .int .i64 Lfsz, .int .i64 Lepoch, .int .i64 Lrecord_kind, .int .i64 Lrecord_txn, .int .i64 Lrecord_prev, .int .i64 Lrecord_page, .int .i64 Lrecord_slot, .bool Lrecord_before_used, .slice Lrecord_before_data_a Lrecord_before_data_b.length Lrecord_before_data_c, .bool Lrecord_after_used, .slice Lrecord_after_data_a Lrecord_after_data_b.length Lrecord_after_data_c, .int .i64 Lrecord_uN, .int .i64 Lrecord_nT, .slice Lrecord_txns_a Lrecord_txns_n Lrecord_txns_c, .slice Lrecord_dirty_a Lrecord_dirty_n Lrecord_dirty_c, .slice Lrecord_image_a Lrecord_image_b.length Lrecord_image_c] 39).same hk)
  have HKw14 := (show Hid (Same w w14) from HKw13.out.trans hkk)
  clear hkk hk
  clear cZ_0 cZ_1 cZ_2 cZ_3 cZ_4 cZ_5 cZ_6 cZ_7 cZ_8 cZ_9 cZ_10 cZ_11 cZ_12 cZ_13 cZ_14 cZ_15 cZ_16 lZ cY_0 cY_1 cY_2 cY_3 cY_4 cY_5 cY_6 cY_7 cY_8 cY_9 cY_10 cY_11 cY_12 cY_13 cY_14 cY_15 cY_16 lY
  as_aux_lemma =>
  have cY_0 : w14.cell? ⟨w4.heap.size, 0, none⟩ = some (.int .i64 Gcode) := HYw14.out.cell 0
  have cY_1 : w14.cell? ⟨w4.heap.size, 1, none⟩ = some (.int .i64 Gfsz) := HYw14.out.cell 1
  have cY_2 : w14.cell? ⟨w4.heap.size, 2, none⟩ = some (.int .i64 Gepoch) := HYw14.out.cell 2
  have cY_3 : w14.cell? ⟨w4.heap.size, 3, none⟩ = some (.int .i64 Grecord_kind) := HYw14.out.cell 3
  have cY_4 : w14.cell? ⟨w4.heap.size, 4, none⟩ = some (.int .i64 Grecord_txn) := HYw14.out.cell 4
  have cY_5 : w14.cell? ⟨w4.heap.size, 5, none⟩ = some (.int .i64 Grecord_prev) := HYw14.out.cell 5
  have cY_6 : w14.cell? ⟨w4.heap.size, 6, none⟩ = some (.int .i64 Grecord_page) := HYw14.out.cell 6
  have cY_7 : w14.cell? ⟨w4.heap.size, 7, none⟩ = some (.int .i64 Grecord_slot) := HYw14.out.cell 7
  have cY_8 : w14.cell? ⟨w4.heap.size, 8, none⟩ = some (.bool Grecord_before_used) := HYw14.out.cell 8
  have cY_9 : w14.cell? ⟨w4.heap.size, 9, none⟩ = some (.slice Grecord_before_data_a Grecord_before_data_b.length Grecord_before_data_c) := HYw14.out.cell 9
  have cY_10 : w14.cell? ⟨w4.heap.size, 10, none⟩ = some (.bool Grecord_after_used) := HYw14.out.cell 10
  have cY_11 : w14.cell? ⟨w4.heap.size, 11, none⟩ = some (.slice Grecord_after_data_a Grecord_after_data_b.length Grecord_after_data_c) := HYw14.out.cell 11
  have cY_12 : w14.cell? ⟨w4.heap.size, 12, none⟩ = some (.int .i64 Grecord_uN) := HYw14.out.cell 12
  have cY_13 : w14.cell? ⟨w4.heap.size, 13, none⟩ = some (.int .i64 Grecord_nT) := HYw14.out.cell 13
  have cY_14 : w14.cell? ⟨w4.heap.size, 14, none⟩ = some (.slice Grecord_txns_a Grecord_txns_n Grecord_txns_c) := HYw14.out.cell 14
  have cY_15 : w14.cell? ⟨w4.heap.size, 15, none⟩ = some (.slice Grecord_dirty_a Grecord_dirty_n Grecord_dirty_c) := HYw14.out.cell 15
  have cY_16 : w14.cell? ⟨w4.heap.size, 16, none⟩ = some (.slice Grecord_image_a Grecord_image_b.length Grecord_image_c) := HYw14.out.cell 16
  have lY := HYw14.out.lt
  go_wp2_with fail
  have hm := heldFrameResult_own ⟨Gcode, Gfsz, Gepoch, ⟨Grecord_kind, Grecord_txn, Grecord_prev, Grecord_page, Grecord_slot, ⟨Grecord_before_used, ⟨Grecord_before_data_e, Grecord_before_data_a, Grecord_before_data_c, Grecord_before_data_b⟩⟩, ⟨Grecord_after_used, ⟨Grecord_after_data_e, Grecord_after_data_a, Grecord_after_data_c, Grecord_after_data_b⟩⟩, Grecord_uN, Grecord_nT, ⟨Grecord_txns_e, Grecord_txns_a, Grecord_txns_n, Grecord_txns_c, Grecord_txns_b⟩, ⟨Grecord_dirty_e, Grecord_dirty_a, Grecord_dirty_n, Grecord_dirty_c, Grecord_dirty_b⟩, ⟨Grecord_image_e, Grecord_image_a, Grecord_image_c, Grecord_image_b⟩⟩⟩ 1 w14 (by omega) (by rw [HM.out]; omega) HUw14.out
  rw [HM.out] at hm
  dsimp only [StFrameResult.val, StLogRecord.val, StPageRecord.val, BS.v, FR.v] at hm
  refine hm.mono ?_
  clear hm
  rintro e w15 ⟨rfl, hk⟩
  have hkk : Same w14 w15 := hk
  have hzw15 := hkk.size
  have HYw15 := (show Hid (Blk w15 (w4.heap.size) 39 [.int .i64 Gcode, .int .i64 Gfsz, .int .i64 Gepoch, .int .i64 Grecord_kind, .int .i64 Grecord_txn, .int .i64 Grecord_prev, .int .i64 Grecord_page, .int .i64 Grecord_slot, .bool Grecord_before_used, .slice Grecord_before_data_a Grecord_before_data_b.length Grecord_before_data_c, .bool Grecord_after_used, .slice Grecord_after_data_a Grecord_after_data_b.length Grecord_after_data_c, .int .i64 Grecord_uN, .int .i64 Grecord_nT, .slice Grecord_txns_a Grecord_txns_n Grecord_txns_c, .slice Grecord_dirty_a Grecord_dirty_n Grecord_dirty_c, .slice Grecord_image_a Grecord_image_b.length Grecord_image_c]) from HYw14.out.same hkk)
  have HUw15 := (show Hid (OwnL w15 (StFrameResult.marked ⟨Gcode, Gfsz, Gepoch, ⟨Grecord_kind, Grecord_txn, Grecord_prev, Grecord_page, Grecord_slot, ⟨Grecord_before_used, ⟨Grecord_before_data_e, Grecord_before_data_a, Grecord_before_data_c, Grecord_before_data_b⟩⟩, ⟨Grecord_after_used, ⟨Grecord_after_data_e, Grecord_after_data_a, Grecord_after_data_c, Grecord_after_data_b⟩⟩, Grecord_uN, Grecord_nT, ⟨Grecord_txns_e, Grecord_txns_a, Grecord_txns_n, Grecord_txns_c, Grecord_txns_b⟩, ⟨Grecord_dirty_e, Grecord_dirty_a, Grecord_dirty_n, Grecord_dirty_c, Grecord_dirty_b⟩, ⟨Grecord_image_e, Grecord_image_a, Grecord_image_c, Grecord_image_b⟩⟩⟩ 1).rows) from HUw14.out.same hkk)
  have HKw15 := (show Hid (Same w w15) from HKw14.out.trans hkk)
  clear hkk hk
  clear cY_0 cY_1 cY_2 cY_3 cY_4 cY_5 cY_6 cY_7 cY_8 cY_9 cY_10 cY_11 cY_12 cY_13 cY_14 cY_15 cY_16 lY
  go_wp2
  go_ret
  exact ⟨rfl, HKw15.out⟩
end Go.Proofs.YtaeikeglaobeeaaGreat
