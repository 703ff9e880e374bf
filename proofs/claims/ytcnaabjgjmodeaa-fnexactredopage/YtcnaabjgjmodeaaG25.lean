import Derived.Test.YtcnaabjgjmodeaaG24
import Derived.Test.YtcnaabjgjmodeaaG00
import Derived.Test.YtcnaabjgjmodeaaG15
import Derived.Deep.DeepCutAuto
namespace Go.Proofs.Ytcnaabjgjmodeaa
open Go.RowKit
set_option linter.unusedVariables false
set_option maxRecDepth 100000 in
set_option maxHeartbeats 16000000 in
theorem redoPage_law (v0 : Value) (bs0 : List Int) (s1 : Int) (v2 : Value) (fs2 : List StLogFrame) (s3 : Int) (w : World) (hv0 : Rd .u8 w v0 bs0) (hB0 : IsB bs0) (hv2 : RdFr w v2 fs2) (hB2 : ∀ p ∈ fs2, p.isB) :
    Calls Try.prog 6 #[v0, .int .i64 s1, v2, .int .i64 s3] w fun e w' => e = .returned (.bool true) ∧ Same w w' := by
  obtain ⟨a0a, c0a, rfl⟩ := hv0.form
  have hm0 := hv0.1
  unfold maxLen at hm0
  have HB0 := (show Hid (IsB bs0) from hB0)
  clear hB0
  have HV0 := (show Hid (Rd .u8 w (.slice a0a bs0.length c0a) bs0) from hv0)
  clear hv0
  obtain ⟨a2a, c2a, rfl⟩ := hv2.form
  have hm2 := hv2.row.max
  unfold maxLen at hm2
  have HB2 := (show Hid (∀ p ∈ fs2, p.isB) from hB2)
  clear hB2
  have HV2 := (show Hid (RdFr w (.slice a2a fs2.length c2a) fs2) from hv2)
  clear hv2
  go_enter Try.func6, Try.ntmps6
  have HKw : Hid (Same w w) := Kept.refl _ _
  by_cases hb0 : (1048576 : Int) < (bs0.length : Int)
  · go_wp2
    go_ret
    exact ⟨rfl, by first | exact Kept.refl _ _ | exact (Kept.refl _ _).alloc _ | exact ((Kept.refl _ _).alloc _).alloc _⟩
  go_wp2_with fail
  refine (szLogFrameS_any _ fs2 1048576 _ (by omega) (by omega) (HV2.out.same HKw.out)).mono ?_
  rintro e w1 ⟨sz2, rfl, hr, hk⟩
  have hkk : Same w w1 := hk
  have hzw1 := hkk.size
  have HKw1 := (show Hid (Same w w1) from HKw.out.trans hkk)
  clear hkk hk
  rcases hr with rfl | ⟨hr, hr2⟩
  · go_wp2
    go_ret
    exact ⟨rfl, HKw1.out⟩
  have hz02 := sizeFr_nonneg fs2
  have hp2 : fs2.length ≤ 1048576 := by omega
  have hsz2 : sizeFr fs2 ≤ 1048576 := by omega
  have hsb2 : sz2 ≤ 1048576 := by omega
  have HS2 : Hid (∀ p ∈ fs2, p.szs ≤ 1048576) := fun p hp => by have := sizeFr_mem fs2 p hp; omega
  have HT2 : Hid (∀ qs : List StLogFrame, datFr qs = datFr fs2 → szsFr qs = szsFr fs2 → FrOK qs) := fun qs hq hqz => FrOK.of hq hqz HB2.out hp2 hsz2
  clear hr
  go_wp2_with fail
  refine (toByteS_any _ bs0 _ (by omega) (HV0.out.same HKw1.out)).mono ?_
  rintro e w2 ⟨gC0, rfl, hf, ho, hk⟩
  have hf : ∀ b, (Value.slice (some ⟨gC0, 0, none⟩) bs0.length bs0.length).ownBlock = some b → _ ≤ b := fun b hb => by rw [← (Option.some.inj hb : gC0 = b)]; exact hf
  have HFC0 := (show Hid (∀ b, (Value.slice (some ⟨gC0, 0, none⟩) bs0.length bs0.length).ownBlock = some b → w1.heap.size ≤ b ∧ b < w2.heap.size) from fun b hb => ⟨hf b hb, (ho.lt b hb).2⟩)
  have HC0w2 := (show Hid (Own 0 5 .u8 w2 (.slice (some ⟨gC0, 0, none⟩) bs0.length bs0.length) bs0) from ho)
  clear hf ho
  have hkk : Same w1 w2 := hk
  have hzw2 := hkk.size
  have HKw2 := (show Hid (Same w w2) from HKw1.out.trans hkk)
  clear hkk hk
  go_wp2_with fail
  refine (toLogFrameS_any _ fs2 _ (by omega) (fun p hp => Int.le_trans (HS2.out p hp) (by omega)) (HV2.out.same HKw2.out)).mono ?_
  rintro e w3 ⟨gC2, qsC2, rfl, hq, hqz, hf, ho, hk⟩
  have HQC2 : Hid (datFr qsC2 = datFr fs2) := hq
  have HQZC2 : Hid (szsFr qsC2 = szsFr fs2) := hqz
  clear hqz
  have HFC2 := (show Hid (∀ b, footFr (.slice (some ⟨gC2, 0, none⟩) fs2.length fs2.length) qsC2 b → w2.heap.size ≤ b ∧ b < w3.heap.size) from fun b hb => ⟨hf b hb, ho.lt b hb⟩)
  have HC2w3 := (show Hid (OwnFr w3 (.slice (some ⟨gC2, 0, none⟩) fs2.length fs2.length) qsC2) from ho)
  clear hf ho hq
  have hkk : Same w2 w3 := hk
  have hzw3 := hkk.size
  have HC0w3 := (show Hid (Own 0 5 .u8 w3 (.slice (some ⟨gC0, 0, none⟩) bs0.length bs0.length) bs0) from HC0w2.out.same hkk)
  have HKw3 := (show Hid (Same w w3) from HKw2.out.trans hkk)
  clear hkk hk
  go_wp2_with fail
  refine (specRedoL_any _ bs0 s1 _ qsC2 s3 _ HB0.out (by omega) (HC0w3.out.rd) (HT2.out qsC2 HQC2.out HQZC2.out) (HC2w3.out.rd)).mono ?_
  rintro e w4 ⟨⟨Wcode, ⟨Wpage_e, Wpage_a, Wpage_c, Wpage_b⟩⟩, rfl, hd, hf, ho, hk⟩
  rw [HQC2.out] at hd
  have hnW : StPageResult.size ⟨Wcode, ⟨Wpage_e, Wpage_a, Wpage_c, Wpage_b⟩⟩ ≤ 1099511627776 := redoD_small HB0.out HB2.out hd
  have hnW0 := StPageResult.size_le ⟨Wcode, ⟨Wpage_e, Wpage_a, Wpage_c, Wpage_b⟩⟩
  have HDW := (show Hid (StPageResult.dat ⟨Wcode, ⟨Wpage_e, Wpage_a, Wpage_c, Wpage_b⟩⟩ = redoD bs0 s1 (datFr fs2) s3) from hd)
  dsimp only [StPageResult.val, BS.v]
  have HFW := (show Hid (∀ b, FootL (StPageResult.rows ⟨Wcode, ⟨Wpage_e, Wpage_a, Wpage_c, Wpage_b⟩⟩) b → w3.heap.size ≤ b ∧ b < w4.heap.size) from fun b hb => ⟨hf b hb, ho.lt b hb⟩)
  have HWw4 := (show Hid (OwnL w4 (StPageResult.rows ⟨Wcode, ⟨Wpage_e, Wpage_a, Wpage_c, Wpage_b⟩⟩)) from ho)
  clear hd hf ho
  have hkk : Same w3 w4 := hk
  have hzw4 := hkk.size
  have HC0w4 := (show Hid (Own 0 5 .u8 w4 (.slice (some ⟨gC0, 0, none⟩) bs0.length bs0.length) bs0) from HC0w3.out.same hkk)
  have HC2w4 := (show Hid (OwnFr w4 (.slice (some ⟨gC2, 0, none⟩) fs2.length fs2.length) qsC2) from HC2w3.out.same hkk)
  have HKw4 := (show Hid (Same w w4) from HKw3.out.trans hkk)
  clear hkk hk
  go_wp2_with fail
  refine (toByteS_any _ bs0 _ (by omega) (HV0.out.same (HKw4.out.alloc _))).mono ?_
  rintro e w5 ⟨gX0, rfl, hf, ho, hk⟩
  have hf : ∀ b, (Value.slice (some ⟨gX0, 0, none⟩) bs0.length bs0.length).ownBlock = some b → _ ≤ b := fun b hb => by rw [← (Option.some.inj hb : gX0 = b)]; exact hf
  simp only [World.size_alloc] at hf
  have HFX0 := (show Hid (∀ b, (Value.slice (some ⟨gX0, 0, none⟩) bs0.length bs0.length).ownBlock = some b → w4.heap.size < b ∧ b < w5.heap.size) from fun b hb => ⟨by have := hf b hb; omega, (ho.lt b hb).2⟩)
  have HX0w5 := (show Hid (Own 0 5 .u8 w5 (.slice (some ⟨gX0, 0, none⟩) bs0.length bs0.length) bs0) from ho)
  clear hf ho
  have hkk : Same w4 w5 := ((Kept.refl _ _).alloc _).trans hk
  have hzw5 := hk.size
  rw [World.size_alloc] at hzw5
  have HWw5 := (show Hid (OwnL w5 (StPageResult.rows ⟨Wcode, ⟨Wpage_e, Wpage_a, Wpage_c, Wpage_b⟩⟩)) from HWw4.out.same hkk)
  have HZw5 := (show Hid (Blk w5 (w4.heap.size) 28 [.int .i64 Wcode, .slice Wpage_a Wpage_b.length Wpage_c]) from (Blk.new w4 #[.int .i64 Wcode, .slice Wpage_a Wpage_b.length Wpage_c] 28).same hk)
  have HKw5 := (show Hid (Same w w5) from HKw4.out.trans hkk)
  clear hkk hk
  have cZ_0 : w5.cell? ⟨w4.heap.size, 0, none⟩ = some (.int .i64 Wcode) := HZw5.out.cell 0
  have cZ_1 : w5.cell? ⟨w4.heap.size, 1, none⟩ = some (.slice Wpage_a Wpage_b.length Wpage_c) := HZw5.out.cell 1
  have lZ := HZw5.out.lt
  go_wp2_with fail
  refine (toLogFrameS_any _ fs2 _ (by omega) (fun p hp => Int.le_trans (HS2.out p hp) (by omega)) (HV2.out.same HKw5.out)).mono ?_
  rintro e w6 ⟨gX2, qsX2, rfl, hq, hqz, hf, ho, hk⟩
  have HQX2 : Hid (datFr qsX2 = datFr fs2) := hq
  have HQZX2 : Hid (szsFr qsX2 = szsFr fs2) := hqz
  clear hqz
  have HFX2 := (show Hid (∀ b, footFr (.slice (some ⟨gX2, 0, none⟩) fs2.length fs2.length) qsX2 b → w5.heap.size ≤ b ∧ b < w6.heap.size) from fun b hb => ⟨hf b hb, ho.lt b hb⟩)
  have HX2w6 := (show Hid (OwnFr w6 (.slice (some ⟨gX2, 0, none⟩) fs2.length fs2.length) qsX2) from ho)
  clear hf ho hq
  have hkk : Same w5 w6 := hk
  have hzw6 := hkk.size
  have HWw6 := (show Hid (OwnL w6 (StPageResult.rows ⟨Wcode, ⟨Wpage_e, Wpage_a, Wpage_c, Wpage_b⟩⟩)) from HWw5.out.same hkk)
  have HZw6 := (show Hid (Blk w6 (w4.heap.size) 28 [.int .i64 Wcode, .slice Wpage_a Wpage_b.length Wpage_c]) from HZw5.out.same hkk)
  have HX0w6 := (show Hid (Own 0 5 .u8 w6 (.slice (some ⟨gX0, 0, none⟩) bs0.length bs0.length) bs0) from HX0w5.out.same hkk)
  have HKw6 := (show Hid (Same w w6) from HKw5.out.trans hkk)
  clear hkk hk
  clear cZ_0 cZ_1 lZ
  have cZ_0 : w6.cell? ⟨w4.heap.size, 0, none⟩ = some (.int .i64 Wcode) := HZw6.out.cell 0
  have cZ_1 : w6.cell? ⟨w4.heap.size, 1, none⟩ = some (.slice Wpage_a Wpage_b.length Wpage_c) := HZw6.out.cell 1
  have lZ := HZw6.out.lt
  go_wp2_with fail
  refine (implRedoL_any _ bs0 s1 _ qsX2 s3 _ HB0.out (by omega) (HX0w6.out.rd) (HT2.out qsX2 HQX2.out HQZX2.out) (HX2w6.out.rd)).mono ?_
  rintro e w7 ⟨⟨Gcode, ⟨Gpage_e, Gpage_a, Gpage_c, Gpage_b⟩⟩, rfl, hd, hf, ho, hk⟩
  rw [HQX2.out] at hd
  have hnG : StPageResult.size ⟨Gcode, ⟨Gpage_e, Gpage_a, Gpage_c, Gpage_b⟩⟩ ≤ 1099511627776 := redoD_small HB0.out HB2.out hd
  have hnG0 := StPageResult.size_le ⟨Gcode, ⟨Gpage_e, Gpage_a, Gpage_c, Gpage_b⟩⟩
  have HDG := (show Hid (StPageResult.dat ⟨Gcode, ⟨Gpage_e, Gpage_a, Gpage_c, Gpage_b⟩⟩ = redoD bs0 s1 (datFr fs2) s3) from hd)
  dsimp only [StPageResult.val, BS.v]
  have HFG := (show Hid (∀ b, FootL (StPageResult.rows ⟨Gcode, ⟨Gpage_e, Gpage_a, Gpage_c, Gpage_b⟩⟩) b → w6.heap.size ≤ b ∧ b < w7.heap.size) from fun b hb => ⟨hf b hb, ho.lt b hb⟩)
  have HGw7 := (show Hid (OwnL w7 (StPageResult.rows ⟨Gcode, ⟨Gpage_e, Gpage_a, Gpage_c, Gpage_b⟩⟩)) from ho)
  clear hd hf ho
  have hkk : Same w6 w7 := hk
  have hzw7 := hkk.size
  have HWw7 := (show Hid (OwnL w7 (StPageResult.rows ⟨Wcode, ⟨Wpage_e, Wpage_a, Wpage_c, Wpage_b⟩⟩)) from HWw6.out.same hkk)
  have HZw7 := (show Hid (Blk w7 (w4.heap.size) 28 [.int .i64 Wcode, .slice Wpage_a Wpage_b.length Wpage_c]) from HZw6.out.same hkk)
  have HX0w7 := (show Hid (Own 0 5 .u8 w7 (.slice (some ⟨gX0, 0, none⟩) bs0.length bs0.length) bs0) from HX0w6.out.same hkk)
  have HX2w7 := (show Hid (OwnFr w7 (.slice (some ⟨gX2, 0, none⟩) fs2.length fs2.length) qsX2) from HX2w6.out.same hkk)
  have HKw7 := (show Hid (Same w w7) from HKw6.out.trans hkk)
  clear hkk hk
  clear cZ_0 cZ_1 lZ
  have cZ_0 : w7.cell? ⟨w4.heap.size, 0, none⟩ = some (.int .i64 Wcode) := HZw7.out.cell 0
  have cZ_1 : w7.cell? ⟨w4.heap.size, 1, none⟩ = some (.slice Wpage_a Wpage_b.length Wpage_c) := HZw7.out.cell 1
  have lZ := HZw7.out.lt
  go_wp2_with fail
  refine (eqPageResult_own ⟨Gcode, ⟨Gpage_e, Gpage_a, Gpage_c, Gpage_b⟩⟩ ⟨Wcode, ⟨Wpage_e, Wpage_a, Wpage_c, Wpage_b⟩⟩ _ (by omega) (HDG.out.trans HDW.out.symm) (HGw7.out.same ((Kept.refl _ _).alloc _)) (HWw7.out.same ((Kept.refl _ _).alloc _))).mono ?_
  rintro e w8 ⟨rfl, hk⟩
  have hkk : Same w7 w8 := ((Kept.refl _ _).alloc _).trans hk
  have hzw8 := hk.size
  rw [World.size_alloc] at hzw8
  have HWw8 := (show Hid (OwnL w8 (StPageResult.rows ⟨Wcode, ⟨Wpage_e, Wpage_a, Wpage_c, Wpage_b⟩⟩)) from HWw7.out.same hkk)
  have HZw8 := (show Hid (Blk w8 (w4.heap.size) 28 [.int .i64 Wcode, .slice Wpage_a Wpage_b.length Wpage_c]) from HZw7.out.same hkk)
  have HX0w8 := (show Hid (Own 0 5 .u8 w8 (.slice (some ⟨gX0, 0, none⟩) bs0.length bs0.length) bs0) from HX0w7.out.same hkk)
  have HX2w8 := (show Hid (OwnFr w8 (.slice (some ⟨gX2, 0, none⟩) fs2.length fs2.length) qsX2) from HX2w7.out.same hkk)
  have HGw8 := (show Hid (OwnL w8 (StPageResult.rows ⟨Gcode, ⟨Gpage_e, Gpage_a, Gpage_c, Gpage_b⟩⟩)) from HGw7.out.same hkk)
  have HYw8 := (show Hid (Blk w8 (w7.heap.size) 28 [.int .i64 Gcode, .slice Gpage_a Gpage_b.length Gpage_c]) from (Blk.new w7 #[.int .i64 Gcode, .slice Gpage_a Gpage_b.length Gpage_c] 28).same hk)
  have HKw8 := (show Hid (Same w w8) from HKw7.out.trans hkk)
  clear hkk hk
  clear cZ_0 cZ_1 lZ
  have cZ_0 : w8.cell? ⟨w4.heap.size, 0, none⟩ = some (.int .i64 Wcode) := HZw8.out.cell 0
  have cZ_1 : w8.cell? ⟨w4.heap.size, 1, none⟩ = some (.slice Wpage_a Wpage_b.length Wpage_c) := HZw8.out.cell 1
  have lZ := HZw8.out.lt
  have cY_0 : w8.cell? ⟨w7.heap.size, 0, none⟩ = some (.int .i64 Gcode) := HYw8.out.cell 0
  have cY_1 : w8.cell? ⟨w7.heap.size, 1, none⟩ = some (.slice Gpage_a Gpage_b.length Gpage_c) := HYw8.out.cell 1
  have lY := HYw8.out.lt
  go_wp2_with fail
  refine (toByteS_any _ bs0 _ (by omega) (HV0.out.same HKw8.out)).mono ?_
  rintro e w9 ⟨gD0, rfl, hf, ho, hk⟩
  have hf : ∀ b, (Value.slice (some ⟨gD0, 0, none⟩) bs0.length bs0.length).ownBlock = some b → _ ≤ b := fun b hb => by rw [← (Option.some.inj hb : gD0 = b)]; exact hf
  have HFD0 := (show Hid (∀ b, (Value.slice (some ⟨gD0, 0, none⟩) bs0.length bs0.length).ownBlock = some b → w8.heap.size ≤ b ∧ b < w9.heap.size) from fun b hb => ⟨hf b hb, (ho.lt b hb).2⟩)
  have HD0w9 := (show Hid (Own 0 5 .u8 w9 (.slice (some ⟨gD0, 0, none⟩) bs0.length bs0.length) bs0) from ho)
  clear hf ho
  have hkk : Same w8 w9 := hk
  have hzw9 := hkk.size
  have HWw9 := (show Hid (OwnL w9 (StPageResult.rows ⟨Wcode, ⟨Wpage_e, Wpage_a, Wpage_c, Wpage_b⟩⟩)) from HWw8.out.same hkk)
  have HZw9 := (show Hid (Blk w9 (w4.heap.size) 28 [.int .i64 Wcode, .slice Wpage_a Wpage_b.length Wpage_c]) from HZw8.out.same hkk)
  have HX0w9 := (show Hid (Own 0 5 .u8 w9 (.slice (some ⟨gX0, 0, none⟩) bs0.length bs0.length) bs0) from HX0w8.out.same hkk)
  have HX2w9 := (show Hid (OwnFr w9 (.slice (some ⟨gX2, 0, none⟩) fs2.length fs2.length) qsX2) from HX2w8.out.same hkk)
  have HGw9 := (show Hid (OwnL w9 (StPageResult.rows ⟨Gcode, ⟨Gpage_e, Gpage_a, Gpage_c, Gpage_b⟩⟩)) from HGw8.out.same hkk)
  have HYw9 := (show Hid (Blk w9 (w7.heap.size) 28 [.int .i64 Gcode, .slice Gpage_a Gpage_b.length Gpage_c]) from HYw8.out.same hkk)
  have HKw9 := (show Hid (Same w w9) from HKw8.out.trans hkk)
  clear hkk hk
  clear cZ_0 cZ_1 lZ cY_0 cY_1 lY
  have cZ_0 : w9.cell? ⟨w4.heap.size, 0, none⟩ = some (.int .i64 Wcode) := HZw9.out.cell 0
  have cZ_1 : w9.cell? ⟨w4.heap.size, 1, none⟩ = some (.slice Wpage_a Wpage_b.length Wpage_c) := HZw9.out.cell 1
  have lZ := HZw9.out.lt
  have cY_0 : w9.cell? ⟨w7.heap.size, 0, none⟩ = some (.int .i64 Gcode) := HYw9.out.cell 0
  have cY_1 : w9.cell? ⟨w7.heap.size, 1, none⟩ = some (.slice Gpage_a Gpage_b.length Gpage_c) := HYw9.out.cell 1
  have lY := HYw9.out.lt
  go_wp2_with fail
  refine (eqByteS_own 0 _ _ bs0 _ (by omega) HX0w9.out HD0w9.out).mono ?_
  rintro e w10 ⟨rfl, nn, hww⟩
  have hk : Same w9 w10 := by rw [hww]; exact (Kept.refl _ _).drewN _
  clear hww
  have hkk : Same w9 w10 := hk
  have hzw10 := hkk.size
  have HWw10 := (show Hid (OwnL w10 (StPageResult.rows ⟨Wcode, ⟨Wpage_e, Wpage_a, Wpage_c, Wpage_b⟩⟩)) from HWw9.out.same hkk)
  have HZw10 := (show Hid (Blk w10 (w4.heap.size) 28 [.int .i64 Wcode, .slice Wpage_a Wpage_b.length Wpage_c]) from HZw9.out.same hkk)
  have HX0w10 := (show Hid (Own 0 5 .u8 w10 (.slice (some ⟨gX0, 0, none⟩) bs0.length bs0.length) bs0) from HX0w9.out.same hkk)
  have HX2w10 := (show Hid (OwnFr w10 (.slice (some ⟨gX2, 0, none⟩) fs2.length fs2.length) qsX2) from HX2w9.out.same hkk)
  have HGw10 := (show Hid (OwnL w10 (StPageResult.rows ⟨Gcode, ⟨Gpage_e, Gpage_a, Gpage_c, Gpage_b⟩⟩)) from HGw9.out.same hkk)
  have HYw10 := (show Hid (Blk w10 (w7.heap.size) 28 [.int .i64 Gcode, .slice Gpage_a Gpage_b.length Gpage_c]) from HYw9.out.same hkk)
  have HKw10 := (show Hid (Same w w10) from HKw9.out.trans hkk)
  clear hkk hk
  clear cZ_0 cZ_1 lZ cY_0 cY_1 lY
  have cZ_0 : w10.cell? ⟨w4.heap.size, 0, none⟩ = some (.int .i64 Wcode) := HZw10.out.cell 0
  have cZ_1 : w10.cell? ⟨w4.heap.size, 1, none⟩ = some (.slice Wpage_a Wpage_b.length Wpage_c) := HZw10.out.cell 1
  have lZ := HZw10.out.lt
  have cY_0 : w10.cell? ⟨w7.heap.size, 0, none⟩ = some (.int .i64 Gcode) := HYw10.out.cell 0
  have cY_1 : w10.cell? ⟨w7.heap.size, 1, none⟩ = some (.slice Gpage_a Gpage_b.length Gpage_c) := HYw10.out.cell 1
  have lY := HYw10.out.lt
  go_wp2_with fail
  refine (toLogFrameS_any _ fs2 _ (by omega) (fun p hp => Int.le_trans (HS2.out p hp) (by omega)) (HV2.out.same HKw10.out)).mono ?_
  rintro e w11 ⟨gD2, qsD2, rfl, hq, hqz, hf, ho, hk⟩
  have HQD2 : Hid (datFr qsD2 = datFr fs2) := hq
  have HQZD2 : Hid (szsFr qsD2 = szsFr fs2) := hqz
  clear hqz
  have HFD2 := (show Hid (∀ b, footFr (.slice (some ⟨gD2, 0, none⟩) fs2.length fs2.length) qsD2 b → w10.heap.size ≤ b ∧ b < w11.heap.size) from fun b hb => ⟨hf b hb, ho.lt b hb⟩)
  have HD2w11 := (show Hid (OwnFr w11 (.slice (some ⟨gD2, 0, none⟩) fs2.length fs2.length) qsD2) from ho)
  clear hf ho hq
  have hkk : Same w10 w11 := hk
  have hzw11 := hkk.size
  have HWw11 := (show Hid (OwnL w11 (StPageResult.rows ⟨Wcode, ⟨Wpage_e, Wpage_a, Wpage_c, Wpage_b⟩⟩)) from HWw10.out.same hkk)
  have HZw11 := (show Hid (Blk w11 (w4.heap.size) 28 [.int .i64 Wcode, .slice Wpage_a Wpage_b.length Wpage_c]) from HZw10.out.same hkk)
  have HX0w11 := (show Hid (Own 0 5 .u8 w11 (.slice (some ⟨gX0, 0, none⟩) bs0.length bs0.length) bs0) from HX0w10.out.same hkk)
  have HX2w11 := (show Hid (OwnFr w11 (.slice (some ⟨gX2, 0, none⟩) fs2.length fs2.length) qsX2) from HX2w10.out.same hkk)
  have HGw11 := (show Hid (OwnL w11 (StPageResult.rows ⟨Gcode, ⟨Gpage_e, Gpage_a, Gpage_c, Gpage_b⟩⟩)) from HGw10.out.same hkk)
  have HYw11 := (show Hid (Blk w11 (w7.heap.size) 28 [.int .i64 Gcode, .slice Gpage_a Gpage_b.length Gpage_c]) from HYw10.out.same hkk)
  have HKw11 := (show Hid (Same w w11) from HKw10.out.trans hkk)
  clear hkk hk
  clear cZ_0 cZ_1 lZ cY_0 cY_1 lY
  have cZ_0 : w11.cell? ⟨w4.heap.size, 0, none⟩ = some (.int .i64 Wcode) := HZw11.out.cell 0
  have cZ_1 : w11.cell? ⟨w4.heap.size, 1, none⟩ = some (.slice Wpage_a Wpage_b.length Wpage_c) := HZw11.out.cell 1
  have lZ := HZw11.out.lt
  have cY_0 : w11.cell? ⟨w7.heap.size, 0, none⟩ = some (.int .i64 Gcode) := HYw11.out.cell 0
  have cY_1 : w11.cell? ⟨w7.heap.size, 1, none⟩ = some (.slice Gpage_a Gpage_b.length Gpage_c) := HYw11.out.cell 1
  have lY := HYw11.out.lt
  go_wp2_with fail
  refine (eqLogFrameS_own _ _ qsX2 qsD2 _ (Nat.le_trans (HT2.out qsX2 HQX2.out HQZX2.out).len (by omega)) (HQX2.out.trans HQD2.out.symm) (fun p hp => by have h1 := StLogFrame.size_rd (HX2w11.out.rd.data p hp); have h2 := (HT2.out qsX2 HQX2.out HQZX2.out).each p hp; omega) HX2w11.out HD2w11.out).mono ?_
  rintro e w12 ⟨rfl, hk⟩
  have hkk : Same w11 w12 := hk
  have hzw12 := hkk.size
  have HWw12 := (show Hid (OwnL w12 (StPageResult.rows ⟨Wcode, ⟨Wpage_e, Wpage_a, Wpage_c, Wpage_b⟩⟩)) from HWw11.out.same hkk)
  have HZw12 := (show Hid (Blk w12 (w4.heap.size) 28 [.int .i64 Wcode, .slice Wpage_a Wpage_b.length Wpage_c]) from HZw11.out.same hkk)
  have HX0w12 := (show Hid (Own 0 5 .u8 w12 (.slice (some ⟨gX0, 0, none⟩) bs0.length bs0.length) bs0) from HX0w11.out.same hkk)
  have HX2w12 := (show Hid (OwnFr w12 (.slice (some ⟨gX2, 0, none⟩) fs2.length fs2.length) qsX2) from HX2w11.out.same hkk)
  have HGw12 := (show Hid (OwnL w12 (StPageResult.rows ⟨Gcode, ⟨Gpage_e, Gpage_a, Gpage_c, Gpage_b⟩⟩)) from HGw11.out.same hkk)
  have HYw12 := (show Hid (Blk w12 (w7.heap.size) 28 [.int .i64 Gcode, .slice Gpage_a Gpage_b.length Gpage_c]) from HYw11.out.same hkk)
  have HKw12 := (show Hid (Same w w12) from HKw11.out.trans hkk)
  clear hkk hk
  clear cZ_0 cZ_1 lZ cY_0 cY_1 lY
  have hE0 : (0 : Int) ≤ 1 := by omega
  have hE0b : (1 : Int) ≤ 1 := by omega
  have cZ_0 : w12.cell? ⟨w4.heap.size, 0, none⟩ = some (.int .i64 Wcode) := HZw12.out.cell 0
  have cZ_1 : w12.cell? ⟨w4.heap.size, 1, none⟩ = some (.slice Wpage_a Wpage_b.length Wpage_c) := HZw12.out.cell 1
  have lZ := HZw12.out.lt
  have cY_0 : w12.cell? ⟨w7.heap.size, 0, none⟩ = some (.int .i64 Gcode) := HYw12.out.cell 0
  have cY_1 : w12.cell? ⟨w7.heap.size, 1, none⟩ = some (.slice Gpage_a Gpage_b.length Gpage_c) := HYw12.out.cell 1
  have lY := HYw12.out.lt
  go_wp2_with fail
  refine (markByteS_own 0 _ bs0 1 _ (by omega) (by omega) (by omega) HX0w12.out).mono ?_
  rintro e w13 ⟨rfl, _, hk⟩
  obtain ⟨E1, hE⟩ : ∃ E : Int, 1 + (bs0.length : Int) = E := ⟨_, rfl⟩
  have hE1 : 0 ≤ E1 := by omega
  have hE1b : E1 ≤ 7000001 := by omega
  rw [hE]
  clear hE
  have hzw13 := hk.size
  have HWw13 := (show Hid (OwnL w13 (StPageResult.rows ⟨Wcode, ⟨Wpage_e, Wpage_a, Wpage_c, Wpage_b⟩⟩)) from HWw12.out.kept hk (fun b hb e => by have h1 := HFX0.out _ e; have h2 := HFW.out b hb; omega))
  have HZw13 := (show Hid (Blk w13 (w4.heap.size) 28 [.int .i64 Wcode, .slice Wpage_a Wpage_b.length Wpage_c]) from HZw12.out.kept hk (fun e => by have h1 := HFX0.out _ e; omega))
  have HX2w13 := (show Hid (OwnFr w13 (.slice (some ⟨gX2, 0, none⟩) fs2.length fs2.length) qsX2) from HX2w12.out.kept hk (fun b hb e => by have h1 := HFX0.out _ e; have h2 := HFX2.out b hb; omega))
  have HGw13 := (show Hid (OwnL w13 (StPageResult.rows ⟨Gcode, ⟨Gpage_e, Gpage_a, Gpage_c, Gpage_b⟩⟩)) from HGw12.out.kept hk (fun b hb e => by have h1 := HFX0.out _ e; have h2 := HFG.out b hb; omega))
  have HYw13 := (show Hid (Blk w13 (w7.heap.size) 28 [.int .i64 Gcode, .slice Gpage_a Gpage_b.length Gpage_c]) from HYw12.out.kept hk (fun e => by have h1 := HFX0.out _ e; omega))
  have HKw13 := (show Hid (Same w w13) from HKw12.out.next hk (fun b hb e => by have h1 := HFX0.out _ e; omega))
  clear cZ_0 cZ_1 lZ cY_0 cY_1 lY
  clear hk
  have hqxX2 := HT2.out qsX2 HQX2.out HQZX2.out
  have hm1X2 := mzFr_rd HX2w13.out.rd.data
  have hm2X2 := mzFr_nonneg qsX2
  have hm3X2 := hqxX2.len
  have hm4X2 := hqxX2.sum
  obtain ⟨E2, hE⟩ : ∃ E, E1 + mzFr qsX2 = E := ⟨_, rfl⟩
  have hE2 : 0 ≤ E2 := by omega
  have hE2b : E2 ≤ 34000001 := by omega
  have HE2 : Hid (E1 + mzFr qsX2 = E2) := hE
  clear hE hqxX2 hm1X2 hm2X2 hm4X2
  have cZ_0 : w13.cell? ⟨w4.heap.size, 0, none⟩ = some (.int .i64 Wcode) := HZw13.out.cell 0
  have cZ_1 : w13.cell? ⟨w4.heap.size, 1, none⟩ = some (.slice Wpage_a Wpage_b.length Wpage_c) := HZw13.out.cell 1
  have lZ := HZw13.out.lt
  have cY_0 : w13.cell? ⟨w7.heap.size, 0, none⟩ = some (.int .i64 Gcode) := HYw13.out.cell 0
  have cY_1 : w13.cell? ⟨w7.heap.size, 1, none⟩ = some (.slice Gpage_a Gpage_b.length Gpage_c) := HYw13.out.cell 1
  have lY := HYw13.out.lt
  go_wp2_with fail
  have hm := markLogFrameS_own (.slice (some ⟨gX2, 0, none⟩) fs2.length fs2.length) qsX2 E1 w13 (by omega) (by rw [HE2.out]; omega) (by omega) HX2w13.out
  rw [HE2.out] at hm
  refine hm.mono ?_
  clear hm
  rintro e w14 ⟨rfl, _, hk⟩
  have hzw14 := hk.size
  have HWw14 := (show Hid (OwnL w14 (StPageResult.rows ⟨Wcode, ⟨Wpage_e, Wpage_a, Wpage_c, Wpage_b⟩⟩)) from HWw13.out.kept hk (fun b hb e => by have h1 := HFX2.out _ e; have h2 := HFW.out b hb; omega))
  have HZw14 := (show Hid (Blk w14 (w4.heap.size) 28 [.int .i64 Wcode, .slice Wpage_a Wpage_b.length Wpage_c]) from HZw13.out.kept hk (fun e => by have h1 := HFX2.out _ e; omega))
  have HGw14 := (show Hid (OwnL w14 (StPageResult.rows ⟨Gcode, ⟨Gpage_e, Gpage_a, Gpage_c, Gpage_b⟩⟩)) from HGw13.out.kept hk (fun b hb e => by have h1 := HFX2.out _ e; have h2 := HFG.out b hb; omega))
  have HYw14 := (show Hid (Blk w14 (w7.heap.size) 28 [.int .i64 Gcode, .slice Gpage_a Gpage_b.length Gpage_c]) from HYw13.out.kept hk (fun e => by have h1 := HFX2.out _ e; omega))
  have HKw14 := (show Hid (Same w w14) from HKw13.out.next hk (fun b hb e => by have h1 := HFX2.out _ e; omega))
  clear cZ_0 cZ_1 lZ cY_0 cY_1 lY
  clear hk
  have hEn : ¬ E2 < 0 := by omega
  have cZ_0 : w14.cell? ⟨w4.heap.size, 0, none⟩ = some (.int .i64 Wcode) := HZw14.out.cell 0
  have cZ_1 : w14.cell? ⟨w4.heap.size, 1, none⟩ = some (.slice Wpage_a Wpage_b.length Wpage_c) := HZw14.out.cell 1
  have lZ := HZw14.out.lt
  have cY_0 : w14.cell? ⟨w7.heap.size, 0, none⟩ = some (.int .i64 Gcode) := HYw14.out.cell 0
  have cY_1 : w14.cell? ⟨w7.heap.size, 1, none⟩ = some (.slice Gpage_a Gpage_b.length Gpage_c) := HYw14.out.cell 1
  have lY := HYw14.out.lt
  go_wp2_with fail
  refine (eqPageResult_own ⟨Gcode, ⟨Gpage_e, Gpage_a, Gpage_c, Gpage_b⟩⟩ ⟨Wcode, ⟨Wpage_e, Wpage_a, Wpage_c, Wpage_b⟩⟩ _ (by omega) (HDG.out.trans HDW.out.symm) HGw14.out HWw14.out).mono ?_
  rintro e w15 ⟨rfl, hk⟩
  have hkk : Same w14 w15 := hk
  have hzw15 := hkk.size
  have HWw15 := (show Hid (OwnL w15 (StPageResult.rows ⟨Wcode, ⟨Wpage_e, Wpage_a, Wpage_c, Wpage_b⟩⟩)) from HWw14.out.same hkk)
  have HZw15 := (show Hid (Blk w15 (w4.heap.size) 28 [.int .i64 Wcode, .slice Wpage_a Wpage_b.length Wpage_c]) from HZw14.out.same hkk)
  have HGw15 := (show Hid (OwnL w15 (StPageResult.rows ⟨Gcode, ⟨Gpage_e, Gpage_a, Gpage_c, Gpage_b⟩⟩)) from HGw14.out.same hkk)
  have HYw15 := (show Hid (Blk w15 (w7.heap.size) 28 [.int .i64 Gcode, .slice Gpage_a Gpage_b.length Gpage_c]) from HYw14.out.same hkk)
  have HKw15 := (show Hid (Same w w15) from HKw14.out.trans hkk)
  clear hkk hk
  clear cZ_0 cZ_1 lZ cY_0 cY_1 lY
  have hM2 : ¬ (1 + StPageResult.size ⟨Gcode, ⟨Gpage_e, Gpage_a, Gpage_c, Gpage_b⟩⟩) < 0 := by omega
  obtain ⟨M, hM⟩ : ∃ M, 1 + StPageResult.size ⟨Gcode, ⟨Gpage_e, Gpage_a, Gpage_c, Gpage_b⟩⟩ = M := ⟨_, rfl⟩
  have HM := (show Hid (1 + StPageResult.size ⟨Gcode, ⟨Gpage_e, Gpage_a, Gpage_c, Gpage_b⟩⟩ = M) from hM)
  have hM3 : 0 ≤ M ∧ M ≤ 1125899906842624 := by omega
  rw [hM] at hM2
  clear hM
  have cZ_0 : w15.cell? ⟨w4.heap.size, 0, none⟩ = some (.int .i64 Wcode) := HZw15.out.cell 0
  have cZ_1 : w15.cell? ⟨w4.heap.size, 1, none⟩ = some (.slice Wpage_a Wpage_b.length Wpage_c) := HZw15.out.cell 1
  have lZ := HZw15.out.lt
  have cY_0 : w15.cell? ⟨w7.heap.size, 0, none⟩ = some (.int .i64 Gcode) := HYw15.out.cell 0
  have cY_1 : w15.cell? ⟨w7.heap.size, 1, none⟩ = some (.slice Gpage_a Gpage_b.length Gpage_c) := HYw15.out.cell 1
  have lY := HYw15.out.lt
  go_wp2_with fail
  have hm := markPageResult_own ⟨Gcode, ⟨Gpage_e, Gpage_a, Gpage_c, Gpage_b⟩⟩ 1 w15 (by omega) (by rw [HM.out]; omega) HGw15.out
  rw [HM.out] at hm
  dsimp only [StPageResult.val, BS.v] at hm
  refine hm.mono ?_
  clear hm
  rintro e w16 ⟨rfl, ho, hk⟩
  have hzw16 := hk.size
  have HWw16 := (show Hid (OwnL w16 (StPageResult.rows ⟨Wcode, ⟨Wpage_e, Wpage_a, Wpage_c, Wpage_b⟩⟩)) from HWw15.out.kept hk (fun b hb e => by have h1 := HFG.out _ e; have h2 := HFW.out b hb; omega))
  have HZw16 := (show Hid (Blk w16 (w4.heap.size) 28 [.int .i64 Wcode, .slice Wpage_a Wpage_b.length Wpage_c]) from HZw15.out.kept hk (fun e => by have h1 := HFG.out _ e; omega))
  have HYw16 := (show Hid (Blk w16 (w7.heap.size) 28 [.int .i64 Gcode, .slice Gpage_a Gpage_b.length Gpage_c]) from HYw15.out.kept hk (fun e => by have h1 := HFG.out _ e; omega))
  have HKw16 := (show Hid (Same w w16) from HKw15.out.next hk (fun b hb e => by have h1 := HFG.out _ e; omega))
  have HUw16 := (show Hid (OwnL w16 (StPageResult.marked ⟨Gcode, ⟨Gpage_e, Gpage_a, Gpage_c, Gpage_b⟩⟩ 1).rows) from ho)
  clear cZ_0 cZ_1 lZ cY_0 cY_1 lY
  clear hk ho
  have HFU := (show Hid (∀ b, FootL (StPageResult.marked ⟨Gcode, ⟨Gpage_e, Gpage_a, Gpage_c, Gpage_b⟩⟩ 1).rows b → _ ∧ _) from fun b hb => HFG.out b ((StPageResult.foot_marked _ _ b).1 hb))
  have cZ_0 : w16.cell? ⟨w4.heap.size, 0, none⟩ = some (.int .i64 Wcode) := HZw16.out.cell 0
  have cZ_1 : w16.cell? ⟨w4.heap.size, 1, none⟩ = some (.slice Wpage_a Wpage_b.length Wpage_c) := HZw16.out.cell 1
  have lZ := HZw16.out.lt
  have cY_0 : w16.cell? ⟨w7.heap.size, 0, none⟩ = some (.int .i64 Gcode) := HYw16.out.cell 0
  have cY_1 : w16.cell? ⟨w7.heap.size, 1, none⟩ = some (.slice Gpage_a Gpage_b.length Gpage_c) := HYw16.out.cell 1
  have lY := HYw16.out.lt
  go_wp2_with fail
  have hm := heldPageResult_own ⟨Gcode, ⟨Gpage_e, Gpage_a, Gpage_c, Gpage_b⟩⟩ 1 w16 (by omega) (by rw [HM.out]; omega) HUw16.out
  rw [HM.out] at hm
  dsimp only [StPageResult.val, BS.v] at hm
  refine hm.mono ?_
  clear hm
  rintro e w17 ⟨rfl, hk⟩
  have hkk : Same w16 w17 := hk
  have hzw17 := hkk.size
  have HWw17 := (show Hid (OwnL w17 (StPageResult.rows ⟨Wcode, ⟨Wpage_e, Wpage_a, Wpage_c, Wpage_b⟩⟩)) from HWw16.out.same hkk)
  have HZw17 := (show Hid (Blk w17 (w4.heap.size) 28 [.int .i64 Wcode, .slice Wpage_a Wpage_b.length Wpage_c]) from HZw16.out.same hkk)
  have HYw17 := (show Hid (Blk w17 (w7.heap.size) 28 [.int .i64 Gcode, .slice Gpage_a Gpage_b.length Gpage_c]) from HYw16.out.same hkk)
  have HUw17 := (show Hid (OwnL w17 (StPageResult.marked ⟨Gcode, ⟨Gpage_e, Gpage_a, Gpage_c, Gpage_b⟩⟩ 1).rows) from HUw16.out.same hkk)
  have HKw17 := (show Hid (Same w w17) from HKw16.out.trans hkk)
  clear hkk hk
  clear cZ_0 cZ_1 lZ cY_0 cY_1 lY
  have cZ_0 : w17.cell? ⟨w4.heap.size, 0, none⟩ = some (.int .i64 Wcode) := HZw17.out.cell 0
  have cZ_1 : w17.cell? ⟨w4.heap.size, 1, none⟩ = some (.slice Wpage_a Wpage_b.length Wpage_c) := HZw17.out.cell 1
  have lZ := HZw17.out.lt
  have cY_0 : w17.cell? ⟨w7.heap.size, 0, none⟩ = some (.int .i64 Gcode) := HYw17.out.cell 0
  have cY_1 : w17.cell? ⟨w7.heap.size, 1, none⟩ = some (.slice Gpage_a Gpage_b.length Gpage_c) := HYw17.out.cell 1
  have lY := HYw17.out.lt
  go_wp2_with fail
  refine (toByteS_any _ bs0 _ (by omega) (HV0.out.same HKw17.out)).mono ?_
  rintro e w18 ⟨gJ0, rfl, hf, ho, hk⟩
  have hf : ∀ b, (Value.slice (some ⟨gJ0, 0, none⟩) bs0.length bs0.length).ownBlock = some b → _ ≤ b := fun b hb => by rw [← (Option.some.inj hb : gJ0 = b)]; exact hf
  have HFJ0 := (show Hid (∀ b, (Value.slice (some ⟨gJ0, 0, none⟩) bs0.length bs0.length).ownBlock = some b → w17.heap.size ≤ b ∧ b < w18.heap.size) from fun b hb => ⟨hf b hb, (ho.lt b hb).2⟩)
  have HJ0w18 := (show Hid (Own 0 5 .u8 w18 (.slice (some ⟨gJ0, 0, none⟩) bs0.length bs0.length) bs0) from ho)
  clear hf ho
  have hkk : Same w17 w18 := hk
  have hzw18 := hkk.size
  have HWw18 := (show Hid (OwnL w18 (StPageResult.rows ⟨Wcode, ⟨Wpage_e, Wpage_a, Wpage_c, Wpage_b⟩⟩)) from HWw17.out.same hkk)
  have HZw18 := (show Hid (Blk w18 (w4.heap.size) 28 [.int .i64 Wcode, .slice Wpage_a Wpage_b.length Wpage_c]) from HZw17.out.same hkk)
  have HYw18 := (show Hid (Blk w18 (w7.heap.size) 28 [.int .i64 Gcode, .slice Gpage_a Gpage_b.length Gpage_c]) from HYw17.out.same hkk)
  have HUw18 := (show Hid (OwnL w18 (StPageResult.marked ⟨Gcode, ⟨Gpage_e, Gpage_a, Gpage_c, Gpage_b⟩⟩ 1).rows) from HUw17.out.same hkk)
  have HKw18 := (show Hid (Same w w18) from HKw17.out.trans hkk)
  clear hkk hk
  clear cZ_0 cZ_1 lZ cY_0 cY_1 lY
  have cZ_0 : w18.cell? ⟨w4.heap.size, 0, none⟩ = some (.int .i64 Wcode) := HZw18.out.cell 0
  have cZ_1 : w18.cell? ⟨w4.heap.size, 1, none⟩ = some (.slice Wpage_a Wpage_b.length Wpage_c) := HZw18.out.cell 1
  have lZ := HZw18.out.lt
  have cY_0 : w18.cell? ⟨w7.heap.size, 0, none⟩ = some (.int .i64 Gcode) := HYw18.out.cell 0
  have cY_1 : w18.cell? ⟨w7.heap.size, 1, none⟩ = some (.slice Gpage_a Gpage_b.length Gpage_c) := HYw18.out.cell 1
  have lY := HYw18.out.lt
  go_wp2_with fail
  refine (toLogFrameS_any _ fs2 _ (by omega) (fun p hp => Int.le_trans (HS2.out p hp) (by omega)) (HV2.out.same HKw18.out)).mono ?_
  rintro e w19 ⟨gJ2, qsJ2, rfl, hq, hqz, hf, ho, hk⟩
  have HQJ2 : Hid (datFr qsJ2 = datFr fs2) := hq
  have HQZJ2 : Hid (szsFr qsJ2 = szsFr fs2) := hqz
  clear hqz
  have HFJ2 := (show Hid (∀ b, footFr (.slice (some ⟨gJ2, 0, none⟩) fs2.length fs2.length) qsJ2 b → w18.heap.size ≤ b ∧ b < w19.heap.size) from fun b hb => ⟨hf b hb, ho.lt b hb⟩)
  have HJ2w19 := (show Hid (OwnFr w19 (.slice (some ⟨gJ2, 0, none⟩) fs2.length fs2.length) qsJ2) from ho)
  clear hf ho hq
  have hkk : Same w18 w19 := hk
  have hzw19 := hkk.size
  have HWw19 := (show Hid (OwnL w19 (StPageResult.rows ⟨Wcode, ⟨Wpage_e, Wpage_a, Wpage_c, Wpage_b⟩⟩)) from HWw18.out.same hkk)
  have HZw19 := (show Hid (Blk w19 (w4.heap.size) 28 [.int .i64 Wcode, .slice Wpage_a Wpage_b.length Wpage_c]) from HZw18.out.same hkk)
  have HYw19 := (show Hid (Blk w19 (w7.heap.size) 28 [.int .i64 Gcode, .slice Gpage_a Gpage_b.length Gpage_c]) from HYw18.out.same hkk)
  have HUw19 := (show Hid (OwnL w19 (StPageResult.marked ⟨Gcode, ⟨Gpage_e, Gpage_a, Gpage_c, Gpage_b⟩⟩ 1).rows) from HUw18.out.same hkk)
  have HJ0w19 := (show Hid (Own 0 5 .u8 w19 (.slice (some ⟨gJ0, 0, none⟩) bs0.length bs0.length) bs0) from HJ0w18.out.same hkk)
  have HKw19 := (show Hid (Same w w19) from HKw18.out.trans hkk)
  clear hkk hk
  clear cZ_0 cZ_1 lZ cY_0 cY_1 lY
  have cZ_0 : w19.cell? ⟨w4.heap.size, 0, none⟩ = some (.int .i64 Wcode) := HZw19.out.cell 0
  have cZ_1 : w19.cell? ⟨w4.heap.size, 1, none⟩ = some (.slice Wpage_a Wpage_b.length Wpage_c) := HZw19.out.cell 1
  have lZ := HZw19.out.lt
  have cY_0 : w19.cell? ⟨w7.heap.size, 0, none⟩ = some (.int .i64 Gcode) := HYw19.out.cell 0
  have cY_1 : w19.cell? ⟨w7.heap.size, 1, none⟩ = some (.slice Gpage_a Gpage_b.length Gpage_c) := HYw19.out.cell 1
  have lY := HYw19.out.lt
  go_wp2_with fail
  refine (implRedoL_any _ bs0 s1 _ qsJ2 s3 _ HB0.out (by omega) (HJ0w19.out.rd) (HT2.out qsJ2 HQJ2.out HQZJ2.out) (HJ2w19.out.rd)).mono ?_
  rintro e w20 ⟨⟨Lcode, ⟨Lpage_e, Lpage_a, Lpage_c, Lpage_b⟩⟩, rfl, hd, hf, ho, hk⟩
  rw [HQJ2.out] at hd
  have hnL : StPageResult.size ⟨Lcode, ⟨Lpage_e, Lpage_a, Lpage_c, Lpage_b⟩⟩ ≤ 1099511627776 := redoD_small HB0.out HB2.out hd
  have hnL0 := StPageResult.size_le ⟨Lcode, ⟨Lpage_e, Lpage_a, Lpage_c, Lpage_b⟩⟩
  have HDL := (show Hid (StPageResult.dat ⟨Lcode, ⟨Lpage_e, Lpage_a, Lpage_c, Lpage_b⟩⟩ = redoD bs0 s1 (datFr fs2) s3) from hd)
  dsimp only [StPageResult.val, BS.v]
  have HFL := (show Hid (∀ b, FootL (StPageResult.rows ⟨Lcode, ⟨Lpage_e, Lpage_a, Lpage_c, Lpage_b⟩⟩) b → w19.heap.size ≤ b ∧ b < w20.heap.size) from fun b hb => ⟨hf b hb, ho.lt b hb⟩)
  have HLw20 := (show Hid (OwnL w20 (StPageResult.rows ⟨Lcode, ⟨Lpage_e, Lpage_a, Lpage_c, Lpage_b⟩⟩)) from ho)
  clear hd hf ho
  have hkk : Same w19 w20 := hk
  have hzw20 := hkk.size
  have HWw20 := (show Hid (OwnL w20 (StPageResult.rows ⟨Wcode, ⟨Wpage_e, Wpage_a, Wpage_c, Wpage_b⟩⟩)) from HWw19.out.same hkk)
  have HZw20 := (show Hid (Blk w20 (w4.heap.size) 28 [.int .i64 Wcode, .slice Wpage_a Wpage_b.length Wpage_c]) from HZw19.out.same hkk)
  have HYw20 := (show Hid (Blk w20 (w7.heap.size) 28 [.int .i64 Gcode, .slice Gpage_a Gpage_b.length Gpage_c]) from HYw19.out.same hkk)
  have HUw20 := (show Hid (OwnL w20 (StPageResult.marked ⟨Gcode, ⟨Gpage_e, Gpage_a, Gpage_c, Gpage_b⟩⟩ 1).rows) from HUw19.out.same hkk)
  have HJ0w20 := (show Hid (Own 0 5 .u8 w20 (.slice (some ⟨gJ0, 0, none⟩) bs0.length bs0.length) bs0) from HJ0w19.out.same hkk)
  have HJ2w20 := (show Hid (OwnFr w20 (.slice (some ⟨gJ2, 0, none⟩) fs2.length fs2.length) qsJ2) from HJ2w19.out.same hkk)
  have HKw20 := (show Hid (Same w w20) from HKw19.out.trans hkk)
  clear hkk hk
  clear cZ_0 cZ_1 lZ cY_0 cY_1 lY
  have cZ_0 : w20.cell? ⟨w4.heap.size, 0, none⟩ = some (.int .i64 Wcode) := HZw20.out.cell 0
  have cZ_1 : w20.cell? ⟨w4.heap.size, 1, none⟩ = some (.slice Wpage_a Wpage_b.length Wpage_c) := HZw20.out.cell 1
  have lZ := HZw20.out.lt
  have cY_0 : w20.cell? ⟨w7.heap.size, 0, none⟩ = some (.int .i64 Gcode) := HYw20.out.cell 0
  have cY_1 : w20.cell? ⟨w7.heap.size, 1, none⟩ = some (.slice Gpage_a Gpage_b.length Gpage_c) := HYw20.out.cell 1
  have lY := HYw20.out.lt
  go_wp2_with fail
  refine (eqPageResult_own ⟨Lcode, ⟨Lpage_e, Lpage_a, Lpage_c, Lpage_b⟩⟩ ⟨Wcode, ⟨Wpage_e, Wpage_a, Wpage_c, Wpage_b⟩⟩ _ (by omega) (HDL.out.trans HDW.out.symm) (HLw20.out.same ((Kept.refl _ _).alloc _)) (HWw20.out.same ((Kept.refl _ _).alloc _))).mono ?_
  rintro e w21 ⟨rfl, hk⟩
  have hkk : Same w20 w21 := ((Kept.refl _ _).alloc _).trans hk
  have hzw21 := hk.size
  rw [World.size_alloc] at hzw21
  have HWw21 := (show Hid (OwnL w21 (StPageResult.rows ⟨Wcode, ⟨Wpage_e, Wpage_a, Wpage_c, Wpage_b⟩⟩)) from HWw20.out.same hkk)
  have HZw21 := (show Hid (Blk w21 (w4.heap.size) 28 [.int .i64 Wcode, .slice Wpage_a Wpage_b.length Wpage_c]) from HZw20.out.same hkk)
  have HYw21 := (show Hid (Blk w21 (w7.heap.size) 28 [.int .i64 Gcode, .slice Gpage_a Gpage_b.length Gpage_c]) from HYw20.out.same hkk)
  have HUw21 := (show Hid (OwnL w21 (StPageResult.marked ⟨Gcode, ⟨Gpage_e, Gpage_a, Gpage_c, Gpage_b⟩⟩ 1).rows) from HUw20.out.same hkk)
  have HLw21 := (show Hid (OwnL w21 (StPageResult.rows ⟨Lcode, ⟨Lpage_e, Lpage_a, Lpage_c, Lpage_b⟩⟩)) from HLw20.out.same hkk)
  have HVw21 := (show Hid (Blk w21 (w20.heap.size) 28 [.int .i64 Lcode, .slice Lpage_a Lpage_b.length Lpage_c]) from (Blk.new w20 #[.int .i64 Lcode, .slice Lpage_a Lpage_b.length Lpage_c] 28).same hk)
  have HKw21 := (show Hid (Same w w21) from HKw20.out.trans hkk)
  clear hkk hk
  clear cZ_0 cZ_1 lZ cY_0 cY_1 lY
  have cY_0 : w21.cell? ⟨w7.heap.size, 0, none⟩ = some (.int .i64 Gcode) := HYw21.out.cell 0
  have cY_1 : w21.cell? ⟨w7.heap.size, 1, none⟩ = some (.slice Gpage_a Gpage_b.length Gpage_c) := HYw21.out.cell 1
  have lY := HYw21.out.lt
  go_wp2_with fail
  have hm := heldPageResult_own ⟨Gcode, ⟨Gpage_e, Gpage_a, Gpage_c, Gpage_b⟩⟩ 1 w21 (by omega) (by rw [HM.out]; omega) HUw21.out
  rw [HM.out] at hm
  dsimp only [StPageResult.val, BS.v] at hm
  refine hm.mono ?_
  clear hm
  rintro e w22 ⟨rfl, hk⟩
  have hkk : Same w21 w22 := hk
  have hzw22 := hkk.size
  have HYw22 := (show Hid (Blk w22 (w7.heap.size) 28 [.int .i64 Gcode, .slice Gpage_a Gpage_b.length Gpage_c]) from HYw21.out.same hkk)
  have HUw22 := (show Hid (OwnL w22 (StPageResult.marked ⟨Gcode, ⟨Gpage_e, Gpage_a, Gpage_c, Gpage_b⟩⟩ 1).rows) from HUw21.out.same hkk)
  have HKw22 := (show Hid (Same w w22) from HKw21.out.trans hkk)
  clear hkk hk
  clear cY_0 cY_1 lY
  go_wp2
  go_ret
  exact ⟨rfl, HKw22.out⟩
end Go.Proofs.Ytcnaabjgjmodeaa

namespace Go.Proofs.Ytcnaabjgjmodeaa.fnExactRedoPage
open Go.ChangeShapes Go.WideShapes Go.ChangeAt Go.RowKit
set_option linter.unusedVariables false
theorem own : ownKnob Try.prog.godebug = none := by kernel_rfl
theorem laidOut : laidOutB Try.prog = true := by kernel_rfl
set_option maxRecDepth 100000 in
theorem lifted (os : Os) (started : os.Started) (H : Type) (enc : TypeId × Value → H) :
    ReturnsInHanded {} Try.checked os 6 .any (Rows.fnExactRedoPageSpec.pre6 enc Try.prog Try.f6 Rows.fnExactRedoPageRow.domain false) (Rows.fnExactRedoPageSpec.post enc Try.prog Try.f6 false true false false) := by
  refine returnsInHanded_of_change (C := Try.checked) own started (by kernel_rfl) Try.func6
    (ChangeSpec.witness6 (enc := enc) (C := Try.checked) false ⟨#[], #[.slice none 0 0, .int .i64 0, .slice none 0 0, .int .i64 0], []⟩ 8 (by kernel_rfl) (by kernel_rfl) (by kernel_rfl) (by kernel_rfl)) ?_
  intro W base args ds gs before hval0 hW hcnd _
  have hval : ∀ (j : Nat) t v, Try.f6.params[j]? = some t → args[j]? = some v → Value.okWide Try.prog W .any base t v := hval0
  have hW' := hW
  obtain ⟨p, q, hA0, hV, rfl, hfz, hnd⟩ := hW
  have hA : DataW.TrodAll enc Try.prog W 0 (fun _ => true) true Try.f6.params.toList args.toList ds p := hA0
  rw [Try.params6] at hA hval
  obtain ⟨v0, vs0, d0, ds0, p0, q0, hargs, rfl, rfl, h0, r0⟩ := trodAll_cons hA
  obtain ⟨v1, vs1, d1, ds1, p1, q1, rfl, rfl, rfl, h1, r1⟩ := trodAll_cons r0
  obtain ⟨v2, vs2, d2, ds2, p2, q2, rfl, rfl, rfl, h2, r2⟩ := trodAll_cons r1
  obtain ⟨v3, vs3, d3, ds3, p3, q3, rfl, rfl, rfl, h3, r3⟩ := trodAll_cons r2
  obtain ⟨rfl, rfl, rfl⟩ := trodAll_nil r3
  obtain rfl : args = #[v0, v1, v2, v3] := by cases args; simp_all
  obtain ⟨rfl, rfl⟩ := trodVars_none hV
  have k0 := h0
  have lt0 : ∀ x ∈ p0, x.block < W.heap.size := by obtain ⟨m, hm⟩ := k0; exact DataW.trod_lt m _ _ _ hm
  obtain ⟨x0, rd0, bd0⟩ := open_bytesB (hval 0 22 v0 rfl rfl) h0
  obtain ⟨a1, rfl, rfl, rfl, w1⟩ := open_int Try.underlying2 (hval 1 2 v1 rfl rfl) h1
  have k2 := h2
  have lt2 : ∀ x ∈ p2, x.block < W.heap.size := by obtain ⟨m, hm⟩ := k2; exact DataW.trod_lt m _ _ _ hm
  obtain ⟨fs2, rd2, bd2⟩ := open_frames (hval 2 45 v2 rfl rfl) h2
  obtain ⟨a3, rfl, rfl, rfl, w3⟩ := open_int Try.underlying2 (hval 3 2 v3 rfl rfl) h3
  clear hA0 hval0
  refine (redoPage_law v0 x0 a1 v2 fs2 a3 W rd0 bd0 rd2 bd2).mono fun e W' ⟨he, hk⟩ => ?_
  have bel : Below W.heap.size W W' := hk.below (Nat.le_refl _) (fun _ _ => id)
  subst he
  exact ⟨_, rfl, _, _, _, [], _, [], hW', trodAll_mk1 (shut_bool Try.underlying4 _), (trodAll_cons_mk (Below.trod laidOut (by kernel_rfl) (of_decide_eq_true (by kernel_rfl)) k0 bel lt0) (trodAll_cons_mk (shut_int Try.underlying2 w1) (trodAll_cons_mk (Below.trod laidOut (by kernel_rfl) (of_decide_eq_true (by kernel_rfl)) k2 bel lt2) (trodAll_cons_mk (shut_int Try.underlying2 w3) trodAll_mk0)))), rfl, bel.frame _, fun h => by cases h⟩
theorem over : Rows.fnExactRedoPageRow.holds Try.pinned (OpenSpec.ofChange Rows.fnExactRedoPageSpec) :=
  OpenClaim.holds_of_wide 6 Try.f6 rfl rfl rfl rfl rfl rfl rfl ⟨rfl, rfl, rfl, rfl, rfl⟩ rfl rfl rfl rfl rfl (by kernel_rfl) Try.func6 (by kernel_rfl)
    (of_decide_eq_true (by kernel_rfl)) (by unfold Func.isWrapper; first | (rw [if_pos (by decide +kernel)]; kernel_rfl) | (rw [if_neg (by decide +kernel)]; exact ⟨rfl, rfl⟩))
    (fun os started H enc _ => lifted os started H enc)
end Go.Proofs.Ytcnaabjgjmodeaa.fnExactRedoPage
namespace Go.Proofs.Ytcnaabjgjmodeaa
theorem redoPage_proved : Rows.FnExactRedoPageSaid := fnExactRedoPage.over
#print axioms redoPage_proved
end Go.Proofs.Ytcnaabjgjmodeaa
