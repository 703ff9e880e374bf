import Derived.Test.YtcnaabjgjmodeaaG18
import Derived.Test.YtcnaabjgjmodeaaG00
import Derived.Test.YtcnaabjgjmodeaaG15
import Derived.Deep.DeepCutAuto
namespace Go.Proofs.Ytcnaabjgjmodeaa
open Go.RowKit
set_option linter.unusedVariables false
set_option maxRecDepth 100000 in
set_option maxHeartbeats 16000000 in
theorem lastImage_law (v0 : Value) (fs0 : List StLogFrame) (s1 : Int) (w : World) (hv0 : RdFr w v0 fs0) (hB0 : ∀ p ∈ fs0, p.isB) :
    Calls Try.prog 5 #[v0, .int .i64 s1] w fun e w' => e = .returned (.bool true) ∧ Same w w' := by
  obtain ⟨a0a, c0a, rfl⟩ := hv0.form
  have hm0 := hv0.row.max
  unfold maxLen at hm0
  have HB0 := (show Hid (∀ p ∈ fs0, p.isB) from hB0)
  clear hB0
  have HV0 := (show Hid (RdFr w (.slice a0a fs0.length c0a) fs0) from hv0)
  clear hv0
  go_enter Try.func5, Try.ntmps5
  have HKw : Hid (Same w w) := Kept.refl _ _
  go_wp2_with fail
  refine (szLogFrameS_any _ fs0 1048576 _ (by omega) (by omega) (HV0.out.same HKw.out)).mono ?_
  rintro e w1 ⟨sz0, rfl, hr, hk⟩
  have hkk : Same w w1 := hk
  have hzw1 := hkk.size
  have HKw1 := (show Hid (Same w w1) from HKw.out.trans hkk)
  clear hkk hk
  rcases hr with rfl | ⟨hr, hr0⟩
  · go_wp2
    go_ret
    exact ⟨rfl, HKw1.out⟩
  have hz00 := sizeFr_nonneg fs0
  have hp0 : fs0.length ≤ 1048576 := by omega
  have hsz0 : sizeFr fs0 ≤ 1048576 := by omega
  have hsb0 : sz0 ≤ 1048576 := by omega
  have HS0 : Hid (∀ p ∈ fs0, p.szs ≤ 1048576) := fun p hp => by have := sizeFr_mem fs0 p hp; omega
  have HT0 : Hid (∀ qs : List StLogFrame, datFr qs = datFr fs0 → szsFr qs = szsFr fs0 → FrOK qs) := fun qs hq hqz => FrOK.of hq hqz HB0.out hp0 hsz0
  clear hr
  go_wp2_with fail
  refine (toLogFrameS_any _ fs0 _ (by omega) (fun p hp => Int.le_trans (HS0.out p hp) (by omega)) (HV0.out.same HKw1.out)).mono ?_
  rintro e w2 ⟨gC0, qsC0, rfl, hq, hqz, hf, ho, hk⟩
  have HQC0 : Hid (datFr qsC0 = datFr fs0) := hq
  have HQZC0 : Hid (szsFr qsC0 = szsFr fs0) := hqz
  clear hqz
  have HFC0 := (show Hid (∀ b, footFr (.slice (some ⟨gC0, 0, none⟩) fs0.length fs0.length) qsC0 b → w1.heap.size ≤ b ∧ b < w2.heap.size) from fun b hb => ⟨hf b hb, ho.lt b hb⟩)
  have HC0w2 := (show Hid (OwnFr w2 (.slice (some ⟨gC0, 0, none⟩) fs0.length fs0.length) qsC0) from ho)
  clear hf ho hq
  have hkk : Same w1 w2 := hk
  have hzw2 := hkk.size
  have HKw2 := (show Hid (Same w w2) from HKw1.out.trans hkk)
  clear hkk hk
  go_wp2_with fail
  refine (specLastL_any _ qsC0 s1 _ (HT0.out qsC0 HQC0.out HQZC0.out) (HC0w2.out.rd)).mono ?_
  rintro e w3 ⟨⟨Wcode, ⟨Wpage_e, Wpage_a, Wpage_c, Wpage_b⟩⟩, rfl, hd, hf, ho, hk⟩
  rw [HQC0.out] at hd
  have hnW : StPageResult.size ⟨Wcode, ⟨Wpage_e, Wpage_a, Wpage_c, Wpage_b⟩⟩ ≤ 1099511627776 := lastDd_small HS0.out hd
  have hnW0 := StPageResult.size_le ⟨Wcode, ⟨Wpage_e, Wpage_a, Wpage_c, Wpage_b⟩⟩
  have HDW := (show Hid (StPageResult.dat ⟨Wcode, ⟨Wpage_e, Wpage_a, Wpage_c, Wpage_b⟩⟩ = lastDd (datFr fs0) s1) from hd)
  dsimp only [StPageResult.val, BS.v]
  have HFW := (show Hid (∀ b, FootL (StPageResult.rows ⟨Wcode, ⟨Wpage_e, Wpage_a, Wpage_c, Wpage_b⟩⟩) b → w2.heap.size ≤ b ∧ b < w3.heap.size) from fun b hb => ⟨hf b hb, ho.lt b hb⟩)
  have HWw3 := (show Hid (OwnL w3 (StPageResult.rows ⟨Wcode, ⟨Wpage_e, Wpage_a, Wpage_c, Wpage_b⟩⟩)) from ho)
  clear hd hf ho
  have hkk : Same w2 w3 := hk
  have hzw3 := hkk.size
  have HC0w3 := (show Hid (OwnFr w3 (.slice (some ⟨gC0, 0, none⟩) fs0.length fs0.length) qsC0) from HC0w2.out.same hkk)
  have HKw3 := (show Hid (Same w w3) from HKw2.out.trans hkk)
  clear hkk hk
  go_wp2_with fail
  refine (toLogFrameS_any _ fs0 _ (by omega) (fun p hp => Int.le_trans (HS0.out p hp) (by omega)) (HV0.out.same (HKw3.out.alloc _))).mono ?_
  rintro e w4 ⟨gX0, qsX0, rfl, hq, hqz, hf, ho, hk⟩
  have HQX0 : Hid (datFr qsX0 = datFr fs0) := hq
  have HQZX0 : Hid (szsFr qsX0 = szsFr fs0) := hqz
  clear hqz
  simp only [World.size_alloc] at hf
  have HFX0 := (show Hid (∀ b, footFr (.slice (some ⟨gX0, 0, none⟩) fs0.length fs0.length) qsX0 b → w3.heap.size < b ∧ b < w4.heap.size) from fun b hb => ⟨by have := hf b hb; omega, ho.lt b hb⟩)
  have HX0w4 := (show Hid (OwnFr w4 (.slice (some ⟨gX0, 0, none⟩) fs0.length fs0.length) qsX0) from ho)
  clear hf ho hq
  have hkk : Same w3 w4 := ((Kept.refl _ _).alloc _).trans hk
  have hzw4 := hk.size
  rw [World.size_alloc] at hzw4
  have HWw4 := (show Hid (OwnL w4 (StPageResult.rows ⟨Wcode, ⟨Wpage_e, Wpage_a, Wpage_c, Wpage_b⟩⟩)) from HWw3.out.same hkk)
  have HZw4 := (show Hid (Blk w4 (w3.heap.size) 28 [.int .i64 Wcode, .slice Wpage_a Wpage_b.length Wpage_c]) from (Blk.new w3 #[.int .i64 Wcode, .slice Wpage_a Wpage_b.length Wpage_c] 28).same hk)
  have HKw4 := (show Hid (Same w w4) from HKw3.out.trans hkk)
  clear hkk hk
  have cZ_0 : w4.cell? ⟨w3.heap.size, 0, none⟩ = some (.int .i64 Wcode) := HZw4.out.cell 0
  have cZ_1 : w4.cell? ⟨w3.heap.size, 1, none⟩ = some (.slice Wpage_a Wpage_b.length Wpage_c) := HZw4.out.cell 1
  have lZ := HZw4.out.lt
  go_wp2_with fail
  refine (implLastL_any _ qsX0 s1 _ (HT0.out qsX0 HQX0.out HQZX0.out) (HX0w4.out.rd)).mono ?_
  rintro e w5 ⟨⟨Gcode, ⟨Gpage_e, Gpage_a, Gpage_c, Gpage_b⟩⟩, rfl, hd, hf, ho, hk⟩
  rw [HQX0.out] at hd
  have hnG : StPageResult.size ⟨Gcode, ⟨Gpage_e, Gpage_a, Gpage_c, Gpage_b⟩⟩ ≤ 1099511627776 := lastDd_small HS0.out hd
  have hnG0 := StPageResult.size_le ⟨Gcode, ⟨Gpage_e, Gpage_a, Gpage_c, Gpage_b⟩⟩
  have HDG := (show Hid (StPageResult.dat ⟨Gcode, ⟨Gpage_e, Gpage_a, Gpage_c, Gpage_b⟩⟩ = lastDd (datFr fs0) s1) from hd)
  dsimp only [StPageResult.val, BS.v]
  have HFG := (show Hid (∀ b, FootL (StPageResult.rows ⟨Gcode, ⟨Gpage_e, Gpage_a, Gpage_c, Gpage_b⟩⟩) b → w4.heap.size ≤ b ∧ b < w5.heap.size) from fun b hb => ⟨hf b hb, ho.lt b hb⟩)
  have HGw5 := (show Hid (OwnL w5 (StPageResult.rows ⟨Gcode, ⟨Gpage_e, Gpage_a, Gpage_c, Gpage_b⟩⟩)) from ho)
  clear hd hf ho
  have hkk : Same w4 w5 := hk
  have hzw5 := hkk.size
  have HWw5 := (show Hid (OwnL w5 (StPageResult.rows ⟨Wcode, ⟨Wpage_e, Wpage_a, Wpage_c, Wpage_b⟩⟩)) from HWw4.out.same hkk)
  have HZw5 := (show Hid (Blk w5 (w3.heap.size) 28 [.int .i64 Wcode, .slice Wpage_a Wpage_b.length Wpage_c]) from HZw4.out.same hkk)
  have HX0w5 := (show Hid (OwnFr w5 (.slice (some ⟨gX0, 0, none⟩) fs0.length fs0.length) qsX0) from HX0w4.out.same hkk)
  have HKw5 := (show Hid (Same w w5) from HKw4.out.trans hkk)
  clear hkk hk
  clear cZ_0 cZ_1 lZ
  have cZ_0 : w5.cell? ⟨w3.heap.size, 0, none⟩ = some (.int .i64 Wcode) := HZw5.out.cell 0
  have cZ_1 : w5.cell? ⟨w3.heap.size, 1, none⟩ = some (.slice Wpage_a Wpage_b.length Wpage_c) := HZw5.out.cell 1
  have lZ := HZw5.out.lt
  go_wp2_with fail
  refine (eqPageResult_own ⟨Gcode, ⟨Gpage_e, Gpage_a, Gpage_c, Gpage_b⟩⟩ ⟨Wcode, ⟨Wpage_e, Wpage_a, Wpage_c, Wpage_b⟩⟩ _ (by omega) (HDG.out.trans HDW.out.symm) (HGw5.out.same ((Kept.refl _ _).alloc _)) (HWw5.out.same ((Kept.refl _ _).alloc _))).mono ?_
  rintro e w6 ⟨rfl, hk⟩
  have hkk : Same w5 w6 := ((Kept.refl _ _).alloc _).trans hk
  have hzw6 := hk.size
  rw [World.size_alloc] at hzw6
  have HWw6 := (show Hid (OwnL w6 (StPageResult.rows ⟨Wcode, ⟨Wpage_e, Wpage_a, Wpage_c, Wpage_b⟩⟩)) from HWw5.out.same hkk)
  have HZw6 := (show Hid (Blk w6 (w3.heap.size) 28 [.int .i64 Wcode, .slice Wpage_a Wpage_b.length Wpage_c]) from HZw5.out.same hkk)
  have HX0w6 := (show Hid (OwnFr w6 (.slice (some ⟨gX0, 0, none⟩) fs0.length fs0.length) qsX0) from HX0w5.out.same hkk)
  have HGw6 := (show Hid (OwnL w6 (StPageResult.rows ⟨Gcode, ⟨Gpage_e, Gpage_a, Gpage_c, Gpage_b⟩⟩)) from HGw5.out.same hkk)
  have HYw6 := (show Hid (Blk w6 (w5.heap.size) 28 [.int .i64 Gcode, .slice Gpage_a Gpage_b.length Gpage_c]) from (Blk.new w5 #[.int .i64 Gcode, .slice Gpage_a Gpage_b.length Gpage_c] 28).same hk)
  have HKw6 := (show Hid (Same w w6) from HKw5.out.trans hkk)
  clear hkk hk
  clear cZ_0 cZ_1 lZ
  have cZ_0 : w6.cell? ⟨w3.heap.size, 0, none⟩ = some (.int .i64 Wcode) := HZw6.out.cell 0
  have cZ_1 : w6.cell? ⟨w3.heap.size, 1, none⟩ = some (.slice Wpage_a Wpage_b.length Wpage_c) := HZw6.out.cell 1
  have lZ := HZw6.out.lt
  have cY_0 : w6.cell? ⟨w5.heap.size, 0, none⟩ = some (.int .i64 Gcode) := HYw6.out.cell 0
  have cY_1 : w6.cell? ⟨w5.heap.size, 1, none⟩ = some (.slice Gpage_a Gpage_b.length Gpage_c) := HYw6.out.cell 1
  have lY := HYw6.out.lt
  go_wp2_with fail
  refine (toLogFrameS_any _ fs0 _ (by omega) (fun p hp => Int.le_trans (HS0.out p hp) (by omega)) (HV0.out.same HKw6.out)).mono ?_
  rintro e w7 ⟨gD0, qsD0, rfl, hq, hqz, hf, ho, hk⟩
  have HQD0 : Hid (datFr qsD0 = datFr fs0) := hq
  have HQZD0 : Hid (szsFr qsD0 = szsFr fs0) := hqz
  clear hqz
  have HFD0 := (show Hid (∀ b, footFr (.slice (some ⟨gD0, 0, none⟩) fs0.length fs0.length) qsD0 b → w6.heap.size ≤ b ∧ b < w7.heap.size) from fun b hb => ⟨hf b hb, ho.lt b hb⟩)
  have HD0w7 := (show Hid (OwnFr w7 (.slice (some ⟨gD0, 0, none⟩) fs0.length fs0.length) qsD0) from ho)
  clear hf ho hq
  have hkk : Same w6 w7 := hk
  have hzw7 := hkk.size
  have HWw7 := (show Hid (OwnL w7 (StPageResult.rows ⟨Wcode, ⟨Wpage_e, Wpage_a, Wpage_c, Wpage_b⟩⟩)) from HWw6.out.same hkk)
  have HZw7 := (show Hid (Blk w7 (w3.heap.size) 28 [.int .i64 Wcode, .slice Wpage_a Wpage_b.length Wpage_c]) from HZw6.out.same hkk)
  have HX0w7 := (show Hid (OwnFr w7 (.slice (some ⟨gX0, 0, none⟩) fs0.length fs0.length) qsX0) from HX0w6.out.same hkk)
  have HGw7 := (show Hid (OwnL w7 (StPageResult.rows ⟨Gcode, ⟨Gpage_e, Gpage_a, Gpage_c, Gpage_b⟩⟩)) from HGw6.out.same hkk)
  have HYw7 := (show Hid (Blk w7 (w5.heap.size) 28 [.int .i64 Gcode, .slice Gpage_a Gpage_b.length Gpage_c]) from HYw6.out.same hkk)
  have HKw7 := (show Hid (Same w w7) from HKw6.out.trans hkk)
  clear hkk hk
  clear cZ_0 cZ_1 lZ cY_0 cY_1 lY
  have cZ_0 : w7.cell? ⟨w3.heap.size, 0, none⟩ = some (.int .i64 Wcode) := HZw7.out.cell 0
  have cZ_1 : w7.cell? ⟨w3.heap.size, 1, none⟩ = some (.slice Wpage_a Wpage_b.length Wpage_c) := HZw7.out.cell 1
  have lZ := HZw7.out.lt
  have cY_0 : w7.cell? ⟨w5.heap.size, 0, none⟩ = some (.int .i64 Gcode) := HYw7.out.cell 0
  have cY_1 : w7.cell? ⟨w5.heap.size, 1, none⟩ = some (.slice Gpage_a Gpage_b.length Gpage_c) := HYw7.out.cell 1
  have lY := HYw7.out.lt
  go_wp2_with fail
  refine (eqLogFrameS_own _ _ qsX0 qsD0 _ (Nat.le_trans (HT0.out qsX0 HQX0.out HQZX0.out).len (by omega)) (HQX0.out.trans HQD0.out.symm) (fun p hp => by have h1 := StLogFrame.size_rd (HX0w7.out.rd.data p hp); have h2 := (HT0.out qsX0 HQX0.out HQZX0.out).each p hp; omega) HX0w7.out HD0w7.out).mono ?_
  rintro e w8 ⟨rfl, hk⟩
  have hkk : Same w7 w8 := hk
  have hzw8 := hkk.size
  have HWw8 := (show Hid (OwnL w8 (StPageResult.rows ⟨Wcode, ⟨Wpage_e, Wpage_a, Wpage_c, Wpage_b⟩⟩)) from HWw7.out.same hkk)
  have HZw8 := (show Hid (Blk w8 (w3.heap.size) 28 [.int .i64 Wcode, .slice Wpage_a Wpage_b.length Wpage_c]) from HZw7.out.same hkk)
  have HX0w8 := (show Hid (OwnFr w8 (.slice (some ⟨gX0, 0, none⟩) fs0.length fs0.length) qsX0) from HX0w7.out.same hkk)
  have HGw8 := (show Hid (OwnL w8 (StPageResult.rows ⟨Gcode, ⟨Gpage_e, Gpage_a, Gpage_c, Gpage_b⟩⟩)) from HGw7.out.same hkk)
  have HYw8 := (show Hid (Blk w8 (w5.heap.size) 28 [.int .i64 Gcode, .slice Gpage_a Gpage_b.length Gpage_c]) from HYw7.out.same hkk)
  have HKw8 := (show Hid (Same w w8) from HKw7.out.trans hkk)
  clear hkk hk
  clear cZ_0 cZ_1 lZ cY_0 cY_1 lY
  have hE0 : (0 : Int) ≤ 1 := by omega
  have hE0b : (1 : Int) ≤ 1 := by omega
  have hqxX0 := HT0.out qsX0 HQX0.out HQZX0.out
  have hm1X0 := mzFr_rd HX0w8.out.rd.data
  have hm2X0 := mzFr_nonneg qsX0
  have hm3X0 := hqxX0.len
  have hm4X0 := hqxX0.sum
  obtain ⟨E1, hE⟩ : ∃ E, 1 + mzFr qsX0 = E := ⟨_, rfl⟩
  have hE1 : 0 ≤ E1 := by omega
  have hE1b : E1 ≤ 17000001 := by omega
  have HE1 : Hid (1 + mzFr qsX0 = E1) := hE
  clear hE hqxX0 hm1X0 hm2X0 hm4X0
  have cZ_0 : w8.cell? ⟨w3.heap.size, 0, none⟩ = some (.int .i64 Wcode) := HZw8.out.cell 0
  have cZ_1 : w8.cell? ⟨w3.heap.size, 1, none⟩ = some (.slice Wpage_a Wpage_b.length Wpage_c) := HZw8.out.cell 1
  have lZ := HZw8.out.lt
  have cY_0 : w8.cell? ⟨w5.heap.size, 0, none⟩ = some (.int .i64 Gcode) := HYw8.out.cell 0
  have cY_1 : w8.cell? ⟨w5.heap.size, 1, none⟩ = some (.slice Gpage_a Gpage_b.length Gpage_c) := HYw8.out.cell 1
  have lY := HYw8.out.lt
  go_wp2_with fail
  have hm := markLogFrameS_own (.slice (some ⟨gX0, 0, none⟩) fs0.length fs0.length) qsX0 1 w8 (by omega) (by rw [HE1.out]; omega) (by omega) HX0w8.out
  rw [HE1.out] at hm
  refine hm.mono ?_
  clear hm
  rintro e w9 ⟨rfl, _, hk⟩
  have hzw9 := hk.size
  have HWw9 := (show Hid (OwnL w9 (StPageResult.rows ⟨Wcode, ⟨Wpage_e, Wpage_a, Wpage_c, Wpage_b⟩⟩)) from HWw8.out.kept hk (fun b hb e => by have h1 := HFX0.out _ e; have h2 := HFW.out b hb; omega))
  have HZw9 := (show Hid (Blk w9 (w3.heap.size) 28 [.int .i64 Wcode, .slice Wpage_a Wpage_b.length Wpage_c]) from HZw8.out.kept hk (fun e => by have h1 := HFX0.out _ e; omega))
  have HGw9 := (show Hid (OwnL w9 (StPageResult.rows ⟨Gcode, ⟨Gpage_e, Gpage_a, Gpage_c, Gpage_b⟩⟩)) from HGw8.out.kept hk (fun b hb e => by have h1 := HFX0.out _ e; have h2 := HFG.out b hb; omega))
  have HYw9 := (show Hid (Blk w9 (w5.heap.size) 28 [.int .i64 Gcode, .slice Gpage_a Gpage_b.length Gpage_c]) from HYw8.out.kept hk (fun e => by have h1 := HFX0.out _ e; omega))
  have HKw9 := (show Hid (Same w w9) from HKw8.out.next hk (fun b hb e => by have h1 := HFX0.out _ e; omega))
  clear cZ_0 cZ_1 lZ cY_0 cY_1 lY
  clear hk
  have hEn : ¬ E1 < 0 := by omega
  have cZ_0 : w9.cell? ⟨w3.heap.size, 0, none⟩ = some (.int .i64 Wcode) := HZw9.out.cell 0
  have cZ_1 : w9.cell? ⟨w3.heap.size, 1, none⟩ = some (.slice Wpage_a Wpage_b.length Wpage_c) := HZw9.out.cell 1
  have lZ := HZw9.out.lt
  have cY_0 : w9.cell? ⟨w5.heap.size, 0, none⟩ = some (.int .i64 Gcode) := HYw9.out.cell 0
  have cY_1 : w9.cell? ⟨w5.heap.size, 1, none⟩ = some (.slice Gpage_a Gpage_b.length Gpage_c) := HYw9.out.cell 1
  have lY := HYw9.out.lt
  go_wp2_with fail
  refine (eqPageResult_own ⟨Gcode, ⟨Gpage_e, Gpage_a, Gpage_c, Gpage_b⟩⟩ ⟨Wcode, ⟨Wpage_e, Wpage_a, Wpage_c, Wpage_b⟩⟩ _ (by omega) (HDG.out.trans HDW.out.symm) HGw9.out HWw9.out).mono ?_
  rintro e w10 ⟨rfl, hk⟩
  have hkk : Same w9 w10 := hk
  have hzw10 := hkk.size
  have HWw10 := (show Hid (OwnL w10 (StPageResult.rows ⟨Wcode, ⟨Wpage_e, Wpage_a, Wpage_c, Wpage_b⟩⟩)) from HWw9.out.same hkk)
  have HZw10 := (show Hid (Blk w10 (w3.heap.size) 28 [.int .i64 Wcode, .slice Wpage_a Wpage_b.length Wpage_c]) from HZw9.out.same hkk)
  have HGw10 := (show Hid (OwnL w10 (StPageResult.rows ⟨Gcode, ⟨Gpage_e, Gpage_a, Gpage_c, Gpage_b⟩⟩)) from HGw9.out.same hkk)
  have HYw10 := (show Hid (Blk w10 (w5.heap.size) 28 [.int .i64 Gcode, .slice Gpage_a Gpage_b.length Gpage_c]) from HYw9.out.same hkk)
  have HKw10 := (show Hid (Same w w10) from HKw9.out.trans hkk)
  clear hkk hk
  clear cZ_0 cZ_1 lZ cY_0 cY_1 lY
  have hM2 : ¬ (1 + StPageResult.size ⟨Gcode, ⟨Gpage_e, Gpage_a, Gpage_c, Gpage_b⟩⟩) < 0 := by omega
  obtain ⟨M, hM⟩ : ∃ M, 1 + StPageResult.size ⟨Gcode, ⟨Gpage_e, Gpage_a, Gpage_c, Gpage_b⟩⟩ = M := ⟨_, rfl⟩
  have HM := (show Hid (1 + StPageResult.size ⟨Gcode, ⟨Gpage_e, Gpage_a, Gpage_c, Gpage_b⟩⟩ = M) from hM)
  have hM3 : 0 ≤ M ∧ M ≤ 1125899906842624 := by omega
  rw [hM] at hM2
  clear hM
  have cZ_0 : w10.cell? ⟨w3.heap.size, 0, none⟩ = some (.int .i64 Wcode) := HZw10.out.cell 0
  have cZ_1 : w10.cell? ⟨w3.heap.size, 1, none⟩ = some (.slice Wpage_a Wpage_b.length Wpage_c) := HZw10.out.cell 1
  have lZ := HZw10.out.lt
  have cY_0 : w10.cell? ⟨w5.heap.size, 0, none⟩ = some (.int .i64 Gcode) := HYw10.out.cell 0
  have cY_1 : w10.cell? ⟨w5.heap.size, 1, none⟩ = some (.slice Gpage_a Gpage_b.length Gpage_c) := HYw10.out.cell 1
  have lY := HYw10.out.lt
  go_wp2_with fail
  have hm := markPageResult_own ⟨Gcode, ⟨Gpage_e, Gpage_a, Gpage_c, Gpage_b⟩⟩ 1 w10 (by omega) (by rw [HM.out]; omega) HGw10.out
  rw [HM.out] at hm
  dsimp only [StPageResult.val, BS.v] at hm
  refine hm.mono ?_
  clear hm
  rintro e w11 ⟨rfl, ho, hk⟩
  have hzw11 := hk.size
  have HWw11 := (show Hid (OwnL w11 (StPageResult.rows ⟨Wcode, ⟨Wpage_e, Wpage_a, Wpage_c, Wpage_b⟩⟩)) from HWw10.out.kept hk (fun b hb e => by have h1 := HFG.out _ e; have h2 := HFW.out b hb; omega))
  have HZw11 := (show Hid (Blk w11 (w3.heap.size) 28 [.int .i64 Wcode, .slice Wpage_a Wpage_b.length Wpage_c]) from HZw10.out.kept hk (fun e => by have h1 := HFG.out _ e; omega))
  have HYw11 := (show Hid (Blk w11 (w5.heap.size) 28 [.int .i64 Gcode, .slice Gpage_a Gpage_b.length Gpage_c]) from HYw10.out.kept hk (fun e => by have h1 := HFG.out _ e; omega))
  have HKw11 := (show Hid (Same w w11) from HKw10.out.next hk (fun b hb e => by have h1 := HFG.out _ e; omega))
  have HUw11 := (show Hid (OwnL w11 (StPageResult.marked ⟨Gcode, ⟨Gpage_e, Gpage_a, Gpage_c, Gpage_b⟩⟩ 1).rows) from ho)
  clear cZ_0 cZ_1 lZ cY_0 cY_1 lY
  clear hk ho
  have HFU := (show Hid (∀ b, FootL (StPageResult.marked ⟨Gcode, ⟨Gpage_e, Gpage_a, Gpage_c, Gpage_b⟩⟩ 1).rows b → _ ∧ _) from fun b hb => HFG.out b ((StPageResult.foot_marked _ _ b).1 hb))
  have cZ_0 : w11.cell? ⟨w3.heap.size, 0, none⟩ = some (.int .i64 Wcode) := HZw11.out.cell 0
  have cZ_1 : w11.cell? ⟨w3.heap.size, 1, none⟩ = some (.slice Wpage_a Wpage_b.length Wpage_c) := HZw11.out.cell 1
  have lZ := HZw11.out.lt
  have cY_0 : w11.cell? ⟨w5.heap.size, 0, none⟩ = some (.int .i64 Gcode) := HYw11.out.cell 0
  have cY_1 : w11.cell? ⟨w5.heap.size, 1, none⟩ = some (.slice Gpage_a Gpage_b.length Gpage_c) := HYw11.out.cell 1
  have lY := HYw11.out.lt
  go_wp2_with fail
  have hm := heldPageResult_own ⟨Gcode, ⟨Gpage_e, Gpage_a, Gpage_c, Gpage_b⟩⟩ 1 w11 (by omega) (by rw [HM.out]; omega) HUw11.out
  rw [HM.out] at hm
  dsimp only [StPageResult.val, BS.v] at hm
  refine hm.mono ?_
  clear hm
  rintro e w12 ⟨rfl, hk⟩
  have hkk : Same w11 w12 := hk
  have hzw12 := hkk.size
  have HWw12 := (show Hid (OwnL w12 (StPageResult.rows ⟨Wcode, ⟨Wpage_e, Wpage_a, Wpage_c, Wpage_b⟩⟩)) from HWw11.out.same hkk)
  have HZw12 := (show Hid (Blk w12 (w3.heap.size) 28 [.int .i64 Wcode, .slice Wpage_a Wpage_b.length Wpage_c]) from HZw11.out.same hkk)
  have HYw12 := (show Hid (Blk w12 (w5.heap.size) 28 [.int .i64 Gcode, .slice Gpage_a Gpage_b.length Gpage_c]) from HYw11.out.same hkk)
  have HUw12 := (show Hid (OwnL w12 (StPageResult.marked ⟨Gcode, ⟨Gpage_e, Gpage_a, Gpage_c, Gpage_b⟩⟩ 1).rows) from HUw11.out.same hkk)
  have HKw12 := (show Hid (Same w w12) from HKw11.out.trans hkk)
  clear hkk hk
  clear cZ_0 cZ_1 lZ cY_0 cY_1 lY
  have cZ_0 : w12.cell? ⟨w3.heap.size, 0, none⟩ = some (.int .i64 Wcode) := HZw12.out.cell 0
  have cZ_1 : w12.cell? ⟨w3.heap.size, 1, none⟩ = some (.slice Wpage_a Wpage_b.length Wpage_c) := HZw12.out.cell 1
  have lZ := HZw12.out.lt
  have cY_0 : w12.cell? ⟨w5.heap.size, 0, none⟩ = some (.int .i64 Gcode) := HYw12.out.cell 0
  have cY_1 : w12.cell? ⟨w5.heap.size, 1, none⟩ = some (.slice Gpage_a Gpage_b.length Gpage_c) := HYw12.out.cell 1
  have lY := HYw12.out.lt
  go_wp2_with fail
  refine (toLogFrameS_any _ fs0 _ (by omega) (fun p hp => Int.le_trans (HS0.out p hp) (by omega)) (HV0.out.same HKw12.out)).mono ?_
  rintro e w13 ⟨gJ0, qsJ0, rfl, hq, hqz, hf, ho, hk⟩
  have HQJ0 : Hid (datFr qsJ0 = datFr fs0) := hq
  have HQZJ0 : Hid (szsFr qsJ0 = szsFr fs0) := hqz
  clear hqz
  have HFJ0 := (show Hid (∀ b, footFr (.slice (some ⟨gJ0, 0, none⟩) fs0.length fs0.length) qsJ0 b → w12.heap.size ≤ b ∧ b < w13.heap.size) from fun b hb => ⟨hf b hb, ho.lt b hb⟩)
  have HJ0w13 := (show Hid (OwnFr w13 (.slice (some ⟨gJ0, 0, none⟩) fs0.length fs0.length) qsJ0) from ho)
  clear hf ho hq
  have hkk : Same w12 w13 := hk
  have hzw13 := hkk.size
  have HWw13 := (show Hid (OwnL w13 (StPageResult.rows ⟨Wcode, ⟨Wpage_e, Wpage_a, Wpage_c, Wpage_b⟩⟩)) from HWw12.out.same hkk)
  have HZw13 := (show Hid (Blk w13 (w3.heap.size) 28 [.int .i64 Wcode, .slice Wpage_a Wpage_b.length Wpage_c]) from HZw12.out.same hkk)
  have HYw13 := (show Hid (Blk w13 (w5.heap.size) 28 [.int .i64 Gcode, .slice Gpage_a Gpage_b.length Gpage_c]) from HYw12.out.same hkk)
  have HUw13 := (show Hid (OwnL w13 (StPageResult.marked ⟨Gcode, ⟨Gpage_e, Gpage_a, Gpage_c, Gpage_b⟩⟩ 1).rows) from HUw12.out.same hkk)
  have HKw13 := (show Hid (Same w w13) from HKw12.out.trans hkk)
  clear hkk hk
  clear cZ_0 cZ_1 lZ cY_0 cY_1 lY
  have cZ_0 : w13.cell? ⟨w3.heap.size, 0, none⟩ = some (.int .i64 Wcode) := HZw13.out.cell 0
  have cZ_1 : w13.cell? ⟨w3.heap.size, 1, none⟩ = some (.slice Wpage_a Wpage_b.length Wpage_c) := HZw13.out.cell 1
  have lZ := HZw13.out.lt
  have cY_0 : w13.cell? ⟨w5.heap.size, 0, none⟩ = some (.int .i64 Gcode) := HYw13.out.cell 0
  have cY_1 : w13.cell? ⟨w5.heap.size, 1, none⟩ = some (.slice Gpage_a Gpage_b.length Gpage_c) := HYw13.out.cell 1
  have lY := HYw13.out.lt
  go_wp2_with fail
  refine (implLastL_any _ qsJ0 s1 _ (HT0.out qsJ0 HQJ0.out HQZJ0.out) (HJ0w13.out.rd)).mono ?_
  rintro e w14 ⟨⟨Lcode, ⟨Lpage_e, Lpage_a, Lpage_c, Lpage_b⟩⟩, rfl, hd, hf, ho, hk⟩
  rw [HQJ0.out] at hd
  have hnL : StPageResult.size ⟨Lcode, ⟨Lpage_e, Lpage_a, Lpage_c, Lpage_b⟩⟩ ≤ 1099511627776 := lastDd_small HS0.out hd
  have hnL0 := StPageResult.size_le ⟨Lcode, ⟨Lpage_e, Lpage_a, Lpage_c, Lpage_b⟩⟩
  have HDL := (show Hid (StPageResult.dat ⟨Lcode, ⟨Lpage_e, Lpage_a, Lpage_c, Lpage_b⟩⟩ = lastDd (datFr fs0) s1) from hd)
  dsimp only [StPageResult.val, BS.v]
  have HFL := (show Hid (∀ b, FootL (StPageResult.rows ⟨Lcode, ⟨Lpage_e, Lpage_a, Lpage_c, Lpage_b⟩⟩) b → w13.heap.size ≤ b ∧ b < w14.heap.size) from fun b hb => ⟨hf b hb, ho.lt b hb⟩)
  have HLw14 := (show Hid (OwnL w14 (StPageResult.rows ⟨Lcode, ⟨Lpage_e, Lpage_a, Lpage_c, Lpage_b⟩⟩)) from ho)
  clear hd hf ho
  have hkk : Same w13 w14 := hk
  have hzw14 := hkk.size
  have HWw14 := (show Hid (OwnL w14 (StPageResult.rows ⟨Wcode, ⟨Wpage_e, Wpage_a, Wpage_c, Wpage_b⟩⟩)) from HWw13.out.same hkk)
  have HZw14 := (show Hid (Blk w14 (w3.heap.size) 28 [.int .i64 Wcode, .slice Wpage_a Wpage_b.length Wpage_c]) from HZw13.out.same hkk)
  have HYw14 := (show Hid (Blk w14 (w5.heap.size) 28 [.int .i64 Gcode, .slice Gpage_a Gpage_b.length Gpage_c]) from HYw13.out.same hkk)
  have HUw14 := (show Hid (OwnL w14 (StPageResult.marked ⟨Gcode, ⟨Gpage_e, Gpage_a, Gpage_c, Gpage_b⟩⟩ 1).rows) from HUw13.out.same hkk)
  have HJ0w14 := (show Hid (OwnFr w14 (.slice (some ⟨gJ0, 0, none⟩) fs0.length fs0.length) qsJ0) from HJ0w13.out.same hkk)
  have HKw14 := (show Hid (Same w w14) from HKw13.out.trans hkk)
  clear hkk hk
  clear cZ_0 cZ_1 lZ cY_0 cY_1 lY
  have cZ_0 : w14.cell? ⟨w3.heap.size, 0, none⟩ = some (.int .i64 Wcode) := HZw14.out.cell 0
  have cZ_1 : w14.cell? ⟨w3.heap.size, 1, none⟩ = some (.slice Wpage_a Wpage_b.length Wpage_c) := HZw14.out.cell 1
  have lZ := HZw14.out.lt
  have cY_0 : w14.cell? ⟨w5.heap.size, 0, none⟩ = some (.int .i64 Gcode) := HYw14.out.cell 0
  have cY_1 : w14.cell? ⟨w5.heap.size, 1, none⟩ = some (.slice Gpage_a Gpage_b.length Gpage_c) := HYw14.out.cell 1
  have lY := HYw14.out.lt
  go_wp2_with fail
  refine (eqPageResult_own ⟨Lcode, ⟨Lpage_e, Lpage_a, Lpage_c, Lpage_b⟩⟩ ⟨Wcode, ⟨Wpage_e, Wpage_a, Wpage_c, Wpage_b⟩⟩ _ (by omega) (HDL.out.trans HDW.out.symm) (HLw14.out.same ((Kept.refl _ _).alloc _)) (HWw14.out.same ((Kept.refl _ _).alloc _))).mono ?_
  rintro e w15 ⟨rfl, hk⟩
  have hkk : Same w14 w15 := ((Kept.refl _ _).alloc _).trans hk
  have hzw15 := hk.size
  rw [World.size_alloc] at hzw15
  have HWw15 := (show Hid (OwnL w15 (StPageResult.rows ⟨Wcode, ⟨Wpage_e, Wpage_a, Wpage_c, Wpage_b⟩⟩)) from HWw14.out.same hkk)
  have HZw15 := (show Hid (Blk w15 (w3.heap.size) 28 [.int .i64 Wcode, .slice Wpage_a Wpage_b.length Wpage_c]) from HZw14.out.same hkk)
  have HYw15 := (show Hid (Blk w15 (w5.heap.size) 28 [.int .i64 Gcode, .slice Gpage_a Gpage_b.length Gpage_c]) from HYw14.out.same hkk)
  have HUw15 := (show Hid (OwnL w15 (StPageResult.marked ⟨Gcode, ⟨Gpage_e, Gpage_a, Gpage_c, Gpage_b⟩⟩ 1).rows) from HUw14.out.same hkk)
  have HLw15 := (show Hid (OwnL w15 (StPageResult.rows ⟨Lcode, ⟨Lpage_e, Lpage_a, Lpage_c, Lpage_b⟩⟩)) from HLw14.out.same hkk)
  have HVw15 := (show Hid (Blk w15 (w14.heap.size) 28 [.int .i64 Lcode, .slice Lpage_a Lpage_b.length Lpage_c]) from (Blk.new w14 #[.int .i64 Lcode, .slice Lpage_a Lpage_b.length Lpage_c] 28).same hk)
  have HKw15 := (show Hid (Same w w15) from HKw14.out.trans hkk)
  clear hkk hk
  clear cZ_0 cZ_1 lZ cY_0 cY_1 lY
  have cY_0 : w15.cell? ⟨w5.heap.size, 0, none⟩ = some (.int .i64 Gcode) := HYw15.out.cell 0
  have cY_1 : w15.cell? ⟨w5.heap.size, 1, none⟩ = some (.slice Gpage_a Gpage_b.length Gpage_c) := HYw15.out.cell 1
  have lY := HYw15.out.lt
  go_wp2_with fail
  have hm := heldPageResult_own ⟨Gcode, ⟨Gpage_e, Gpage_a, Gpage_c, Gpage_b⟩⟩ 1 w15 (by omega) (by rw [HM.out]; omega) HUw15.out
  rw [HM.out] at hm
  dsimp only [StPageResult.val, BS.v] at hm
  refine hm.mono ?_
  clear hm
  rintro e w16 ⟨rfl, hk⟩
  have hkk : Same w15 w16 := hk
  have hzw16 := hkk.size
  have HYw16 := (show Hid (Blk w16 (w5.heap.size) 28 [.int .i64 Gcode, .slice Gpage_a Gpage_b.length Gpage_c]) from HYw15.out.same hkk)
  have HUw16 := (show Hid (OwnL w16 (StPageResult.marked ⟨Gcode, ⟨Gpage_e, Gpage_a, Gpage_c, Gpage_b⟩⟩ 1).rows) from HUw15.out.same hkk)
  have HKw16 := (show Hid (Same w w16) from HKw15.out.trans hkk)
  clear hkk hk
  clear cY_0 cY_1 lY
  go_wp2
  go_ret
  exact ⟨rfl, HKw16.out⟩
end Go.Proofs.Ytcnaabjgjmodeaa

namespace Go.Proofs.Ytcnaabjgjmodeaa.fnExactLastImage
open Go.ChangeShapes Go.WideShapes Go.ChangeAt Go.RowKit
set_option linter.unusedVariables false
theorem own : ownKnob Try.prog.godebug = none := by kernel_rfl
theorem laidOut : laidOutB Try.prog = true := by kernel_rfl
set_option maxRecDepth 100000 in
theorem lifted (os : Os) (started : os.Started) (H : Type) (enc : TypeId × Value → H) :
    ReturnsInHanded {} Try.checked os 5 .any (Rows.fnExactLastImageSpec.pre6 enc Try.prog Try.f5 Rows.fnExactLastImageRow.domain false) (Rows.fnExactLastImageSpec.post enc Try.prog Try.f5 false true false false) := by
  refine returnsInHanded_of_change (C := Try.checked) own started (by kernel_rfl) Try.func5
    (ChangeSpec.witness6 (enc := enc) (C := Try.checked) false ⟨#[], #[.slice none 0 0, .int .i64 0], []⟩ 8 (by kernel_rfl) (by kernel_rfl) (by kernel_rfl) (by kernel_rfl)) ?_
  intro W base args ds gs before hval0 hW hcnd _
  have hval : ∀ (j : Nat) t v, Try.f5.params[j]? = some t → args[j]? = some v → Value.okWide Try.prog W .any base t v := hval0
  have hW' := hW
  obtain ⟨p, q, hA0, hV, rfl, hfz, hnd⟩ := hW
  have hA : DataW.TrodAll enc Try.prog W 0 (fun _ => true) true Try.f5.params.toList args.toList ds p := hA0
  rw [Try.params5] at hA hval
  obtain ⟨v0, vs0, d0, ds0, p0, q0, hargs, rfl, rfl, h0, r0⟩ := trodAll_cons hA
  obtain ⟨v1, vs1, d1, ds1, p1, q1, rfl, rfl, rfl, h1, r1⟩ := trodAll_cons r0
  obtain ⟨rfl, rfl, rfl⟩ := trodAll_nil r1
  obtain rfl : args = #[v0, v1] := by cases args; simp_all
  obtain ⟨rfl, rfl⟩ := trodVars_none hV
  have k0 := h0
  have lt0 : ∀ x ∈ p0, x.block < W.heap.size := by obtain ⟨m, hm⟩ := k0; exact DataW.trod_lt m _ _ _ hm
  obtain ⟨fs0, rd0, bd0⟩ := open_frames (hval 0 45 v0 rfl rfl) h0
  obtain ⟨a1, rfl, rfl, rfl, w1⟩ := open_int Try.underlying2 (hval 1 2 v1 rfl rfl) h1
  clear hA0 hval0
  refine (lastImage_law v0 fs0 a1 W rd0 bd0).mono fun e W' ⟨he, hk⟩ => ?_
  have bel : Below W.heap.size W W' := hk.below (Nat.le_refl _) (fun _ _ => id)
  subst he
  exact ⟨_, rfl, _, _, _, [], _, [], hW', trodAll_mk1 (shut_bool Try.underlying4 _), (trodAll_cons_mk (Below.trod laidOut (by kernel_rfl) (of_decide_eq_true (by kernel_rfl)) k0 bel lt0) (trodAll_cons_mk (shut_int Try.underlying2 w1) trodAll_mk0)), rfl, bel.frame _, fun h => by cases h⟩
theorem over : Rows.fnExactLastImageRow.holds Try.pinned (OpenSpec.ofChange Rows.fnExactLastImageSpec) :=
  OpenClaim.holds_of_wide 5 Try.f5 rfl rfl rfl rfl rfl rfl rfl ⟨rfl, rfl, rfl, rfl, rfl⟩ rfl rfl rfl rfl rfl (by kernel_rfl) Try.func5 (by kernel_rfl)
    (of_decide_eq_true (by kernel_rfl)) (by unfold Func.isWrapper; first | (rw [if_pos (by decide +kernel)]; kernel_rfl) | (rw [if_neg (by decide +kernel)]; exact ⟨rfl, rfl⟩))
    (fun os started H enc _ => lifted os started H enc)
end Go.Proofs.Ytcnaabjgjmodeaa.fnExactLastImage
namespace Go.Proofs.Ytcnaabjgjmodeaa
theorem lastImage_proved : Rows.FnExactLastImageSaid := fnExactLastImage.over
#print axioms lastImage_proved
end Go.Proofs.Ytcnaabjgjmodeaa
