/-
  The law over LogLoad (by tools/lawgen.py).
-/
import Derived.Test.YtclmdpmelifplaaLogLoadC
import Derived.Deep.DeepCutAuto
namespace Go.Proofs.Ytclmdpmelifplaa
open Go.RowKit
set_option linter.unusedVariables false

set_option maxRecDepth 100000 in
set_option maxHeartbeats 16000000 in
theorem logLoad_law (dv0 pv0 : Value) (dur0 : List Int) (ps0 : List PW) (s1 : Int) (s2 : Int) (s3 : Int) (w : World) (hv0 : RdD w dv0 pv0 dur0 ps0) :
    Calls Try.prog 7 #[.agg #[dv0, pv0], .int .i64 s1, .int .i64 s2, .int .i64 s3] w fun e w' => e = .returned (.bool true) ∧ Same w w' := by
  obtain ⟨a0a, c0a, rfl⟩ := hv0.dur.form
  obtain ⟨a0b, c0b, rfl⟩ := hv0.pend.form
  have HV0 := (show Hid (RdD w (.slice a0a dur0.length c0a) (.slice a0b ps0.length c0b) dur0 ps0) from hv0)
  clear hv0
  go_enter Try.func7, Try.ntmps7
  have HKw : Hid (Same w w) := Kept.refl _ _
  go_wp2_with fail
  refine (szDisk_any _ _ dur0 ps0 _ _ (by omega) (by omega) (HV0.out.same ((Kept.refl _ _).alloc _))).mono ?_
  rintro e w1 ⟨sz0, rfl, hr, hk⟩
  have hkk : Same w w1 := ((Kept.refl _ _).alloc _).trans hk
  have hzw1 := hk.size
  rw [World.size_alloc] at hzw1
  have HA0w1 := (show Hid (Box w1 (w.heap.size) (.slice a0a dur0.length c0a) (.slice a0b ps0.length c0b)) from (Box.new _ _ _ _).same hk)
  have HKw1 := (show Hid (Same w w1) from HKw.out.trans hkk)
  clear hkk hk
  rcases hr with rfl | ⟨hr, hr0⟩
  · go_wp2
    go_ret
    exact ⟨rfl, HKw1.out⟩
  have hd0 : dur0.length ≤ 1048576 := by omega
  have hp0 : ps0.length ≤ 1048576 := by omega
  have hsz0 : sizeP ps0 ≤ 1048576 := by omega
  have HS0 : Hid (∀ p ∈ ps0, p.bs.length ≤ 1048576) := fun p hp => by have := sizeP_mem ps0 p hp; omega
  have HT0 : Hid (∀ qs : List PW, dataP qs = dataP ps0 → qs.length ≤ 1073741824 ∧ ∀ p ∈ qs, p.bs.length ≤ 1099511627776) := fun qs hq => ⟨by rw [← dataP_length, hq, dataP_length]; omega, fun p hp => by have := sizeP_mem qs p hp; rw [dataP_sizeP hq] at this; omega⟩
  clear hr
  obtain ⟨A01, A02⟩ := HA0w1.out
  have lA0 := HA0w1.out.lt
  go_wp2_with fail
  refine (toDisk_any _ _ dur0 ps0 _ (by omega) (by omega) (fun p hp => Nat.le_trans (HS0.out p hp) (by omega)) (HV0.out.same HKw1.out)).mono ?_
  rintro e w2 ⟨gC0, gC0', qsC0, rfl, hq, hf, ho, hk⟩
  have HQC0 : Hid (dataP qsC0 = dataP ps0) := hq
  have HFC0 := (show Hid (∀ b, footD (.slice (some ⟨gC0, 0, none⟩) dur0.length dur0.length) (.slice (some ⟨gC0', 0, none⟩) ps0.length ps0.length) qsC0 b → w1.heap.size ≤ b ∧ b < w2.heap.size) from fun b hb => ⟨hf b hb, (ho.lt b hb).2⟩)
  have HC0w2 := (show Hid (OwnD 0 74 5 w2 (.slice (some ⟨gC0, 0, none⟩) dur0.length dur0.length) (.slice (some ⟨gC0', 0, none⟩) ps0.length ps0.length) dur0 qsC0) from ho)
  clear hf ho hq
  have hkk : Same w1 w2 := hk
  have hzw2 := hkk.size
  have HA0w2 := (show Hid (Box w2 (w.heap.size) (.slice a0a dur0.length c0a) (.slice a0b ps0.length c0b)) from HA0w1.out.same hkk)
  have HKw2 := (show Hid (Same w w2) from HKw1.out.trans hkk)
  clear hkk hk
  clear A01 A02 lA0
  obtain ⟨A01, A02⟩ := HA0w2.out
  have lA0 := HA0w2.out.lt
  go_wp2_with fail
  refine (specLoad_any _ _ dur0 qsC0 s1 s2 s3 _ (by omega) (HT0.out qsC0 HQC0.out).1 (HT0.out qsC0 HQC0.out).2 (HC0w2.out.rd)).mono ?_
  rintro e w3 ⟨⟨Wsectors, Wepoch, Wstop, Wflushed, ⟨Wtail_e, Wtail_a, Wtail_c, Wtail_b⟩⟩, rfl, hd, hf, ho, hk⟩
  rw [HQC0.out] at hd
  have hnW : StLog.size ⟨Wsectors, Wepoch, Wstop, Wflushed, ⟨Wtail_e, Wtail_a, Wtail_c, Wtail_b⟩⟩ ≤ 1099511627776 := loadD_small hd
  have hnW0 := StLog.size_le ⟨Wsectors, Wepoch, Wstop, Wflushed, ⟨Wtail_e, Wtail_a, Wtail_c, Wtail_b⟩⟩
  have HDW := (show Hid (StLog.dat ⟨Wsectors, Wepoch, Wstop, Wflushed, ⟨Wtail_e, Wtail_a, Wtail_c, Wtail_b⟩⟩ = loadD dur0 (dataP ps0) s1 s2 s3) from hd)
  dsimp only [StLog.val, BS.v]
  have HFW := (show Hid (∀ b, FootL (StLog.rows ⟨Wsectors, Wepoch, Wstop, Wflushed, ⟨Wtail_e, Wtail_a, Wtail_c, Wtail_b⟩⟩) b → w2.heap.size ≤ b ∧ b < w3.heap.size) from fun b hb => ⟨hf b hb, ho.lt b hb⟩)
  have HWw3 := (show Hid (OwnL w3 (StLog.rows ⟨Wsectors, Wepoch, Wstop, Wflushed, ⟨Wtail_e, Wtail_a, Wtail_c, Wtail_b⟩⟩)) from ho)
  clear hd hf ho
  have hkk : Same w2 w3 := hk
  have hzw3 := hkk.size
  have HA0w3 := (show Hid (Box w3 (w.heap.size) (.slice a0a dur0.length c0a) (.slice a0b ps0.length c0b)) from HA0w2.out.same hkk)
  have HC0w3 := (show Hid (OwnD 0 74 5 w3 (.slice (some ⟨gC0, 0, none⟩) dur0.length dur0.length) (.slice (some ⟨gC0', 0, none⟩) ps0.length ps0.length) dur0 qsC0) from HC0w2.out.same hkk)
  have HKw3 := (show Hid (Same w w3) from HKw2.out.trans hkk)
  clear hkk hk
  clear A01 A02 lA0
  obtain ⟨A01, A02⟩ := HA0w3.out
  have lA0 := HA0w3.out.lt
  go_wp2_with fail
  refine (toDisk_any _ _ dur0 ps0 _ (by omega) (by omega) (fun p hp => Nat.le_trans (HS0.out p hp) (by omega)) (HV0.out.same (HKw3.out.alloc _))).mono ?_
  rintro e w4 ⟨gX0, gX0', qsX0, rfl, hq, hf, ho, hk⟩
  have HQX0 : Hid (dataP qsX0 = dataP ps0) := hq
  simp only [World.size_alloc] at hf
  have HFX0 := (show Hid (∀ b, footD (.slice (some ⟨gX0, 0, none⟩) dur0.length dur0.length) (.slice (some ⟨gX0', 0, none⟩) ps0.length ps0.length) qsX0 b → w3.heap.size < b ∧ b < w4.heap.size) from fun b hb => ⟨by have := hf b hb; omega, (ho.lt b hb).2⟩)
  have HX0w4 := (show Hid (OwnD 0 74 5 w4 (.slice (some ⟨gX0, 0, none⟩) dur0.length dur0.length) (.slice (some ⟨gX0', 0, none⟩) ps0.length ps0.length) dur0 qsX0) from ho)
  clear hf ho hq
  have hkk : Same w3 w4 := ((Kept.refl _ _).alloc _).trans hk
  have hzw4 := hk.size
  rw [World.size_alloc] at hzw4
  have HA0w4 := (show Hid (Box w4 (w.heap.size) (.slice a0a dur0.length c0a) (.slice a0b ps0.length c0b)) from HA0w3.out.same hkk)
  have HWw4 := (show Hid (OwnL w4 (StLog.rows ⟨Wsectors, Wepoch, Wstop, Wflushed, ⟨Wtail_e, Wtail_a, Wtail_c, Wtail_b⟩⟩)) from HWw3.out.same hkk)
  have HZw4 := (show Hid (Blk w4 (w3.heap.size) 29 [.int .i64 Wsectors, .int .i64 Wepoch, .int .i64 Wstop, .int .i64 Wflushed, .slice Wtail_a Wtail_b.length Wtail_c]) from (Blk.new w3 #[.int .i64 Wsectors, .int .i64 Wepoch, .int .i64 Wstop, .int .i64 Wflushed, .slice Wtail_a Wtail_b.length Wtail_c] 29).same hk)
  have HKw4 := (show Hid (Same w w4) from HKw3.out.trans hkk)
  clear hkk hk
  clear A01 A02 lA0
  obtain ⟨A01, A02⟩ := HA0w4.out
  have lA0 := HA0w4.out.lt
  have cZ_0 : w4.cell? ⟨w3.heap.size, 0, none⟩ = some (.int .i64 Wsectors) := HZw4.out.cell 0
  have cZ_1 : w4.cell? ⟨w3.heap.size, 1, none⟩ = some (.int .i64 Wepoch) := HZw4.out.cell 1
  have cZ_2 : w4.cell? ⟨w3.heap.size, 2, none⟩ = some (.int .i64 Wstop) := HZw4.out.cell 2
  have cZ_3 : w4.cell? ⟨w3.heap.size, 3, none⟩ = some (.int .i64 Wflushed) := HZw4.out.cell 3
  have cZ_4 : w4.cell? ⟨w3.heap.size, 4, none⟩ = some (.slice Wtail_a Wtail_b.length Wtail_c) := HZw4.out.cell 4
  have lZ := HZw4.out.lt
  go_wp2_with fail
  refine (implLoad_any _ _ dur0 qsX0 s1 s2 s3 _ (by omega) (HT0.out qsX0 HQX0.out).1 (HT0.out qsX0 HQX0.out).2 (HX0w4.out.rd.same ((Kept.refl _ _).alloc _))).mono ?_
  rintro e w5 ⟨⟨Gsectors, Gepoch, Gstop, Gflushed, ⟨Gtail_e, Gtail_a, Gtail_c, Gtail_b⟩⟩, rfl, hd, hf, ho, hk⟩
  rw [HQX0.out] at hd
  have hnG : StLog.size ⟨Gsectors, Gepoch, Gstop, Gflushed, ⟨Gtail_e, Gtail_a, Gtail_c, Gtail_b⟩⟩ ≤ 1099511627776 := loadD_small hd
  have hnG0 := StLog.size_le ⟨Gsectors, Gepoch, Gstop, Gflushed, ⟨Gtail_e, Gtail_a, Gtail_c, Gtail_b⟩⟩
  have HDG := (show Hid (StLog.dat ⟨Gsectors, Gepoch, Gstop, Gflushed, ⟨Gtail_e, Gtail_a, Gtail_c, Gtail_b⟩⟩ = loadD dur0 (dataP ps0) s1 s2 s3) from hd)
  dsimp only [StLog.val, BS.v]
  simp only [World.size_alloc] at hf
  have HFG := (show Hid (∀ b, FootL (StLog.rows ⟨Gsectors, Gepoch, Gstop, Gflushed, ⟨Gtail_e, Gtail_a, Gtail_c, Gtail_b⟩⟩) b → w4.heap.size < b ∧ b < w5.heap.size) from fun b hb => ⟨by have := hf b hb; omega, ho.lt b hb⟩)
  have HGw5 := (show Hid (OwnL w5 (StLog.rows ⟨Gsectors, Gepoch, Gstop, Gflushed, ⟨Gtail_e, Gtail_a, Gtail_c, Gtail_b⟩⟩)) from ho)
  clear hd hf ho
  have hkk : Same w4 w5 := ((Kept.refl _ _).alloc _).trans hk
  have hzw5 := hk.size
  rw [World.size_alloc] at hzw5
  have HA0w5 := (show Hid (Box w5 (w.heap.size) (.slice a0a dur0.length c0a) (.slice a0b ps0.length c0b)) from HA0w4.out.same hkk)
  have HWw5 := (show Hid (OwnL w5 (StLog.rows ⟨Wsectors, Wepoch, Wstop, Wflushed, ⟨Wtail_e, Wtail_a, Wtail_c, Wtail_b⟩⟩)) from HWw4.out.same hkk)
  have HZw5 := (show Hid (Blk w5 (w3.heap.size) 29 [.int .i64 Wsectors, .int .i64 Wepoch, .int .i64 Wstop, .int .i64 Wflushed, .slice Wtail_a Wtail_b.length Wtail_c]) from HZw4.out.same hkk)
  have HX0w5 := (show Hid (OwnD 0 74 5 w5 (.slice (some ⟨gX0, 0, none⟩) dur0.length dur0.length) (.slice (some ⟨gX0', 0, none⟩) ps0.length ps0.length) dur0 qsX0) from HX0w4.out.same hkk)
  have HT0w5 := (show Hid (Box w5 (w4.heap.size) (.slice (some ⟨gX0, 0, none⟩) dur0.length dur0.length) (.slice (some ⟨gX0', 0, none⟩) ps0.length ps0.length)) from (Box.new _ _ _ _).same hk)
  have HKw5 := (show Hid (Same w w5) from HKw4.out.trans hkk)
  clear hkk hk
  clear A01 A02 lA0
  clear cZ_0 cZ_1 cZ_2 cZ_3 cZ_4 lZ
  obtain ⟨A01, A02⟩ := HA0w5.out
  have lA0 := HA0w5.out.lt
  obtain ⟨T01, T02⟩ := HT0w5.out
  have lT0 := HT0w5.out.lt
  have cZ_0 : w5.cell? ⟨w3.heap.size, 0, none⟩ = some (.int .i64 Wsectors) := HZw5.out.cell 0
  have cZ_1 : w5.cell? ⟨w3.heap.size, 1, none⟩ = some (.int .i64 Wepoch) := HZw5.out.cell 1
  have cZ_2 : w5.cell? ⟨w3.heap.size, 2, none⟩ = some (.int .i64 Wstop) := HZw5.out.cell 2
  have cZ_3 : w5.cell? ⟨w3.heap.size, 3, none⟩ = some (.int .i64 Wflushed) := HZw5.out.cell 3
  have cZ_4 : w5.cell? ⟨w3.heap.size, 4, none⟩ = some (.slice Wtail_a Wtail_b.length Wtail_c) := HZw5.out.cell 4
  have lZ := HZw5.out.lt
  go_wp2_with fail
  refine (eqLog_own ⟨Gsectors, Gepoch, Gstop, Gflushed, ⟨Gtail_e, Gtail_a, Gtail_c, Gtail_b⟩⟩ ⟨Wsectors, Wepoch, Wstop, Wflushed, ⟨Wtail_e, Wtail_a, Wtail_c, Wtail_b⟩⟩ _ (by omega) (HDG.out.trans HDW.out.symm) (HGw5.out.same ((Kept.refl _ _).alloc _)) (HWw5.out.same ((Kept.refl _ _).alloc _))).mono ?_
  rintro e w6 ⟨rfl, hk⟩
  have hkk : Same w5 w6 := ((Kept.refl _ _).alloc _).trans hk
  have hzw6 := hk.size
  rw [World.size_alloc] at hzw6
  have HA0w6 := (show Hid (Box w6 (w.heap.size) (.slice a0a dur0.length c0a) (.slice a0b ps0.length c0b)) from HA0w5.out.same hkk)
  have HWw6 := (show Hid (OwnL w6 (StLog.rows ⟨Wsectors, Wepoch, Wstop, Wflushed, ⟨Wtail_e, Wtail_a, Wtail_c, Wtail_b⟩⟩)) from HWw5.out.same hkk)
  have HZw6 := (show Hid (Blk w6 (w3.heap.size) 29 [.int .i64 Wsectors, .int .i64 Wepoch, .int .i64 Wstop, .int .i64 Wflushed, .slice Wtail_a Wtail_b.length Wtail_c]) from HZw5.out.same hkk)
  have HX0w6 := (show Hid (OwnD 0 74 5 w6 (.slice (some ⟨gX0, 0, none⟩) dur0.length dur0.length) (.slice (some ⟨gX0', 0, none⟩) ps0.length ps0.length) dur0 qsX0) from HX0w5.out.same hkk)
  have HT0w6 := (show Hid (Box w6 (w4.heap.size) (.slice (some ⟨gX0, 0, none⟩) dur0.length dur0.length) (.slice (some ⟨gX0', 0, none⟩) ps0.length ps0.length)) from HT0w5.out.same hkk)
  have HGw6 := (show Hid (OwnL w6 (StLog.rows ⟨Gsectors, Gepoch, Gstop, Gflushed, ⟨Gtail_e, Gtail_a, Gtail_c, Gtail_b⟩⟩)) from HGw5.out.same hkk)
  have HYw6 := (show Hid (Blk w6 (w5.heap.size) 29 [.int .i64 Gsectors, .int .i64 Gepoch, .int .i64 Gstop, .int .i64 Gflushed, .slice Gtail_a Gtail_b.length Gtail_c]) from (Blk.new w5 #[.int .i64 Gsectors, .int .i64 Gepoch, .int .i64 Gstop, .int .i64 Gflushed, .slice Gtail_a Gtail_b.length Gtail_c] 29).same hk)
  have HKw6 := (show Hid (Same w w6) from HKw5.out.trans hkk)
  clear hkk hk
  clear A01 A02 lA0 T01 T02 lT0
  clear cZ_0 cZ_1 cZ_2 cZ_3 cZ_4 lZ
  obtain ⟨A01, A02⟩ := HA0w6.out
  have lA0 := HA0w6.out.lt
  obtain ⟨T01, T02⟩ := HT0w6.out
  have lT0 := HT0w6.out.lt
  have cZ_0 : w6.cell? ⟨w3.heap.size, 0, none⟩ = some (.int .i64 Wsectors) := HZw6.out.cell 0
  have cZ_1 : w6.cell? ⟨w3.heap.size, 1, none⟩ = some (.int .i64 Wepoch) := HZw6.out.cell 1
  have cZ_2 : w6.cell? ⟨w3.heap.size, 2, none⟩ = some (.int .i64 Wstop) := HZw6.out.cell 2
  have cZ_3 : w6.cell? ⟨w3.heap.size, 3, none⟩ = some (.int .i64 Wflushed) := HZw6.out.cell 3
  have cZ_4 : w6.cell? ⟨w3.heap.size, 4, none⟩ = some (.slice Wtail_a Wtail_b.length Wtail_c) := HZw6.out.cell 4
  have lZ := HZw6.out.lt
  have cY_0 : w6.cell? ⟨w5.heap.size, 0, none⟩ = some (.int .i64 Gsectors) := HYw6.out.cell 0
  have cY_1 : w6.cell? ⟨w5.heap.size, 1, none⟩ = some (.int .i64 Gepoch) := HYw6.out.cell 1
  have cY_2 : w6.cell? ⟨w5.heap.size, 2, none⟩ = some (.int .i64 Gstop) := HYw6.out.cell 2
  have cY_3 : w6.cell? ⟨w5.heap.size, 3, none⟩ = some (.int .i64 Gflushed) := HYw6.out.cell 3
  have cY_4 : w6.cell? ⟨w5.heap.size, 4, none⟩ = some (.slice Gtail_a Gtail_b.length Gtail_c) := HYw6.out.cell 4
  have lY := HYw6.out.lt
  go_wp2_with fail
  go_cut [43] (fun v wc => v = .bool false ∧ Hid (Same w6 wc))
  case first =>
    have HD1 : Hid (Same w w6.drew) := HKw6.out.drew
    have HD2 : Hid (Same w6 w6.drew) := (Kept.refl _ _).drew
    go_region_with (first | (go_at_call 26; refine (toDisk_any _ _ dur0 ps0 _ (by omega) (by omega) (fun p hp => Nat.le_trans (HS0.out p hp) (by omega)) (by exact HV0.out.same HD1.out)).mono ?_; rintro e wx7 ⟨g3, g3', qs7, rfl, hq3, hf3, ho3, hk7⟩; obtain ⟨y1, y2⟩ := HT0w6.out.same (HD2.out.trans hk7); have HO7 := (show Hid (OwnD 0 74 5 wx7 (.slice (some ⟨g3, 0, none⟩) dur0.length dur0.length) (.slice (some ⟨g3', 0, none⟩) ps0.length ps0.length) dur0 qs7) from ho3); have HQ7 : Hid (dataP qs7 = dataP ps0) := hq3; have HK7 : Hid (Same w6 wx7) := HD2.out.trans hk7; clear ho3 hq3 hf3 hk7) | (go_at_call 28; refine (eqDisk_own 0 _ _ _ _ dur0 qsX0 qs7 _ (by omega) (by have h := (HT0.out qsX0 HQX0.out).1; omega) (HQX0.out.trans HQ7.out.symm) (fun p hp => Nat.le_trans ((HT0.out qsX0 HQX0.out).2 p hp) (by omega)) (HX0w6.out.same HK7.out) HO7.out).mono ?_; rintro e wx8 ⟨rfl, hk8⟩))
    all_goals
      have HK8 : Hid (Same w6 wx8) := HK7.out.trans hk8
      clear hk8
      go_wp2_with fail
      go_meet
      case rel => exact ⟨rfl, HK8⟩
  case rest =>
  obtain ⟨rfl, HKC⟩ := hcut
  obtain ⟨w7, hwc⟩ : ∃ x, x = wc := ⟨_, rfl⟩
  subst hwc
  clear A01 A02 lA0 T01 T02 lT0
  clear cZ_0 cZ_1 cZ_2 cZ_3 cZ_4 lZ cY_0 cY_1 cY_2 cY_3 cY_4 lY
  have hkk : Same w6 w7 := HKC.out
  have hzw7 := hkk.size
  have HA0w7 := (show Hid (Box w7 (w.heap.size) (.slice a0a dur0.length c0a) (.slice a0b ps0.length c0b)) from HA0w6.out.same hkk)
  have HWw7 := (show Hid (OwnL w7 (StLog.rows ⟨Wsectors, Wepoch, Wstop, Wflushed, ⟨Wtail_e, Wtail_a, Wtail_c, Wtail_b⟩⟩)) from HWw6.out.same hkk)
  have HZw7 := (show Hid (Blk w7 (w3.heap.size) 29 [.int .i64 Wsectors, .int .i64 Wepoch, .int .i64 Wstop, .int .i64 Wflushed, .slice Wtail_a Wtail_b.length Wtail_c]) from HZw6.out.same hkk)
  have HX0w7 := (show Hid (OwnD 0 74 5 w7 (.slice (some ⟨gX0, 0, none⟩) dur0.length dur0.length) (.slice (some ⟨gX0', 0, none⟩) ps0.length ps0.length) dur0 qsX0) from HX0w6.out.same hkk)
  have HT0w7 := (show Hid (Box w7 (w4.heap.size) (.slice (some ⟨gX0, 0, none⟩) dur0.length dur0.length) (.slice (some ⟨gX0', 0, none⟩) ps0.length ps0.length)) from HT0w6.out.same hkk)
  have HGw7 := (show Hid (OwnL w7 (StLog.rows ⟨Gsectors, Gepoch, Gstop, Gflushed, ⟨Gtail_e, Gtail_a, Gtail_c, Gtail_b⟩⟩)) from HGw6.out.same hkk)
  have HYw7 := (show Hid (Blk w7 (w5.heap.size) 29 [.int .i64 Gsectors, .int .i64 Gepoch, .int .i64 Gstop, .int .i64 Gflushed, .slice Gtail_a Gtail_b.length Gtail_c]) from HYw6.out.same hkk)
  have HKw7 := (show Hid (Same w w7) from HKw6.out.trans hkk)
  clear hkk
  have hE0 : (0 : Int) ≤ 1 := by omega
  have hE0b : (1 : Int) ≤ 1 := by omega
  have hqlX0 : qsX0.length = ps0.length := by rw [← dataP_length, HQX0.out, dataP_length]
  obtain ⟨E1, hE⟩ : ∃ E, endP (1 + (dur0.length : Int)) qsX0 = E := ⟨_, rfl⟩
  have hE1 : 0 ≤ E1 := by rw [← hE, endP_size]; omega
  have hE1b : E1 ≤ 5000001 := by rw [← hE, endP_size, dataP_sizeP HQX0.out]; omega
  have HE1 : Hid (endP (1 + (dur0.length : Int)) qsX0 = E1) := hE
  clear hE
  obtain ⟨A01, A02⟩ := HA0w7.out
  have lA0 := HA0w7.out.lt
  obtain ⟨T01, T02⟩ := HT0w7.out
  have lT0 := HT0w7.out.lt
  have cZ_0 : w7.cell? ⟨w3.heap.size, 0, none⟩ = some (.int .i64 Wsectors) := HZw7.out.cell 0
  have cZ_1 : w7.cell? ⟨w3.heap.size, 1, none⟩ = some (.int .i64 Wepoch) := HZw7.out.cell 1
  have cZ_2 : w7.cell? ⟨w3.heap.size, 2, none⟩ = some (.int .i64 Wstop) := HZw7.out.cell 2
  have cZ_3 : w7.cell? ⟨w3.heap.size, 3, none⟩ = some (.int .i64 Wflushed) := HZw7.out.cell 3
  have cZ_4 : w7.cell? ⟨w3.heap.size, 4, none⟩ = some (.slice Wtail_a Wtail_b.length Wtail_c) := HZw7.out.cell 4
  have lZ := HZw7.out.lt
  have cY_0 : w7.cell? ⟨w5.heap.size, 0, none⟩ = some (.int .i64 Gsectors) := HYw7.out.cell 0
  have cY_1 : w7.cell? ⟨w5.heap.size, 1, none⟩ = some (.int .i64 Gepoch) := HYw7.out.cell 1
  have cY_2 : w7.cell? ⟨w5.heap.size, 2, none⟩ = some (.int .i64 Gstop) := HYw7.out.cell 2
  have cY_3 : w7.cell? ⟨w5.heap.size, 3, none⟩ = some (.int .i64 Gflushed) := HYw7.out.cell 3
  have cY_4 : w7.cell? ⟨w5.heap.size, 4, none⟩ = some (.slice Gtail_a Gtail_b.length Gtail_c) := HYw7.out.cell 4
  have lY := HYw7.out.lt
  go_wp2_with fail
  have hm := markDisk_own 0 (.slice (some ⟨gX0, 0, none⟩) dur0.length dur0.length) (.slice (some ⟨gX0', 0, none⟩) ps0.length ps0.length) dur0 qsX0 1 w7 (by omega) (by rw [HE1.out]; omega) (by omega) HX0w7.out
  rw [HE1.out] at hm
  refine hm.mono ?_
  clear hm
  rintro e w8 ⟨rfl, _, hk⟩
  have hzw8 := hk.size
  have HA0w8 := (show Hid (Box w8 (w.heap.size) (.slice a0a dur0.length c0a) (.slice a0b ps0.length c0b)) from HA0w7.out.kept hk (fun e => by have h1 := HFX0.out _ e; omega))
  have HWw8 := (show Hid (OwnL w8 (StLog.rows ⟨Wsectors, Wepoch, Wstop, Wflushed, ⟨Wtail_e, Wtail_a, Wtail_c, Wtail_b⟩⟩)) from HWw7.out.kept hk (fun b hb e => by have h1 := HFX0.out _ e; have h2 := HFW.out b hb; omega))
  have HZw8 := (show Hid (Blk w8 (w3.heap.size) 29 [.int .i64 Wsectors, .int .i64 Wepoch, .int .i64 Wstop, .int .i64 Wflushed, .slice Wtail_a Wtail_b.length Wtail_c]) from HZw7.out.kept hk (fun e => by have h1 := HFX0.out _ e; omega))
  have HT0w8 := (show Hid (Box w8 (w4.heap.size) (.slice (some ⟨gX0, 0, none⟩) dur0.length dur0.length) (.slice (some ⟨gX0', 0, none⟩) ps0.length ps0.length)) from HT0w7.out.kept hk (fun e => by have h1 := HFX0.out _ e; omega))
  have HGw8 := (show Hid (OwnL w8 (StLog.rows ⟨Gsectors, Gepoch, Gstop, Gflushed, ⟨Gtail_e, Gtail_a, Gtail_c, Gtail_b⟩⟩)) from HGw7.out.kept hk (fun b hb e => by have h1 := HFX0.out _ e; have h2 := HFG.out b hb; omega))
  have HYw8 := (show Hid (Blk w8 (w5.heap.size) 29 [.int .i64 Gsectors, .int .i64 Gepoch, .int .i64 Gstop, .int .i64 Gflushed, .slice Gtail_a Gtail_b.length Gtail_c]) from HYw7.out.kept hk (fun e => by have h1 := HFX0.out _ e; omega))
  have HKw8 := (show Hid (Same w w8) from HKw7.out.next hk (fun b hb e => by have h1 := HFX0.out _ e; omega))
  clear A01 A02 lA0 T01 T02 lT0
  clear cZ_0 cZ_1 cZ_2 cZ_3 cZ_4 lZ cY_0 cY_1 cY_2 cY_3 cY_4 lY
  clear hk
  have hEn : ¬ E1 < 0 := by omega
  obtain ⟨A01, A02⟩ := HA0w8.out
  have lA0 := HA0w8.out.lt
  have cZ_0 : w8.cell? ⟨w3.heap.size, 0, none⟩ = some (.int .i64 Wsectors) := HZw8.out.cell 0
  have cZ_1 : w8.cell? ⟨w3.heap.size, 1, none⟩ = some (.int .i64 Wepoch) := HZw8.out.cell 1
  have cZ_2 : w8.cell? ⟨w3.heap.size, 2, none⟩ = some (.int .i64 Wstop) := HZw8.out.cell 2
  have cZ_3 : w8.cell? ⟨w3.heap.size, 3, none⟩ = some (.int .i64 Wflushed) := HZw8.out.cell 3
  have cZ_4 : w8.cell? ⟨w3.heap.size, 4, none⟩ = some (.slice Wtail_a Wtail_b.length Wtail_c) := HZw8.out.cell 4
  have lZ := HZw8.out.lt
  have cY_0 : w8.cell? ⟨w5.heap.size, 0, none⟩ = some (.int .i64 Gsectors) := HYw8.out.cell 0
  have cY_1 : w8.cell? ⟨w5.heap.size, 1, none⟩ = some (.int .i64 Gepoch) := HYw8.out.cell 1
  have cY_2 : w8.cell? ⟨w5.heap.size, 2, none⟩ = some (.int .i64 Gstop) := HYw8.out.cell 2
  have cY_3 : w8.cell? ⟨w5.heap.size, 3, none⟩ = some (.int .i64 Gflushed) := HYw8.out.cell 3
  have cY_4 : w8.cell? ⟨w5.heap.size, 4, none⟩ = some (.slice Gtail_a Gtail_b.length Gtail_c) := HYw8.out.cell 4
  have lY := HYw8.out.lt
  go_wp2_with fail
  refine (eqLog_own ⟨Gsectors, Gepoch, Gstop, Gflushed, ⟨Gtail_e, Gtail_a, Gtail_c, Gtail_b⟩⟩ ⟨Wsectors, Wepoch, Wstop, Wflushed, ⟨Wtail_e, Wtail_a, Wtail_c, Wtail_b⟩⟩ _ (by omega) (HDG.out.trans HDW.out.symm) HGw8.out HWw8.out).mono ?_
  rintro e w9 ⟨rfl, hk⟩
  have hkk : Same w8 w9 := hk
  have hzw9 := hkk.size
  have HA0w9 := (show Hid (Box w9 (w.heap.size) (.slice a0a dur0.length c0a) (.slice a0b ps0.length c0b)) from HA0w8.out.same hkk)
  have HWw9 := (show Hid (OwnL w9 (StLog.rows ⟨Wsectors, Wepoch, Wstop, Wflushed, ⟨Wtail_e, Wtail_a, Wtail_c, Wtail_b⟩⟩)) from HWw8.out.same hkk)
  have HZw9 := (show Hid (Blk w9 (w3.heap.size) 29 [.int .i64 Wsectors, .int .i64 Wepoch, .int .i64 Wstop, .int .i64 Wflushed, .slice Wtail_a Wtail_b.length Wtail_c]) from HZw8.out.same hkk)
  have HGw9 := (show Hid (OwnL w9 (StLog.rows ⟨Gsectors, Gepoch, Gstop, Gflushed, ⟨Gtail_e, Gtail_a, Gtail_c, Gtail_b⟩⟩)) from HGw8.out.same hkk)
  have HYw9 := (show Hid (Blk w9 (w5.heap.size) 29 [.int .i64 Gsectors, .int .i64 Gepoch, .int .i64 Gstop, .int .i64 Gflushed, .slice Gtail_a Gtail_b.length Gtail_c]) from HYw8.out.same hkk)
  have HKw9 := (show Hid (Same w w9) from HKw8.out.trans hkk)
  clear hkk hk
  clear A01 A02 lA0
  clear cZ_0 cZ_1 cZ_2 cZ_3 cZ_4 lZ cY_0 cY_1 cY_2 cY_3 cY_4 lY
  have hM2 : ¬ (1 + StLog.size ⟨Gsectors, Gepoch, Gstop, Gflushed, ⟨Gtail_e, Gtail_a, Gtail_c, Gtail_b⟩⟩) < 0 := by omega
  obtain ⟨M, hM⟩ : ∃ M, 1 + StLog.size ⟨Gsectors, Gepoch, Gstop, Gflushed, ⟨Gtail_e, Gtail_a, Gtail_c, Gtail_b⟩⟩ = M := ⟨_, rfl⟩
  have HM := (show Hid (1 + StLog.size ⟨Gsectors, Gepoch, Gstop, Gflushed, ⟨Gtail_e, Gtail_a, Gtail_c, Gtail_b⟩⟩ = M) from hM)
  have hM3 : 0 ≤ M ∧ M ≤ 1125899906842624 := by omega
  rw [hM] at hM2
  clear hM
  obtain ⟨A01, A02⟩ := HA0w9.out
  have lA0 := HA0w9.out.lt
  have cZ_0 : w9.cell? ⟨w3.heap.size, 0, none⟩ = some (.int .i64 Wsectors) := HZw9.out.cell 0
  have cZ_1 : w9.cell? ⟨w3.heap.size, 1, none⟩ = some (.int .i64 Wepoch) := HZw9.out.cell 1
  have cZ_2 : w9.cell? ⟨w3.heap.size, 2, none⟩ = some (.int .i64 Wstop) := HZw9.out.cell 2
  have cZ_3 : w9.cell? ⟨w3.heap.size, 3, none⟩ = some (.int .i64 Wflushed) := HZw9.out.cell 3
  have cZ_4 : w9.cell? ⟨w3.heap.size, 4, none⟩ = some (.slice Wtail_a Wtail_b.length Wtail_c) := HZw9.out.cell 4
  have lZ := HZw9.out.lt
  have cY_0 : w9.cell? ⟨w5.heap.size, 0, none⟩ = some (.int .i64 Gsectors) := HYw9.out.cell 0
  have cY_1 : w9.cell? ⟨w5.heap.size, 1, none⟩ = some (.int .i64 Gepoch) := HYw9.out.cell 1
  have cY_2 : w9.cell? ⟨w5.heap.size, 2, none⟩ = some (.int .i64 Gstop) := HYw9.out.cell 2
  have cY_3 : w9.cell? ⟨w5.heap.size, 3, none⟩ = some (.int .i64 Gflushed) := HYw9.out.cell 3
  have cY_4 : w9.cell? ⟨w5.heap.size, 4, none⟩ = some (.slice Gtail_a Gtail_b.length Gtail_c) := HYw9.out.cell 4
  have lY := HYw9.out.lt
  go_wp2_with fail
  have hm := markLog_own ⟨Gsectors, Gepoch, Gstop, Gflushed, ⟨Gtail_e, Gtail_a, Gtail_c, Gtail_b⟩⟩ 1 w9 (by omega) (by rw [HM.out]; omega) HGw9.out
  rw [HM.out] at hm
  dsimp only [StLog.val, BS.v] at hm
  refine hm.mono ?_
  clear hm
  rintro e w10 ⟨rfl, ho, hk⟩
  have hzw10 := hk.size
  have HA0w10 := (show Hid (Box w10 (w.heap.size) (.slice a0a dur0.length c0a) (.slice a0b ps0.length c0b)) from HA0w9.out.kept hk (fun e => by have h1 := HFG.out _ e; omega))
  have HWw10 := (show Hid (OwnL w10 (StLog.rows ⟨Wsectors, Wepoch, Wstop, Wflushed, ⟨Wtail_e, Wtail_a, Wtail_c, Wtail_b⟩⟩)) from HWw9.out.kept hk (fun b hb e => by have h1 := HFG.out _ e; have h2 := HFW.out b hb; omega))
  have HZw10 := (show Hid (Blk w10 (w3.heap.size) 29 [.int .i64 Wsectors, .int .i64 Wepoch, .int .i64 Wstop, .int .i64 Wflushed, .slice Wtail_a Wtail_b.length Wtail_c]) from HZw9.out.kept hk (fun e => by have h1 := HFG.out _ e; omega))
  have HYw10 := (show Hid (Blk w10 (w5.heap.size) 29 [.int .i64 Gsectors, .int .i64 Gepoch, .int .i64 Gstop, .int .i64 Gflushed, .slice Gtail_a Gtail_b.length Gtail_c]) from HYw9.out.kept hk (fun e => by have h1 := HFG.out _ e; omega))
  have HKw10 := (show Hid (Same w w10) from HKw9.out.next hk (fun b hb e => by have h1 := HFG.out _ e; omega))
  have HUw10 := (show Hid (OwnL w10 (StLog.marked ⟨Gsectors, Gepoch, Gstop, Gflushed, ⟨Gtail_e, Gtail_a, Gtail_c, Gtail_b⟩⟩ 1).rows) from ho)
  clear A01 A02 lA0
  clear cZ_0 cZ_1 cZ_2 cZ_3 cZ_4 lZ cY_0 cY_1 cY_2 cY_3 cY_4 lY
  clear hk ho
  have HFU := (show Hid (∀ b, FootL (StLog.marked ⟨Gsectors, Gepoch, Gstop, Gflushed, ⟨Gtail_e, Gtail_a, Gtail_c, Gtail_b⟩⟩ 1).rows b → _ ∧ _) from fun b hb => HFG.out b ((StLog.foot_marked _ _ b).1 hb))
  obtain ⟨A01, A02⟩ := HA0w10.out
  have lA0 := HA0w10.out.lt
  have cZ_0 : w10.cell? ⟨w3.heap.size, 0, none⟩ = some (.int .i64 Wsectors) := HZw10.out.cell 0
  have cZ_1 : w10.cell? ⟨w3.heap.size, 1, none⟩ = some (.int .i64 Wepoch) := HZw10.out.cell 1
  have cZ_2 : w10.cell? ⟨w3.heap.size, 2, none⟩ = some (.int .i64 Wstop) := HZw10.out.cell 2
  have cZ_3 : w10.cell? ⟨w3.heap.size, 3, none⟩ = some (.int .i64 Wflushed) := HZw10.out.cell 3
  have cZ_4 : w10.cell? ⟨w3.heap.size, 4, none⟩ = some (.slice Wtail_a Wtail_b.length Wtail_c) := HZw10.out.cell 4
  have lZ := HZw10.out.lt
  have cY_0 : w10.cell? ⟨w5.heap.size, 0, none⟩ = some (.int .i64 Gsectors) := HYw10.out.cell 0
  have cY_1 : w10.cell? ⟨w5.heap.size, 1, none⟩ = some (.int .i64 Gepoch) := HYw10.out.cell 1
  have cY_2 : w10.cell? ⟨w5.heap.size, 2, none⟩ = some (.int .i64 Gstop) := HYw10.out.cell 2
  have cY_3 : w10.cell? ⟨w5.heap.size, 3, none⟩ = some (.int .i64 Gflushed) := HYw10.out.cell 3
  have cY_4 : w10.cell? ⟨w5.heap.size, 4, none⟩ = some (.slice Gtail_a Gtail_b.length Gtail_c) := HYw10.out.cell 4
  have lY := HYw10.out.lt
  go_wp2_with fail
  have hm := heldLog_own ⟨Gsectors, Gepoch, Gstop, Gflushed, ⟨Gtail_e, Gtail_a, Gtail_c, Gtail_b⟩⟩ 1 w10 (by omega) (by rw [HM.out]; omega) HUw10.out
  rw [HM.out] at hm
  dsimp only [StLog.val, BS.v] at hm
  refine hm.mono ?_
  clear hm
  rintro e w11 ⟨rfl, hk⟩
  have hkk : Same w10 w11 := hk
  have hzw11 := hkk.size
  have HA0w11 := (show Hid (Box w11 (w.heap.size) (.slice a0a dur0.length c0a) (.slice a0b ps0.length c0b)) from HA0w10.out.same hkk)
  have HWw11 := (show Hid (OwnL w11 (StLog.rows ⟨Wsectors, Wepoch, Wstop, Wflushed, ⟨Wtail_e, Wtail_a, Wtail_c, Wtail_b⟩⟩)) from HWw10.out.same hkk)
  have HZw11 := (show Hid (Blk w11 (w3.heap.size) 29 [.int .i64 Wsectors, .int .i64 Wepoch, .int .i64 Wstop, .int .i64 Wflushed, .slice Wtail_a Wtail_b.length Wtail_c]) from HZw10.out.same hkk)
  have HYw11 := (show Hid (Blk w11 (w5.heap.size) 29 [.int .i64 Gsectors, .int .i64 Gepoch, .int .i64 Gstop, .int .i64 Gflushed, .slice Gtail_a Gtail_b.length Gtail_c]) from HYw10.out.same hkk)
  have HUw11 := (show Hid (OwnL w11 (StLog.marked ⟨Gsectors, Gepoch, Gstop, Gflushed, ⟨Gtail_e, Gtail_a, Gtail_c, Gtail_b⟩⟩ 1).rows) from HUw10.out.same hkk)
  have HKw11 := (show Hid (Same w w11) from HKw10.out.trans hkk)
  clear hkk hk
  clear A01 A02 lA0
  clear cZ_0 cZ_1 cZ_2 cZ_3 cZ_4 lZ cY_0 cY_1 cY_2 cY_3 cY_4 lY
  obtain ⟨A01, A02⟩ := HA0w11.out
  have lA0 := HA0w11.out.lt
  have cZ_0 : w11.cell? ⟨w3.heap.size, 0, none⟩ = some (.int .i64 Wsectors) := HZw11.out.cell 0
  have cZ_1 : w11.cell? ⟨w3.heap.size, 1, none⟩ = some (.int .i64 Wepoch) := HZw11.out.cell 1
  have cZ_2 : w11.cell? ⟨w3.heap.size, 2, none⟩ = some (.int .i64 Wstop) := HZw11.out.cell 2
  have cZ_3 : w11.cell? ⟨w3.heap.size, 3, none⟩ = some (.int .i64 Wflushed) := HZw11.out.cell 3
  have cZ_4 : w11.cell? ⟨w3.heap.size, 4, none⟩ = some (.slice Wtail_a Wtail_b.length Wtail_c) := HZw11.out.cell 4
  have lZ := HZw11.out.lt
  have cY_0 : w11.cell? ⟨w5.heap.size, 0, none⟩ = some (.int .i64 Gsectors) := HYw11.out.cell 0
  have cY_1 : w11.cell? ⟨w5.heap.size, 1, none⟩ = some (.int .i64 Gepoch) := HYw11.out.cell 1
  have cY_2 : w11.cell? ⟨w5.heap.size, 2, none⟩ = some (.int .i64 Gstop) := HYw11.out.cell 2
  have cY_3 : w11.cell? ⟨w5.heap.size, 3, none⟩ = some (.int .i64 Gflushed) := HYw11.out.cell 3
  have cY_4 : w11.cell? ⟨w5.heap.size, 4, none⟩ = some (.slice Gtail_a Gtail_b.length Gtail_c) := HYw11.out.cell 4
  have lY := HYw11.out.lt
  go_wp2_with fail
  refine (toDisk_any _ _ dur0 ps0 _ (by omega) (by omega) (fun p hp => Nat.le_trans (HS0.out p hp) (by omega)) (HV0.out.same HKw11.out)).mono ?_
  rintro e w12 ⟨gJ0, gJ0', qsJ0, rfl, hq, hf, ho, hk⟩
  have HQJ0 : Hid (dataP qsJ0 = dataP ps0) := hq
  have HFJ0 := (show Hid (∀ b, footD (.slice (some ⟨gJ0, 0, none⟩) dur0.length dur0.length) (.slice (some ⟨gJ0', 0, none⟩) ps0.length ps0.length) qsJ0 b → w11.heap.size ≤ b ∧ b < w12.heap.size) from fun b hb => ⟨hf b hb, (ho.lt b hb).2⟩)
  have HJ0w12 := (show Hid (OwnD 0 74 5 w12 (.slice (some ⟨gJ0, 0, none⟩) dur0.length dur0.length) (.slice (some ⟨gJ0', 0, none⟩) ps0.length ps0.length) dur0 qsJ0) from ho)
  clear hf ho hq
  have hkk : Same w11 w12 := hk
  have hzw12 := hkk.size
  have HA0w12 := (show Hid (Box w12 (w.heap.size) (.slice a0a dur0.length c0a) (.slice a0b ps0.length c0b)) from HA0w11.out.same hkk)
  have HWw12 := (show Hid (OwnL w12 (StLog.rows ⟨Wsectors, Wepoch, Wstop, Wflushed, ⟨Wtail_e, Wtail_a, Wtail_c, Wtail_b⟩⟩)) from HWw11.out.same hkk)
  have HZw12 := (show Hid (Blk w12 (w3.heap.size) 29 [.int .i64 Wsectors, .int .i64 Wepoch, .int .i64 Wstop, .int .i64 Wflushed, .slice Wtail_a Wtail_b.length Wtail_c]) from HZw11.out.same hkk)
  have HYw12 := (show Hid (Blk w12 (w5.heap.size) 29 [.int .i64 Gsectors, .int .i64 Gepoch, .int .i64 Gstop, .int .i64 Gflushed, .slice Gtail_a Gtail_b.length Gtail_c]) from HYw11.out.same hkk)
  have HUw12 := (show Hid (OwnL w12 (StLog.marked ⟨Gsectors, Gepoch, Gstop, Gflushed, ⟨Gtail_e, Gtail_a, Gtail_c, Gtail_b⟩⟩ 1).rows) from HUw11.out.same hkk)
  have HKw12 := (show Hid (Same w w12) from HKw11.out.trans hkk)
  clear hkk hk
  clear A01 A02 lA0
  clear cZ_0 cZ_1 cZ_2 cZ_3 cZ_4 lZ cY_0 cY_1 cY_2 cY_3 cY_4 lY
  obtain ⟨A01, A02⟩ := HA0w12.out
  have lA0 := HA0w12.out.lt
  have cZ_0 : w12.cell? ⟨w3.heap.size, 0, none⟩ = some (.int .i64 Wsectors) := HZw12.out.cell 0
  have cZ_1 : w12.cell? ⟨w3.heap.size, 1, none⟩ = some (.int .i64 Wepoch) := HZw12.out.cell 1
  have cZ_2 : w12.cell? ⟨w3.heap.size, 2, none⟩ = some (.int .i64 Wstop) := HZw12.out.cell 2
  have cZ_3 : w12.cell? ⟨w3.heap.size, 3, none⟩ = some (.int .i64 Wflushed) := HZw12.out.cell 3
  have cZ_4 : w12.cell? ⟨w3.heap.size, 4, none⟩ = some (.slice Wtail_a Wtail_b.length Wtail_c) := HZw12.out.cell 4
  have lZ := HZw12.out.lt
  have cY_0 : w12.cell? ⟨w5.heap.size, 0, none⟩ = some (.int .i64 Gsectors) := HYw12.out.cell 0
  have cY_1 : w12.cell? ⟨w5.heap.size, 1, none⟩ = some (.int .i64 Gepoch) := HYw12.out.cell 1
  have cY_2 : w12.cell? ⟨w5.heap.size, 2, none⟩ = some (.int .i64 Gstop) := HYw12.out.cell 2
  have cY_3 : w12.cell? ⟨w5.heap.size, 3, none⟩ = some (.int .i64 Gflushed) := HYw12.out.cell 3
  have cY_4 : w12.cell? ⟨w5.heap.size, 4, none⟩ = some (.slice Gtail_a Gtail_b.length Gtail_c) := HYw12.out.cell 4
  have lY := HYw12.out.lt
  go_wp2_with fail
  refine (implLoad_any _ _ dur0 qsJ0 s1 s2 s3 _ (by omega) (HT0.out qsJ0 HQJ0.out).1 (HT0.out qsJ0 HQJ0.out).2 (HJ0w12.out.rd)).mono ?_
  rintro e w13 ⟨⟨Lsectors, Lepoch, Lstop, Lflushed, ⟨Ltail_e, Ltail_a, Ltail_c, Ltail_b⟩⟩, rfl, hd, hf, ho, hk⟩
  rw [HQJ0.out] at hd
  have hnL : StLog.size ⟨Lsectors, Lepoch, Lstop, Lflushed, ⟨Ltail_e, Ltail_a, Ltail_c, Ltail_b⟩⟩ ≤ 1099511627776 := loadD_small hd
  have hnL0 := StLog.size_le ⟨Lsectors, Lepoch, Lstop, Lflushed, ⟨Ltail_e, Ltail_a, Ltail_c, Ltail_b⟩⟩
  have HDL := (show Hid (StLog.dat ⟨Lsectors, Lepoch, Lstop, Lflushed, ⟨Ltail_e, Ltail_a, Ltail_c, Ltail_b⟩⟩ = loadD dur0 (dataP ps0) s1 s2 s3) from hd)
  dsimp only [StLog.val, BS.v]
  have HFL := (show Hid (∀ b, FootL (StLog.rows ⟨Lsectors, Lepoch, Lstop, Lflushed, ⟨Ltail_e, Ltail_a, Ltail_c, Ltail_b⟩⟩) b → w12.heap.size ≤ b ∧ b < w13.heap.size) from fun b hb => ⟨hf b hb, ho.lt b hb⟩)
  have HLw13 := (show Hid (OwnL w13 (StLog.rows ⟨Lsectors, Lepoch, Lstop, Lflushed, ⟨Ltail_e, Ltail_a, Ltail_c, Ltail_b⟩⟩)) from ho)
  clear hd hf ho
  have hkk : Same w12 w13 := hk
  have hzw13 := hkk.size
  have HA0w13 := (show Hid (Box w13 (w.heap.size) (.slice a0a dur0.length c0a) (.slice a0b ps0.length c0b)) from HA0w12.out.same hkk)
  have HWw13 := (show Hid (OwnL w13 (StLog.rows ⟨Wsectors, Wepoch, Wstop, Wflushed, ⟨Wtail_e, Wtail_a, Wtail_c, Wtail_b⟩⟩)) from HWw12.out.same hkk)
  have HZw13 := (show Hid (Blk w13 (w3.heap.size) 29 [.int .i64 Wsectors, .int .i64 Wepoch, .int .i64 Wstop, .int .i64 Wflushed, .slice Wtail_a Wtail_b.length Wtail_c]) from HZw12.out.same hkk)
  have HYw13 := (show Hid (Blk w13 (w5.heap.size) 29 [.int .i64 Gsectors, .int .i64 Gepoch, .int .i64 Gstop, .int .i64 Gflushed, .slice Gtail_a Gtail_b.length Gtail_c]) from HYw12.out.same hkk)
  have HUw13 := (show Hid (OwnL w13 (StLog.marked ⟨Gsectors, Gepoch, Gstop, Gflushed, ⟨Gtail_e, Gtail_a, Gtail_c, Gtail_b⟩⟩ 1).rows) from HUw12.out.same hkk)
  have HJ0w13 := (show Hid (OwnD 0 74 5 w13 (.slice (some ⟨gJ0, 0, none⟩) dur0.length dur0.length) (.slice (some ⟨gJ0', 0, none⟩) ps0.length ps0.length) dur0 qsJ0) from HJ0w12.out.same hkk)
  have HKw13 := (show Hid (Same w w13) from HKw12.out.trans hkk)
  clear hkk hk
  clear A01 A02 lA0
  clear cZ_0 cZ_1 cZ_2 cZ_3 cZ_4 lZ cY_0 cY_1 cY_2 cY_3 cY_4 lY
  obtain ⟨A01, A02⟩ := HA0w13.out
  have lA0 := HA0w13.out.lt
  have cZ_0 : w13.cell? ⟨w3.heap.size, 0, none⟩ = some (.int .i64 Wsectors) := HZw13.out.cell 0
  have cZ_1 : w13.cell? ⟨w3.heap.size, 1, none⟩ = some (.int .i64 Wepoch) := HZw13.out.cell 1
  have cZ_2 : w13.cell? ⟨w3.heap.size, 2, none⟩ = some (.int .i64 Wstop) := HZw13.out.cell 2
  have cZ_3 : w13.cell? ⟨w3.heap.size, 3, none⟩ = some (.int .i64 Wflushed) := HZw13.out.cell 3
  have cZ_4 : w13.cell? ⟨w3.heap.size, 4, none⟩ = some (.slice Wtail_a Wtail_b.length Wtail_c) := HZw13.out.cell 4
  have lZ := HZw13.out.lt
  have cY_0 : w13.cell? ⟨w5.heap.size, 0, none⟩ = some (.int .i64 Gsectors) := HYw13.out.cell 0
  have cY_1 : w13.cell? ⟨w5.heap.size, 1, none⟩ = some (.int .i64 Gepoch) := HYw13.out.cell 1
  have cY_2 : w13.cell? ⟨w5.heap.size, 2, none⟩ = some (.int .i64 Gstop) := HYw13.out.cell 2
  have cY_3 : w13.cell? ⟨w5.heap.size, 3, none⟩ = some (.int .i64 Gflushed) := HYw13.out.cell 3
  have cY_4 : w13.cell? ⟨w5.heap.size, 4, none⟩ = some (.slice Gtail_a Gtail_b.length Gtail_c) := HYw13.out.cell 4
  have lY := HYw13.out.lt
  go_wp2_with fail
  refine (eqLog_own ⟨Lsectors, Lepoch, Lstop, Lflushed, ⟨Ltail_e, Ltail_a, Ltail_c, Ltail_b⟩⟩ ⟨Wsectors, Wepoch, Wstop, Wflushed, ⟨Wtail_e, Wtail_a, Wtail_c, Wtail_b⟩⟩ _ (by omega) (HDL.out.trans HDW.out.symm) (HLw13.out.same ((Kept.refl _ _).alloc _)) (HWw13.out.same ((Kept.refl _ _).alloc _))).mono ?_
  rintro e w14 ⟨rfl, hk⟩
  have hkk : Same w13 w14 := ((Kept.refl _ _).alloc _).trans hk
  have hzw14 := hk.size
  rw [World.size_alloc] at hzw14
  have HA0w14 := (show Hid (Box w14 (w.heap.size) (.slice a0a dur0.length c0a) (.slice a0b ps0.length c0b)) from HA0w13.out.same hkk)
  have HWw14 := (show Hid (OwnL w14 (StLog.rows ⟨Wsectors, Wepoch, Wstop, Wflushed, ⟨Wtail_e, Wtail_a, Wtail_c, Wtail_b⟩⟩)) from HWw13.out.same hkk)
  have HZw14 := (show Hid (Blk w14 (w3.heap.size) 29 [.int .i64 Wsectors, .int .i64 Wepoch, .int .i64 Wstop, .int .i64 Wflushed, .slice Wtail_a Wtail_b.length Wtail_c]) from HZw13.out.same hkk)
  have HYw14 := (show Hid (Blk w14 (w5.heap.size) 29 [.int .i64 Gsectors, .int .i64 Gepoch, .int .i64 Gstop, .int .i64 Gflushed, .slice Gtail_a Gtail_b.length Gtail_c]) from HYw13.out.same hkk)
  have HUw14 := (show Hid (OwnL w14 (StLog.marked ⟨Gsectors, Gepoch, Gstop, Gflushed, ⟨Gtail_e, Gtail_a, Gtail_c, Gtail_b⟩⟩ 1).rows) from HUw13.out.same hkk)
  have HLw14 := (show Hid (OwnL w14 (StLog.rows ⟨Lsectors, Lepoch, Lstop, Lflushed, ⟨Ltail_e, Ltail_a, Ltail_c, Ltail_b⟩⟩)) from HLw13.out.same hkk)
  have HVw14 := (show Hid (Blk w14 (w13.heap.size) 29 [.int .i64 Lsectors, .int .i64 Lepoch, .int .i64 Lstop, .int .i64 Lflushed, .slice Ltail_a Ltail_b.length Ltail_c]) from (Blk.new w13 #[.int .i64 Lsectors, .int .i64 Lepoch, .int .i64 Lstop, .int .i64 Lflushed, .slice Ltail_a Ltail_b.length Ltail_c] 29).same hk)
  have HKw14 := (show Hid (Same w w14) from HKw13.out.trans hkk)
  clear hkk hk
  clear A01 A02 lA0
  clear cZ_0 cZ_1 cZ_2 cZ_3 cZ_4 lZ cY_0 cY_1 cY_2 cY_3 cY_4 lY
  obtain ⟨A01, A02⟩ := HA0w14.out
  have lA0 := HA0w14.out.lt
  have cY_0 : w14.cell? ⟨w5.heap.size, 0, none⟩ = some (.int .i64 Gsectors) := HYw14.out.cell 0
  have cY_1 : w14.cell? ⟨w5.heap.size, 1, none⟩ = some (.int .i64 Gepoch) := HYw14.out.cell 1
  have cY_2 : w14.cell? ⟨w5.heap.size, 2, none⟩ = some (.int .i64 Gstop) := HYw14.out.cell 2
  have cY_3 : w14.cell? ⟨w5.heap.size, 3, none⟩ = some (.int .i64 Gflushed) := HYw14.out.cell 3
  have cY_4 : w14.cell? ⟨w5.heap.size, 4, none⟩ = some (.slice Gtail_a Gtail_b.length Gtail_c) := HYw14.out.cell 4
  have lY := HYw14.out.lt
  go_wp2_with fail
  have hm := heldLog_own ⟨Gsectors, Gepoch, Gstop, Gflushed, ⟨Gtail_e, Gtail_a, Gtail_c, Gtail_b⟩⟩ 1 w14 (by omega) (by rw [HM.out]; omega) HUw14.out
  rw [HM.out] at hm
  dsimp only [StLog.val, BS.v] at hm
  refine hm.mono ?_
  clear hm
  rintro e w15 ⟨rfl, hk⟩
  have hkk : Same w14 w15 := hk
  have hzw15 := hkk.size
  have HA0w15 := (show Hid (Box w15 (w.heap.size) (.slice a0a dur0.length c0a) (.slice a0b ps0.length c0b)) from HA0w14.out.same hkk)
  have HYw15 := (show Hid (Blk w15 (w5.heap.size) 29 [.int .i64 Gsectors, .int .i64 Gepoch, .int .i64 Gstop, .int .i64 Gflushed, .slice Gtail_a Gtail_b.length Gtail_c]) from HYw14.out.same hkk)
  have HUw15 := (show Hid (OwnL w15 (StLog.marked ⟨Gsectors, Gepoch, Gstop, Gflushed, ⟨Gtail_e, Gtail_a, Gtail_c, Gtail_b⟩⟩ 1).rows) from HUw14.out.same hkk)
  have HKw15 := (show Hid (Same w w15) from HKw14.out.trans hkk)
  clear hkk hk
  clear A01 A02 lA0
  clear cY_0 cY_1 cY_2 cY_3 cY_4 lY
  go_wp2
  go_ret
  exact ⟨rfl, HKw15.out⟩
end Go.Proofs.Ytclmdpmelifplaa
