import Derived.Test.YtaojjcnmififoaaGreatG43
import Derived.Test.YtaojjcnmififoaaGreatG00
import Derived.Deep.DeepCutAuto
namespace Go.Proofs.YtaojjcnmififoaaGreat
set_option maxRecDepth 100000
set_option maxHeartbeats 16000000
open Go.RowKit
set_option linter.unusedVariables false
theorem scanLog_law (dv0 pv0 : Value) (dur0 : List Int) (ps0 : List PW) (s1 : Int) (s2 : Int) (s3 : Int) (w : World) (hv0 : RdD w dv0 pv0 dur0 ps0) (hDB : DiskB dur0 ps0) :
    Calls Tryz.prog 3 #[.agg #[dv0, pv0], .int .i64 s1, .int .i64 s2, .int .i64 s3] w fun e w' => e = .returned (.bool true) ∧ Same w w' := by
  obtain ⟨a0a, c0a, rfl⟩ := hv0.dur.form
  obtain ⟨a0b, c0b, rfl⟩ := hv0.pend.form
  have HV0 := (show Hid (RdD w (.slice a0a dur0.length c0a) (.slice a0b ps0.length c0b) dur0 ps0) from hv0)
  clear hv0
  have HDB := hid hDB
  clear hDB
  go_enter Tryz.func3, Tryz.ntmps3
  have HKw : Hid (Same w w) := Kept.refl _ _
  go_wp2_with fail
  refine (szDisk_any _ _ dur0 ps0 _ _ (by omega) (by omega) (HV0.out.same ((Kept.refl _ _).alloc _))).mono ?_
  rintro e w1 ⟨sz0, rfl, hr, hk⟩
  have hkk : Same w w1 := ((Kept.refl _ _).alloc _).trans hk
  have hzw1 := hk.size
  rw [World.size_alloc] at hzw1
  have HA0w1 := (show Hid (Box w1 (w.heap.size) (.slice a0a dur0.length c0a) (.slice a0b ps0.length c0b)) from (Box.new _ _ _ _).same hk)
  have HKw1 := (show Hid (Same w w1) from HKw.out.trans hkk)
  clear hkk hk
  rcases hr with rfl | ⟨hr, hr0⟩
  · go_wp2
    go_ret
    exact ⟨rfl, HKw1.out⟩
  have hd0 : dur0.length ≤ 1048576 := by omega
  have hp0 : ps0.length ≤ 1048576 := by omega
  have hsz0 : sizeP ps0 ≤ 1048576 := by omega
  have HS0 : Hid (∀ p ∈ ps0, p.bs.length ≤ 1048576) := fun p hp => by have := sizeP_mem ps0 p hp; omega
  have HT0 : Hid (∀ qs : List PW, dataP qs = dataP ps0 → qs.length ≤ 1073741824 ∧ ∀ p ∈ qs, p.bs.length ≤ 1099511627776) := fun qs hq => ⟨by rw [← dataP_length, hq, dataP_length]; omega, fun p hp => by have := sizeP_mem qs p hp; rw [dataP_sizeP hq] at this; omega⟩
  clear hr
  obtain ⟨A01, A02⟩ := HA0w1.out
  have lA0 := HA0w1.out.lt
  go_wp2_with fail
  refine (toDisk_any _ _ dur0 ps0 _ (by omega) (by omega) (fun p hp => Nat.le_trans (HS0.out p hp) (by omega)) (HV0.out.same HKw1.out)).mono ?_
  rintro e w2 ⟨gC0, gC0', qsC0, rfl, hq, hf, ho, hk⟩
  have HQC0 : Hid (dataP qsC0 = dataP ps0) := hq
  have HFC0 := (show Hid (∀ b, footD (.slice (some ⟨gC0, 0, none⟩) dur0.length dur0.length) (.slice (some ⟨gC0', 0, none⟩) ps0.length ps0.length) qsC0 b → w1.heap.size ≤ b ∧ b < w2.heap.size) from fun b hb => ⟨hf b hb, (ho.lt b hb).2⟩)
  have HC0w2 := (show Hid (OwnD 0 76 5 w2 (.slice (some ⟨gC0, 0, none⟩) dur0.length dur0.length) (.slice (some ⟨gC0', 0, none⟩) ps0.length ps0.length) dur0 qsC0) from ho)
  clear hf ho hq
  have hkk : Same w1 w2 := hk
  have hzw2 := hkk.size
  have HA0w2 := hid (HA0w1.out.same hkk)
  have HKw2 := (show Hid (Same w w2) from HKw1.out.trans hkk)
  clear hkk hk
  clear A01 A02 lA0
  obtain ⟨A01, A02⟩ := HA0w2.out
  have lA0 := HA0w2.out.lt
  go_wp2_with fail
  refine (specScan_any _ _ dur0 qsC0 s1 s2 s3 _ HDB.out.1 (HDB.out.dat HQC0.out).2 (by omega) (HC0w2.out.rd)).mono ?_
  rintro e w3 ⟨vW, Wq, en, rfl, hd, hf, ho, hk⟩
  obtain ⟨Wa, Wc, rfl⟩ := ho.rd.row.form
  rw [HQC0.out] at hd
  have HSW := hid (scanA_small HDB.out hd)
  have hnW := HSW.out.1
  have hnW2 := HSW.out.2.2
  have hnW0 := mzFr_nonneg Wq
  have HDW := hid hd
  have HFW := (show Hid (∀ b, footFr (.slice Wa Wq.length Wc) Wq b → w2.heap.size ≤ b ∧ b < w3.heap.size) from fun b hb => ⟨hf b hb, ho.lt b hb⟩)
  have HWw3 := (show Hid (OwnFr w3 (.slice Wa Wq.length Wc) Wq) from ho)
  clear hd hf ho
  have hkk : Same w2 w3 := hk
  have hzw3 := hkk.size
  have HA0w3 := hid (HA0w2.out.same hkk)
  have HC0w3 := hid (HC0w2.out.same hkk)
  have HKw3 := (show Hid (Same w w3) from HKw2.out.trans hkk)
  clear hkk hk
  clear A01 A02 lA0
  obtain ⟨A01, A02⟩ := HA0w3.out
  have lA0 := HA0w3.out.lt
  go_wp2_with fail
  refine (toDisk_any _ _ dur0 ps0 _ (by omega) (by omega) (fun p hp => Nat.le_trans (HS0.out p hp) (by omega)) (HV0.out.same (HKw3.out.alloc _))).mono ?_
  rintro e w4 ⟨gX0, gX0', qsX0, rfl, hq, hf, ho, hk⟩
  have HQX0 : Hid (dataP qsX0 = dataP ps0) := hq
  simp only [World.size_alloc] at hf
  have HFX0 := (show Hid (∀ b, footD (.slice (some ⟨gX0, 0, none⟩) dur0.length dur0.length) (.slice (some ⟨gX0', 0, none⟩) ps0.length ps0.length) qsX0 b → w3.heap.size < b ∧ b < w4.heap.size) from fun b hb => ⟨by have := hf b hb; omega, (ho.lt b hb).2⟩)
  have HX0w4 := (show Hid (OwnD 0 76 5 w4 (.slice (some ⟨gX0, 0, none⟩) dur0.length dur0.length) (.slice (some ⟨gX0', 0, none⟩) ps0.length ps0.length) dur0 qsX0) from ho)
  clear hf ho hq
  have hkk : Same w3 w4 := ((Kept.refl _ _).alloc _).trans hk
  have hzw4 := hk.size
  rw [World.size_alloc] at hzw4
  have HA0w4 := hid (HA0w3.out.same hkk)
  have HWw4 := hid (HWw3.out.same hkk)
  have HZw4 := (show Hid (Blk w4 (w3.heap.size) 29 [.slice Wa Wq.length Wc, .int .i64 en]) from (Blk.new w3 #[.slice Wa Wq.length Wc, .int .i64 en] 29).same hk)
  have HKw4 := (show Hid (Same w w4) from HKw3.out.trans hkk)
  clear hkk hk
  clear A01 A02 lA0
  obtain ⟨A01, A02⟩ := HA0w4.out
  have lA0 := HA0w4.out.lt
  have cZ_0 := HZw4.out.c0
  have cZ_1 := HZw4.out.c1
  have lZ := HZw4.out.lt
  go_wp2_with fail
  refine (implScan_any _ _ dur0 qsX0 s1 s2 s3 _ HDB.out.1 (HDB.out.dat HQX0.out).2 (by omega) (HX0w4.out.rd.same ((Kept.refl _ _).alloc _))).mono ?_
  rintro e w5 ⟨vG, Gq, enG, rfl, hd, hf, ho, hk⟩
  obtain ⟨Ga, Gc, rfl⟩ := ho.rd.row.form
  rw [HQX0.out] at hd
  have HSG := hid (scanA_small HDB.out hd)
  have hnG := HSG.out.1
  have hnG2 := HSG.out.2.2
  have hnG0 := mzFr_nonneg Gq
  have HDG := hid hd
  obtain ⟨hdd, hee⟩ := ScanA.one HDW.out HDG.out
  subst hee
  have HEG := (show Hid (datFr Gq = datFr Wq) from hdd.symm)
  clear hdd
  simp only [World.size_alloc] at hf
  have HFG := (show Hid (∀ b, footFr (.slice Ga Gq.length Gc) Gq b → w4.heap.size < b ∧ b < w5.heap.size) from fun b hb => ⟨by have := hf b hb; omega, ho.lt b hb⟩)
  have HGw5 := (show Hid (OwnFr w5 (.slice Ga Gq.length Gc) Gq) from ho)
  clear hd hf ho
  have hkk : Same w4 w5 := ((Kept.refl _ _).alloc _).trans hk
  have hzw5 := hk.size
  rw [World.size_alloc] at hzw5
  have HA0w5 := hid (HA0w4.out.same hkk)
  have HWw5 := hid (HWw4.out.same hkk)
  have HZw5 := hid (HZw4.out.same hkk)
  have HX0w5 := hid (HX0w4.out.same hkk)
  have HT0w5 := (show Hid (Box w5 (w4.heap.size) (.slice (some ⟨gX0, 0, none⟩) dur0.length dur0.length) (.slice (some ⟨gX0', 0, none⟩) ps0.length ps0.length)) from (Box.new _ _ _ _).same hk)
  have HKw5 := (show Hid (Same w w5) from HKw4.out.trans hkk)
  clear hkk hk
  clear A01 A02 lA0
  clear cZ_0 cZ_1 lZ
  obtain ⟨A01, A02⟩ := HA0w5.out
  have lA0 := HA0w5.out.lt
  obtain ⟨T01, T02⟩ := HT0w5.out
  have lT0 := HT0w5.out.lt
  have cZ_0 := HZw5.out.c0
  have cZ_1 := HZw5.out.c1
  have lZ := HZw5.out.lt
  go_wp2_with fail
  refine (eqScan_own _ _ Gq Wq en _ (by omega) HEG.out (fun p hp => by have := HSG.out.2.1 p hp; omega) (HGw5.out.same ((Kept.refl _ _).alloc _)) (HWw5.out.same ((Kept.refl _ _).alloc _))).mono ?_
  rintro e w6 ⟨rfl, hk⟩
  have hkk : Same w5 w6 := ((Kept.refl _ _).alloc _).trans hk
  have hzw6 := hk.size
  rw [World.size_alloc] at hzw6
  have HA0w6 := hid (HA0w5.out.same hkk)
  have HWw6 := hid (HWw5.out.same hkk)
  have HZw6 := hid (HZw5.out.same hkk)
  have HX0w6 := hid (HX0w5.out.same hkk)
  have HT0w6 := hid (HT0w5.out.same hkk)
  have HGw6 := hid (HGw5.out.same hkk)
  have HYw6 := (show Hid (Blk w6 (w5.heap.size) 29 [.slice Ga Gq.length Gc, .int .i64 en]) from (Blk.new w5 #[.slice Ga Gq.length Gc, .int .i64 en] 29).same hk)
  have HKw6 := (show Hid (Same w w6) from HKw5.out.trans hkk)
  clear hkk hk
  clear A01 A02 lA0 T01 T02 lT0
  clear cZ_0 cZ_1 lZ
  obtain ⟨A01, A02⟩ := HA0w6.out
  have lA0 := HA0w6.out.lt
  obtain ⟨T01, T02⟩ := HT0w6.out
  have lT0 := HT0w6.out.lt
  have cZ_0 := HZw6.out.c0
  have cZ_1 := HZw6.out.c1
  have lZ := HZw6.out.lt
  have cY_0 := HYw6.out.c0
  have cY_1 := HYw6.out.c1
  have lY := HYw6.out.lt
  go_wp2_with fail
  go_cut [43] (fun v wc => v = .bool false ∧ Hid (Same w6 wc))
  case first =>
    have HD1 : Hid (Same w w6.drew) := HKw6.out.drew
    have HD2 : Hid (Same w6 w6.drew) := (Kept.refl _ _).drew
    go_region_with (first | (go_at_call 6; refine (toDisk_any _ _ dur0 ps0 _ (by omega) (by omega) (fun p hp => Nat.le_trans (HS0.out p hp) (by omega)) (by exact HV0.out.same HD1.out)).mono ?_; rintro e wx7 ⟨g3, g3', qs7, rfl, hq3, hf3, ho3, hk7⟩; obtain ⟨y1, y2⟩ := HT0w6.out.same (HD2.out.trans hk7); have HO7 := (show Hid (OwnD 0 76 5 wx7 (.slice (some ⟨g3, 0, none⟩) dur0.length dur0.length) (.slice (some ⟨g3', 0, none⟩) ps0.length ps0.length) dur0 qs7) from ho3); have HQ7 : Hid (dataP qs7 = dataP ps0) := hq3; have HK7 : Hid (Same w6 wx7) := HD2.out.trans hk7; clear ho3 hq3 hf3 hk7) | (go_at_call 9; refine (eqDisk_own 0 _ _ _ _ dur0 qsX0 qs7 _ (by omega) (by have h := (HT0.out qsX0 HQX0.out).1; omega) (HQX0.out.trans HQ7.out.symm) (fun p hp => Nat.le_trans ((HT0.out qsX0 HQX0.out).2 p hp) (by omega)) (HX0w6.out.same HK7.out) HO7.out).mono ?_; rintro e wx8 ⟨rfl, hk8⟩))
    all_goals
      have HK8 : Hid (Same w6 wx8) := HK7.out.trans hk8
      clear hk8
      go_wp2_with fail
      go_meet
      case rel => exact ⟨rfl, HK8⟩
  case rest =>
  obtain ⟨rfl, HKC⟩ := hcut
  obtain ⟨w7, hwc⟩ : ∃ x, x = wc := ⟨_, rfl⟩
  subst hwc
  clear A01 A02 lA0 T01 T02 lT0
  clear cZ_0 cZ_1 lZ cY_0 cY_1 lY
  have hkk : Same w6 w7 := HKC.out
  have hzw7 := hkk.size
  have HA0w7 := hid (HA0w6.out.same hkk)
  have HWw7 := hid (HWw6.out.same hkk)
  have HZw7 := hid (HZw6.out.same hkk)
  have HX0w7 := hid (HX0w6.out.same hkk)
  have HT0w7 := hid (HT0w6.out.same hkk)
  have HGw7 := hid (HGw6.out.same hkk)
  have HYw7 := hid (HYw6.out.same hkk)
  have HKw7 := (show Hid (Same w w7) from HKw6.out.trans hkk)
  clear hkk
  have hE0 : (0 : Int) ≤ 1 := by omega
  have hE0b : (1 : Int) ≤ 1 := by omega
  have hqlX0 : qsX0.length = ps0.length := by rw [← dataP_length, HQX0.out, dataP_length]
  obtain ⟨E1, hE⟩ : ∃ E, endP (1 + (dur0.length : Int)) qsX0 = E := ⟨_, rfl⟩
  have hE1 : 0 ≤ E1 := by rw [← hE, endP_size]; omega
  have hE1b : E1 ≤ 5000001 := by rw [← hE, endP_size, dataP_sizeP HQX0.out]; omega
  have HE1 : Hid (endP (1 + (dur0.length : Int)) qsX0 = E1) := hE
  clear hE
  obtain ⟨A01, A02⟩ := HA0w7.out
  have lA0 := HA0w7.out.lt
  obtain ⟨T01, T02⟩ := HT0w7.out
  have lT0 := HT0w7.out.lt
  have cZ_0 := HZw7.out.c0
  have cZ_1 := HZw7.out.c1
  have lZ := HZw7.out.lt
  have cY_0 := HYw7.out.c0
  have cY_1 := HYw7.out.c1
  have lY := HYw7.out.lt
  go_wp2_with fail
  have hm := markDisk_own 0 (.slice (some ⟨gX0, 0, none⟩) dur0.length dur0.length) (.slice (some ⟨gX0', 0, none⟩) ps0.length ps0.length) dur0 qsX0 1 w7 (by omega) (by rw [HE1.out]; omega) (by omega) HX0w7.out
  rw [HE1.out] at hm
  refine hm.mono ?_
  clear hm
  rintro e w8 ⟨rfl, _, hk⟩
  have hzw8 := hk.size
  have HA0w8 := (show Hid (Box w8 (w.heap.size) (.slice a0a dur0.length c0a) (.slice a0b ps0.length c0b)) from HA0w7.out.kept hk (fun e => by have h1 := HFX0.out _ e; omega))
  have HWw8 := (show Hid (OwnFr w8 (.slice Wa Wq.length Wc) Wq) from HWw7.out.kept hk (fun b hb e => by have h1 := HFX0.out _ e; have h2 := HFW.out b hb; omega))
  have HZw8 := (show Hid (Blk w8 (w3.heap.size) 29 [.slice Wa Wq.length Wc, .int .i64 en]) from HZw7.out.kept hk (fun e => by have h1 := HFX0.out _ e; omega))
  have HT0w8 := (show Hid (Box w8 (w4.heap.size) (.slice (some ⟨gX0, 0, none⟩) dur0.length dur0.length) (.slice (some ⟨gX0', 0, none⟩) ps0.length ps0.length)) from HT0w7.out.kept hk (fun e => by have h1 := HFX0.out _ e; omega))
  have HGw8 := (show Hid (OwnFr w8 (.slice Ga Gq.length Gc) Gq) from HGw7.out.kept hk (fun b hb e => by have h1 := HFX0.out _ e; have h2 := HFG.out b hb; omega))
  have HYw8 := (show Hid (Blk w8 (w5.heap.size) 29 [.slice Ga Gq.length Gc, .int .i64 en]) from HYw7.out.kept hk (fun e => by have h1 := HFX0.out _ e; omega))
  have HKw8 := (show Hid (Same w w8) from HKw7.out.next hk (fun b hb e => by have h1 := HFX0.out _ e; omega))
  clear A01 A02 lA0 T01 T02 lT0
  clear cZ_0 cZ_1 lZ cY_0 cY_1 lY
  clear hk
  have hEn : ¬ E1 < 0 := by omega
  obtain ⟨A01, A02⟩ := HA0w8.out
  have lA0 := HA0w8.out.lt
  have cZ_0 := HZw8.out.c0
  have cZ_1 := HZw8.out.c1
  have lZ := HZw8.out.lt
  have cY_0 := HYw8.out.c0
  have cY_1 := HYw8.out.c1
  have lY := HYw8.out.lt
  go_wp2_with fail
  refine (eqScan_own _ _ Gq Wq en _ (by omega) HEG.out (fun p hp => by have := HSG.out.2.1 p hp; omega) HGw8.out HWw8.out).mono ?_
  rintro e w9 ⟨rfl, hk⟩
  have hkk : Same w8 w9 := hk
  have hzw9 := hkk.size
  have HA0w9 := hid (HA0w8.out.same hkk)
  have HWw9 := hid (HWw8.out.same hkk)
  have HZw9 := hid (HZw8.out.same hkk)
  have HGw9 := hid (HGw8.out.same hkk)
  have HYw9 := hid (HYw8.out.same hkk)
  have HKw9 := (show Hid (Same w w9) from HKw8.out.trans hkk)
  clear hkk hk
  clear A01 A02 lA0
  clear cZ_0 cZ_1 lZ cY_0 cY_1 lY
  have hM2 : ¬ (1 + mzFr Gq) < 0 := by omega
  obtain ⟨M, hM⟩ : ∃ M, 1 + mzFr Gq = M := ⟨_, rfl⟩
  have HM := (show Hid (1 + mzFr Gq = M) from hM)
  have hM3 : 0 ≤ M ∧ M ≤ 1125899906842624 := by omega
  rw [hM] at hM2
  clear hM
  obtain ⟨A01, A02⟩ := HA0w9.out
  have lA0 := HA0w9.out.lt
  have cZ_0 := HZw9.out.c0
  have cZ_1 := HZw9.out.c1
  have lZ := HZw9.out.lt
  have cY_0 := HYw9.out.c0
  have cY_1 := HYw9.out.c1
  have lY := HYw9.out.lt
  go_wp2_with fail
  have hm := markScan2_own (.slice Ga Gq.length Gc) Gq en 1 w9 (by omega) (by rw [HM.out]; omega) (by omega) HGw9.out
  rw [HM.out] at hm
  refine hm.mono ?_
  clear hm
  rintro e w10 ⟨rfl, ho, hk⟩
  have hzw10 := hk.size
  have HA0w10 := (show Hid (Box w10 (w.heap.size) (.slice a0a dur0.length c0a) (.slice a0b ps0.length c0b)) from HA0w9.out.kept hk (fun e => by have h1 := HFG.out _ e; omega))
  have HWw10 := (show Hid (OwnFr w10 (.slice Wa Wq.length Wc) Wq) from HWw9.out.kept hk (fun b hb e => by have h1 := HFG.out _ e; have h2 := HFW.out b hb; omega))
  have HZw10 := (show Hid (Blk w10 (w3.heap.size) 29 [.slice Wa Wq.length Wc, .int .i64 en]) from HZw9.out.kept hk (fun e => by have h1 := HFG.out _ e; omega))
  have HYw10 := (show Hid (Blk w10 (w5.heap.size) 29 [.slice Ga Gq.length Gc, .int .i64 en]) from HYw9.out.kept hk (fun e => by have h1 := HFG.out _ e; omega))
  have HKw10 := (show Hid (Same w w10) from HKw9.out.next hk (fun b hb e => by have h1 := HFG.out _ e; omega))
  have HUw10 := (show Hid (MkFr w10 (.slice Ga Gq.length Gc) Gq 1) from ho)
  clear A01 A02 lA0
  clear cZ_0 cZ_1 lZ cY_0 cY_1 lY
  clear hk ho
  obtain ⟨A01, A02⟩ := HA0w10.out
  have lA0 := HA0w10.out.lt
  have cZ_0 := HZw10.out.c0
  have cZ_1 := HZw10.out.c1
  have lZ := HZw10.out.lt
  have cY_0 := HYw10.out.c0
  have cY_1 := HYw10.out.c1
  have lY := HYw10.out.lt
  go_wp2_with fail
  have hm := heldScan_own (.slice Ga Gq.length Gc) Gq en 1 w10 (by omega) (by rw [HM.out]; omega) (by omega) HUw10.out
  rw [HM.out] at hm
  refine hm.mono ?_
  clear hm
  rintro e w11 ⟨rfl, hk⟩
  have hkk : Same w10 w11 := hk
  have hzw11 := hkk.size
  have HA0w11 := hid (HA0w10.out.same hkk)
  have HWw11 := hid (HWw10.out.same hkk)
  have HZw11 := hid (HZw10.out.same hkk)
  have HYw11 := hid (HYw10.out.same hkk)
  have HUw11 := hid (HUw10.out.same hkk)
  have HKw11 := (show Hid (Same w w11) from HKw10.out.trans hkk)
  clear hkk hk
  clear A01 A02 lA0
  clear cZ_0 cZ_1 lZ cY_0 cY_1 lY
  obtain ⟨A01, A02⟩ := HA0w11.out
  have lA0 := HA0w11.out.lt
  have cZ_0 := HZw11.out.c0
  have cZ_1 := HZw11.out.c1
  have lZ := HZw11.out.lt
  have cY_0 := HYw11.out.c0
  have cY_1 := HYw11.out.c1
  have lY := HYw11.out.lt
  go_wp2_with fail
  refine (toDisk_any _ _ dur0 ps0 _ (by omega) (by omega) (fun p hp => Nat.le_trans (HS0.out p hp) (by omega)) (HV0.out.same HKw11.out)).mono ?_
  rintro e w12 ⟨gJ0, gJ0', qsJ0, rfl, hq, hf, ho, hk⟩
  have HQJ0 : Hid (dataP qsJ0 = dataP ps0) := hq
  have HFJ0 := (show Hid (∀ b, footD (.slice (some ⟨gJ0, 0, none⟩) dur0.length dur0.length) (.slice (some ⟨gJ0', 0, none⟩) ps0.length ps0.length) qsJ0 b → w11.heap.size ≤ b ∧ b < w12.heap.size) from fun b hb => ⟨hf b hb, (ho.lt b hb).2⟩)
  have HJ0w12 := (show Hid (OwnD 0 76 5 w12 (.slice (some ⟨gJ0, 0, none⟩) dur0.length dur0.length) (.slice (some ⟨gJ0', 0, none⟩) ps0.length ps0.length) dur0 qsJ0) from ho)
  clear hf ho hq
  have hkk : Same w11 w12 := hk
  have hzw12 := hkk.size
  have HA0w12 := hid (HA0w11.out.same hkk)
  have HWw12 := hid (HWw11.out.same hkk)
  have HZw12 := hid (HZw11.out.same hkk)
  have HYw12 := hid (HYw11.out.same hkk)
  have HUw12 := hid (HUw11.out.same hkk)
  have HKw12 := (show Hid (Same w w12) from HKw11.out.trans hkk)
  clear hkk hk
  clear A01 A02 lA0
  clear cZ_0 cZ_1 lZ cY_0 cY_1 lY
  obtain ⟨A01, A02⟩ := HA0w12.out
  have lA0 := HA0w12.out.lt
  have cZ_0 := HZw12.out.c0
  have cZ_1 := HZw12.out.c1
  have lZ := HZw12.out.lt
  have cY_0 := HYw12.out.c0
  have cY_1 := HYw12.out.c1
  have lY := HYw12.out.lt
  go_wp2_with fail
  refine (implScan_any _ _ dur0 qsJ0 s1 s2 s3 _ HDB.out.1 (HDB.out.dat HQJ0.out).2 (by omega) (HJ0w12.out.rd)).mono ?_
  rintro e w13 ⟨vL, Lq, enL, rfl, hd, hf, ho, hk⟩
  obtain ⟨La, Lc, rfl⟩ := ho.rd.row.form
  rw [HQJ0.out] at hd
  have HSL := hid (scanA_small HDB.out hd)
  have hnL := HSL.out.1
  have hnL2 := HSL.out.2.2
  have hnL0 := mzFr_nonneg Lq
  have HDL := hid hd
  obtain ⟨hdd, hee⟩ := ScanA.one HDW.out HDL.out
  subst hee
  have HEL := (show Hid (datFr Lq = datFr Wq) from hdd.symm)
  clear hdd
  have HFL := (show Hid (∀ b, footFr (.slice La Lq.length Lc) Lq b → w12.heap.size ≤ b ∧ b < w13.heap.size) from fun b hb => ⟨hf b hb, ho.lt b hb⟩)
  have HLw13 := (show Hid (OwnFr w13 (.slice La Lq.length Lc) Lq) from ho)
  clear hd hf ho
  have hkk : Same w12 w13 := hk
  have hzw13 := hkk.size
  have HA0w13 := hid (HA0w12.out.same hkk)
  have HWw13 := hid (HWw12.out.same hkk)
  have HZw13 := hid (HZw12.out.same hkk)
  have HYw13 := hid (HYw12.out.same hkk)
  have HUw13 := hid (HUw12.out.same hkk)
  have HJ0w13 := hid (HJ0w12.out.same hkk)
  have HKw13 := (show Hid (Same w w13) from HKw12.out.trans hkk)
  clear hkk hk
  clear A01 A02 lA0
  clear cZ_0 cZ_1 lZ cY_0 cY_1 lY
  obtain ⟨A01, A02⟩ := HA0w13.out
  have lA0 := HA0w13.out.lt
  have cZ_0 := HZw13.out.c0
  have cZ_1 := HZw13.out.c1
  have lZ := HZw13.out.lt
  have cY_0 := HYw13.out.c0
  have cY_1 := HYw13.out.c1
  have lY := HYw13.out.lt
  go_wp2_with fail
  refine (eqScan_own _ _ Lq Wq en _ (by omega) HEL.out (fun p hp => by have := HSL.out.2.1 p hp; omega) (HLw13.out.same ((Kept.refl _ _).alloc _)) (HWw13.out.same ((Kept.refl _ _).alloc _))).mono ?_
  rintro e w14 ⟨rfl, hk⟩
  have hkk : Same w13 w14 := ((Kept.refl _ _).alloc _).trans hk
  have hzw14 := hk.size
  rw [World.size_alloc] at hzw14
  have HA0w14 := hid (HA0w13.out.same hkk)
  have HWw14 := hid (HWw13.out.same hkk)
  have HZw14 := hid (HZw13.out.same hkk)
  have HYw14 := hid (HYw13.out.same hkk)
  have HUw14 := hid (HUw13.out.same hkk)
  have HLw14 := hid (HLw13.out.same hkk)
  have HVw14 := (show Hid (Blk w14 (w13.heap.size) 29 [.slice La Lq.length Lc, .int .i64 en]) from (Blk.new w13 #[.slice La Lq.length Lc, .int .i64 en] 29).same hk)
  have HKw14 := (show Hid (Same w w14) from HKw13.out.trans hkk)
  clear hkk hk
  clear A01 A02 lA0
  clear cZ_0 cZ_1 lZ cY_0 cY_1 lY
  obtain ⟨A01, A02⟩ := HA0w14.out
  have lA0 := HA0w14.out.lt
  have cY_0 := HYw14.out.c0
  have cY_1 := HYw14.out.c1
  have lY := HYw14.out.lt
  go_wp2_with fail
  have hm := heldScan_own (.slice Ga Gq.length Gc) Gq en 1 w14 (by omega) (by rw [HM.out]; omega) (by omega) HUw14.out
  rw [HM.out] at hm
  refine hm.mono ?_
  clear hm
  rintro e w15 ⟨rfl, hk⟩
  have hkk : Same w14 w15 := hk
  have hzw15 := hkk.size
  have HA0w15 := hid (HA0w14.out.same hkk)
  have HYw15 := hid (HYw14.out.same hkk)
  have HUw15 := hid (HUw14.out.same hkk)
  have HKw15 := (show Hid (Same w w15) from HKw14.out.trans hkk)
  clear hkk hk
  clear A01 A02 lA0
  clear cY_0 cY_1 lY
  go_wp2
  go_ret
  exact ⟨rfl, HKw15.out⟩
end Go.Proofs.YtaojjcnmififoaaGreat

namespace Go.Proofs.YtaojjcnmififoaaGreat.fnExactScanLog
open Go.ChangeShapes Go.WideShapes Go.ChangeAt Go.RowKit
set_option linter.unusedVariables false
theorem own : ownKnob Tryz.prog.godebug = none := by kernel_rfl
theorem laidOut : laidOutB Tryz.prog = true := by kernel_rfl
set_option maxRecDepth 100000 in
theorem lifted (os : Os) (started : os.Started) (H : Type) (enc : TypeId × Value → H) :
    ReturnsInHanded {} Tryz.checked os 3 .any (Rows.fnExactScanLogSpec.pre6 enc Tryz.prog Tryz.f3 Rows.fnExactScanLogRow.domain false) (Rows.fnExactScanLogSpec.post enc Tryz.prog Tryz.f3 false true false false) := by
  refine returnsInHanded_of_change (C := Tryz.checked) own started (by kernel_rfl) Tryz.func3
    (ChangeSpec.witness6 (enc := enc) (C := Tryz.checked) false ⟨#[], #[.agg #[.slice none 0 0, .slice none 0 0], .int .i64 0, .int .i64 0, .int .i64 0], []⟩ 8 (by kernel_rfl) (by kernel_rfl) (by kernel_rfl) (by kernel_rfl)) ?_
  intro W base args ds gs before hval0 hW hcnd _
  have hval : ∀ (j : Nat) t v, Tryz.f3.params[j]? = some t → args[j]? = some v → Value.okWide Tryz.prog W .any base t v := hval0
  have hW' := hW
  obtain ⟨p, q, hA0, hV, rfl, hfz, hnd⟩ := hW
  have hA : DataW.TrodAll enc Tryz.prog W 0 (fun _ => true) true Tryz.f3.params.toList args.toList ds p := hA0
  rw [Tryz.params3] at hA hval
  obtain ⟨v0, vs0, d0, ds0, p0, q0, hargs, rfl, rfl, h0, r0⟩ := trodAll_cons hA
  obtain ⟨v1, vs1, d1, ds1, p1, q1, rfl, rfl, rfl, h1, r1⟩ := trodAll_cons r0
  obtain ⟨v2, vs2, d2, ds2, p2, q2, rfl, rfl, rfl, h2, r2⟩ := trodAll_cons r1
  obtain ⟨v3, vs3, d3, ds3, p3, q3, rfl, rfl, rfl, h3, r3⟩ := trodAll_cons r2
  obtain ⟨rfl, rfl, rfl⟩ := trodAll_nil r3
  obtain rfl : args = #[v0, v1, v2, v3] := by cases args; simp_all
  obtain ⟨rfl, rfl⟩ := trodVars_none hV
  have k0 := h0
  have lt0 : ∀ x ∈ p0, x.block < W.heap.size := by obtain ⟨m, hm⟩ := k0; exact DataW.trod_lt m _ _ _ hm
  obtain ⟨dv0, pv0, dur0, ps0, rfl, rd0, bd0⟩ := open_diskB (hval 0 25 v0 rfl rfl) h0
  obtain ⟨a1, rfl, rfl, rfl, w1⟩ := open_int Tryz.underlying2 (hval 1 2 v1 rfl rfl) h1
  obtain ⟨a2, rfl, rfl, rfl, w2⟩ := open_int Tryz.underlying2 (hval 2 2 v2 rfl rfl) h2
  obtain ⟨a3, rfl, rfl, rfl, w3⟩ := open_int Tryz.underlying2 (hval 3 2 v3 rfl rfl) h3
  clear hA0 hval0
  refine (scanLog_law dv0 pv0 dur0 ps0 a1 a2 a3 W rd0 bd0).mono fun e W' ⟨he, hk⟩ => ?_
  have bel : Below W.heap.size W W' := hk.below (Nat.le_refl _) (fun _ _ => id)
  subst he
  exact ⟨_, rfl, _, _, _, [], _, [], hW', trodAll_mk1 (shut_bool Tryz.underlying4 _), (trodAll_cons_mk (Below.trod laidOut (by kernel_rfl) (of_decide_eq_true (by kernel_rfl)) k0 bel lt0) (trodAll_cons_mk (shut_int Tryz.underlying2 w1) (trodAll_cons_mk (shut_int Tryz.underlying2 w2) (trodAll_cons_mk (shut_int Tryz.underlying2 w3) trodAll_mk0)))), rfl, bel.frame _, fun h => by cases h⟩
theorem over : Rows.fnExactScanLogRow.holds Tryz.pinned (OpenSpec.ofChange Rows.fnExactScanLogSpec) :=
  OpenClaim.holds_of_wide 3 Tryz.f3 rfl rfl rfl rfl rfl rfl rfl ⟨rfl, rfl, rfl, rfl, rfl⟩ rfl rfl rfl rfl rfl (by kernel_rfl) Tryz.func3 (by kernel_rfl)
    (of_decide_eq_true (by kernel_rfl)) (by unfold Func.isWrapper; first | (rw [if_pos (by decide +kernel)]; kernel_rfl) | (rw [if_neg (by decide +kernel)]; exact ⟨rfl, rfl⟩))
    (fun os started H enc _ => lifted os started H enc)
end Go.Proofs.YtaojjcnmififoaaGreat.fnExactScanLog
namespace Go.Proofs.YtaojjcnmififoaaGreat
theorem scanLog_proved : Rows.FnExactScanLogSaid := fnExactScanLog.over
#print axioms scanLog_proved
end Go.Proofs.YtaojjcnmififoaaGreat
