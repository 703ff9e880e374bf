import Derived.Test.YtabmhcdldfehnaaG13
import Derived.Test.YtabmhcdldfehnaaG00
import Derived.Test.YtabmhcdldfehnaaG03
import Derived.Deep.DeepCutAuto
import Derived.Deep.RegionWith
import Derived.Deep.DeepMust
namespace Go.Proofs.Ytabmhcdldfehnaa
set_option maxRecDepth 100000
set_option maxHeartbeats 16000000
open Go.RowKit
set_option linter.unusedVariables false
theorem poolLoad_law (pv0 : Value) (ps0 : List EFrame) (hand0 : Int) (s1 : Int) (s2 : Int) (v3 : Value) (bs3 : List Int) (w : World) (hv0 : RdR kFrame w pv0 ps0) (hv3 : Rd .u8 w v3 bs3) :
    Calls Try.prog 5 #[.agg #[pv0, .int .i64 hand0], .int .i64 s1, .int .i64 s2, v3] w fun e w' => e = .returned (.bool true) ∧ Same w w' := by
  obtain ⟨a0a, c0a, rfl⟩ := hv0.form
  have HV0 := (show Hid (RdR kFrame w (.slice a0a ps0.length c0a) ps0) from hv0)
  clear hv0
  obtain ⟨a3a, c3a, rfl⟩ := hv3.form
  have hm3 := hv3.1
  unfold maxLen at hm3
  have HV3 := (show Hid (Rd .u8 w (.slice a3a bs3.length c3a) bs3) from hv3)
  clear hv3
  go_enter Try.func5, Try.ntmps5
  have HKw : Hid (Same w w) := Kept.refl _ _
  by_cases hb3 : (1048576 : Int) < (bs3.length : Int)
  · go_wp2
    go_ret
    exact ⟨rfl, by first | exact Kept.refl _ _ | exact (Kept.refl _ _).alloc _ | exact ((Kept.refl _ _).alloc _).alloc _⟩
  go_wp2_with fail
  refine (szPool_any hand0 _ ps0 _ _ (by omega) (by omega) (HV0.out.same ((Kept.refl _ _).alloc _))).mono ?_
  rintro e w1 ⟨sz0, rfl, hr, hk⟩
  have hkk : Same w w1 := ((Kept.refl _ _).alloc _).trans hk
  have hzw1 := hk.size
  rw [World.size_alloc] at hzw1
  have HA0w1 := (show Hid (Blk w1 (w.heap.size) 24 [(.slice a0a ps0.length c0a), .int .i64 hand0]) from (Blk.new w #[(.slice a0a ps0.length c0a), .int .i64 hand0] 24).same hk)
  have HKw1 := (show Hid (Same w w1) from HKw.out.trans hkk)
  clear hkk hk
  rcases hr with rfl | ⟨hr, hr0⟩
  · go_wp2
    go_ret
    exact ⟨rfl, HKw1.out⟩
  have hp0 : ps0.length ≤ 1048576 := by omega
  have hsz0 : sizeFrameS ps0 ≤ 1048576 := by omega
  have HS0 : Hid (∀ p ∈ ps0, p.bs.length ≤ 1048576) := fun p hp => by have := sizeFrameS_mem ps0 p hp; omega
  have HT0 : Hid (∀ qs : List EFrame, datFrameS qs = datFrameS ps0 → qs.length ≤ 1048576 ∧ ∀ p ∈ qs, p.bs.length ≤ 1048576) := fun qs hq => ⟨by rw [← datFrameS_length, hq, datFrameS_length]; omega, fun p hp => by have := sizeFrameS_mem qs p hp; rw [datFrameS_size hq] at this; omega⟩
  clear hr
  have cA0_0 := HA0w1.out.c0
  have cA0_1 := HA0w1.out.c1
  have lA0 := HA0w1.out.lt
  go_wp2_with fail
  refine (toPool_any hand0 _ ps0 _ (by omega) (fun p hp => Nat.le_trans (HS0.out p hp) (by omega)) (HV0.out.same HKw1.out)).mono ?_
  rintro e w2 ⟨gC0, qsC0, rfl, hq, hf, ho, hk⟩
  have HQC0 : Hid (datFrameS qsC0 = datFrameS ps0) := hq
  have HFC0 := (show Hid (∀ b, footR kFrame (.slice (some ⟨gC0, 0, none⟩) ps0.length ps0.length) qsC0 b → w1.heap.size ≤ b ∧ b < w2.heap.size) from fun b hb => ⟨hf b hb, (ho.lt b hb).2⟩)
  have HC0w2 := (show Hid (OwnR kFrame 0 51 5 w2 (.slice (some ⟨gC0, 0, none⟩) ps0.length ps0.length) qsC0) from ho)
  clear hf ho hq
  have hkk : Same w1 w2 := hk
  have hzw2 := hkk.size
  have HA0w2 := hid (HA0w1.out.same hkk)
  have HKw2 := (show Hid (Same w w2) from HKw1.out.trans hkk)
  clear hkk hk
  clear cA0_0 cA0_1 lA0
  have cA0_0 := HA0w2.out.c0
  have cA0_1 := HA0w2.out.c1
  have lA0 := HA0w2.out.lt
  go_wp2_with fail
  refine (toByteS_any _ bs3 _ (by omega) (HV3.out.same HKw2.out)).mono ?_
  rintro e w3 ⟨gC3, rfl, hf, ho, hk⟩
  have hf : ∀ b, (Value.slice (some ⟨gC3, 0, none⟩) bs3.length bs3.length).ownBlock = some b → _ ≤ b := fun b hb => by rw [← (Option.some.inj hb : gC3 = b)]; exact hf
  have HFC3 := (show Hid (∀ b, (Value.slice (some ⟨gC3, 0, none⟩) bs3.length bs3.length).ownBlock = some b → w2.heap.size ≤ b ∧ b < w3.heap.size) from fun b hb => ⟨hf b hb, (ho.lt b hb).2⟩)
  have HC3w3 := (show Hid (Own 0 5 .u8 w3 (.slice (some ⟨gC3, 0, none⟩) bs3.length bs3.length) bs3) from ho)
  clear hf ho
  have hkk : Same w2 w3 := hk
  have hzw3 := hkk.size
  have HA0w3 := hid (HA0w2.out.same hkk)
  have HC0w3 := hid (HC0w2.out.same hkk)
  have HKw3 := (show Hid (Same w w3) from HKw2.out.trans hkk)
  clear hkk hk
  clear cA0_0 cA0_1 lA0
  have cA0_0 := HA0w3.out.c0
  have cA0_1 := HA0w3.out.c1
  have lA0 := HA0w3.out.lt
  go_wp2_with fail
  refine (specPoolLoad_any _ hand0 s1 s2 _ bs3 qsC0 _ (HC0w3.out.rd) (by omega) (HC3w3.out.rd)).mono ?_
  rintro e w4 ⟨cdW, frW, aW, nW, cW, hdW, qsW, rfl, hR, hf, ho, hk⟩
  rw [loadP_dat HQC0.out] at hR
  have HR := (show Hid ((cdW, frW, hdW, datFrameS qsW) = loadP ps0 hand0 s1 s2 bs3) from hR)
  have HSM := (show Hid (SmallF (datFrameS qsW)) from loadP_small HR.out)
  have HFW := (show Hid (∀ b, footR kFrame (.slice aW nW cW) qsW b → w3.heap.size ≤ b ∧ b < w4.heap.size) from fun b hb => ⟨hf b hb, (ho.lt b hb).2⟩)
  have HWw4 := (show Hid (OwnR kFrame 0 51 5 w4 (.slice aW nW cW) qsW) from ho)
  clear hf ho hR
  have hkk : Same w3 w4 := hk
  have hzw4 := hkk.size
  have HA0w4 := hid (HA0w3.out.same hkk)
  have HC0w4 := hid (HC0w3.out.same hkk)
  have HC3w4 := hid (HC3w3.out.same hkk)
  have HKw4 := (show Hid (Same w w4) from HKw3.out.trans hkk)
  clear hkk hk
  clear cA0_0 cA0_1 lA0
  have cA0_0 := HA0w4.out.c0
  have cA0_1 := HA0w4.out.c1
  have lA0 := HA0w4.out.lt
  go_wp2_with fail
  refine (toPool_any hand0 _ ps0 _ (by omega) (fun p hp => Nat.le_trans (HS0.out p hp) (by omega)) (HV0.out.same (HKw4.out.alloc _))).mono ?_
  rintro e w5 ⟨gX0, qsX0, rfl, hq, hf, ho, hk⟩
  have HQX0 : Hid (datFrameS qsX0 = datFrameS ps0) := hq
  simp only [World.size_alloc] at hf
  have HFX0 := (show Hid (∀ b, footR kFrame (.slice (some ⟨gX0, 0, none⟩) ps0.length ps0.length) qsX0 b → w4.heap.size < b ∧ b < w5.heap.size) from fun b hb => ⟨by have := hf b hb; omega, (ho.lt b hb).2⟩)
  have HX0w5 := (show Hid (OwnR kFrame 0 51 5 w5 (.slice (some ⟨gX0, 0, none⟩) ps0.length ps0.length) qsX0) from ho)
  clear hf ho hq
  have hkk : Same w4 w5 := ((Kept.refl _ _).alloc _).trans hk
  have hzw5 := hk.size
  rw [World.size_alloc] at hzw5
  have HA0w5 := hid (HA0w4.out.same hkk)
  have HWw5 := hid (HWw4.out.same hkk)
  have HZw5 := (show Hid (Blk w5 (w4.heap.size) 37 [.int .i64 cdW, .int .i64 frW, (.slice aW nW cW), .int .i64 hdW]) from (Blk.new w4 #[.int .i64 cdW, .int .i64 frW, (.slice aW nW cW), .int .i64 hdW] 37).same hk)
  have HKw5 := (show Hid (Same w w5) from HKw4.out.trans hkk)
  clear hkk hk
  clear cA0_0 cA0_1 lA0
  have cA0_0 := HA0w5.out.c0
  have cA0_1 := HA0w5.out.c1
  have lA0 := HA0w5.out.lt
  have cZ_0 := HZw5.out.c0
  have cZ_1 := HZw5.out.c1
  have cZ_2 := HZw5.out.c2
  have cZ_3 := HZw5.out.c3
  have lZ := HZw5.out.lt
  go_wp2_with fail
  refine (toByteS_any _ bs3 _ (by omega) (HV3.out.same (HKw5.out.alloc _))).mono ?_
  rintro e w6 ⟨gX3, rfl, hf, ho, hk⟩
  have hf : ∀ b, (Value.slice (some ⟨gX3, 0, none⟩) bs3.length bs3.length).ownBlock = some b → _ ≤ b := fun b hb => by rw [← (Option.some.inj hb : gX3 = b)]; exact hf
  simp only [World.size_alloc] at hf
  have HFX3 := (show Hid (∀ b, (Value.slice (some ⟨gX3, 0, none⟩) bs3.length bs3.length).ownBlock = some b → w5.heap.size < b ∧ b < w6.heap.size) from fun b hb => ⟨by have := hf b hb; omega, (ho.lt b hb).2⟩)
  have HX3w6 := (show Hid (Own 0 5 .u8 w6 (.slice (some ⟨gX3, 0, none⟩) bs3.length bs3.length) bs3) from ho)
  clear hf ho
  have hkk : Same w5 w6 := ((Kept.refl _ _).alloc _).trans hk
  have hzw6 := hk.size
  rw [World.size_alloc] at hzw6
  have HA0w6 := hid (HA0w5.out.same hkk)
  have HWw6 := hid (HWw5.out.same hkk)
  have HZw6 := hid (HZw5.out.same hkk)
  have HX0w6 := hid (HX0w5.out.same hkk)
  have HT0w6 := (show Hid (Blk w6 (w5.heap.size) 29 [(.slice (some ⟨gX0, 0, none⟩) ps0.length ps0.length), .int .i64 hand0]) from (Blk.new w5 #[(.slice (some ⟨gX0, 0, none⟩) ps0.length ps0.length), .int .i64 hand0] 29).same hk)
  have HKw6 := (show Hid (Same w w6) from HKw5.out.trans hkk)
  clear hkk hk
  clear cA0_0 cA0_1 lA0 cZ_0 cZ_1 cZ_2 cZ_3 lZ
  have cA0_0 := HA0w6.out.c0
  have cA0_1 := HA0w6.out.c1
  have lA0 := HA0w6.out.lt
  have cZ_0 := HZw6.out.c0
  have cZ_1 := HZw6.out.c1
  have cZ_2 := HZw6.out.c2
  have cZ_3 := HZw6.out.c3
  have lZ := HZw6.out.lt
  have cT0_0 := HT0w6.out.c0
  have cT0_1 := HT0w6.out.c1
  have lT0 := HT0w6.out.lt
  go_wp2_with fail
  refine (implPoolLoad_any _ hand0 s1 s2 _ bs3 qsX0 _ (HX0w6.out.rd) (by omega) (HX3w6.out.rd)).mono ?_
  rintro e w7 ⟨cdG, frG, aG, nG, cG, hdG, qsG, rfl, hR, hf, ho, hk⟩
  rw [loadP_dat HQX0.out] at hR
  have hR2 := hR.trans HR.out.symm
  simp only [Prod.mk.injEq] at hR2
  obtain ⟨hR3, hR4, hR5, hR6⟩ := hR2
  have hR3 := hR3.symm
  have hR4 := hR4.symm
  have hR5 := hR5.symm
  subst hR3 hR4 hR5
  have HQG : Hid (datFrameS qsG = datFrameS qsW) := hR6
  clear hR6
  have HFG := (show Hid (∀ b, footR kFrame (.slice aG nG cG) qsG b → w6.heap.size ≤ b ∧ b < w7.heap.size) from fun b hb => ⟨hf b hb, (ho.lt b hb).2⟩)
  have HGw7 := (show Hid (OwnR kFrame 0 51 5 w7 (.slice aG nG cG) qsG) from ho)
  clear hf ho hR
  have hkk : Same w6 w7 := hk
  have hzw7 := hkk.size
  have HA0w7 := hid (HA0w6.out.same hkk)
  have HWw7 := hid (HWw6.out.same hkk)
  have HZw7 := hid (HZw6.out.same hkk)
  have HX0w7 := hid (HX0w6.out.same hkk)
  have HT0w7 := hid (HT0w6.out.same hkk)
  have HX3w7 := hid (HX3w6.out.same hkk)
  have HKw7 := (show Hid (Same w w7) from HKw6.out.trans hkk)
  clear hkk hk
  clear cA0_0 cA0_1 lA0 cZ_0 cZ_1 cZ_2 cZ_3 lZ cT0_0 cT0_1 lT0
  have cA0_0 := HA0w7.out.c0
  have cA0_1 := HA0w7.out.c1
  have lA0 := HA0w7.out.lt
  have cZ_0 := HZw7.out.c0
  have cZ_1 := HZw7.out.c1
  have cZ_2 := HZw7.out.c2
  have cZ_3 := HZw7.out.c3
  have lZ := HZw7.out.lt
  have cT0_0 := HT0w7.out.c0
  have cT0_1 := HT0w7.out.c1
  have lT0 := HT0w7.out.lt
  go_wp2_with fail
  refine (eqPoolResult_own 0 cdW frW hdW _ _ qsG qsW _ (Nat.le_trans (HSM.out.of qsG HQG.out).1 (by omega)) HQG.out (fun p hp => Nat.le_trans ((HSM.out.of qsG HQG.out).2.1 p hp) (by omega)) (HGw7.out.same ((Kept.refl _ _).alloc _)) (HWw7.out.same ((Kept.refl _ _).alloc _))).mono ?_
  rintro e w8 ⟨rfl, hk⟩
  have hkk : Same w7 w8 := ((Kept.refl _ _).alloc _).trans hk
  have hzw8 := hk.size
  rw [World.size_alloc] at hzw8
  have HA0w8 := hid (HA0w7.out.same hkk)
  have HWw8 := hid (HWw7.out.same hkk)
  have HZw8 := hid (HZw7.out.same hkk)
  have HX0w8 := hid (HX0w7.out.same hkk)
  have HT0w8 := hid (HT0w7.out.same hkk)
  have HX3w8 := hid (HX3w7.out.same hkk)
  have HGw8 := hid (HGw7.out.same hkk)
  have HYw8 := (show Hid (Blk w8 (w7.heap.size) 37 [.int .i64 cdW, .int .i64 frW, (.slice aG nG cG), .int .i64 hdW]) from (Blk.new w7 #[.int .i64 cdW, .int .i64 frW, (.slice aG nG cG), .int .i64 hdW] 37).same hk)
  have HKw8 := (show Hid (Same w w8) from HKw7.out.trans hkk)
  clear hkk hk
  clear cA0_0 cA0_1 lA0 cZ_0 cZ_1 cZ_2 cZ_3 lZ cT0_0 cT0_1 lT0
  have cA0_0 := HA0w8.out.c0
  have cA0_1 := HA0w8.out.c1
  have lA0 := HA0w8.out.lt
  have cZ_0 := HZw8.out.c0
  have cZ_1 := HZw8.out.c1
  have cZ_2 := HZw8.out.c2
  have cZ_3 := HZw8.out.c3
  have lZ := HZw8.out.lt
  have cT0_0 := HT0w8.out.c0
  have cT0_1 := HT0w8.out.c1
  have lT0 := HT0w8.out.lt
  have cY_0 := HYw8.out.c0
  have cY_1 := HYw8.out.c1
  have cY_2 := HYw8.out.c2
  have cY_3 := HYw8.out.c3
  have lY := HYw8.out.lt
  go_wp2_with fail
  go_cut [50] (fun v wc => v = .bool false ∧ Hid (Same w8 wc))
  case first =>
    have HD1 : Hid (Same w w8.drew) := HKw8.out.drew
    have HD2 : Hid (Same w8 w8.drew) := (Kept.refl _ _).drew
    go_region_with (first | (go_at_call 11; refine (toPool_any hand0 _ ps0 _ (by omega) (fun p hp => Nat.le_trans (HS0.out p hp) (by omega)) (by exact HV0.out.same HD1.out)).mono ?_; rintro e wx7 ⟨g3, qs7, rfl, hq3, hf3, ho3, hk7⟩; have HO7 := (show Hid (OwnR kFrame 0 51 5 wx7 (.slice (some ⟨g3, 0, none⟩) ps0.length ps0.length) qs7) from ho3); have HQ7 : Hid (datFrameS qs7 = datFrameS ps0) := hq3; have HK7 : Hid (Same w8 wx7) := HD2.out.trans hk7; clear ho3 hq3 hf3 hk7; have y0 : wx7.cell? ⟨w5.heap.size, 0, none⟩ = some ((.slice (some ⟨gX0, 0, none⟩) ps0.length ps0.length)) := (HT0w8.out.same HK7.out).cell 0; have y1 : wx7.cell? ⟨w5.heap.size, 1, none⟩ = some (.int .i64 hand0) := (HT0w8.out.same HK7.out).cell 1) | (go_at_call 13; refine (eqPool_own 0 hand0 _ _ qsX0 qs7 _ (by have h := (HT0.out qsX0 HQX0.out).1; omega) (HQX0.out.trans HQ7.out.symm) (fun p hp => Nat.le_trans ((HT0.out qsX0 HQX0.out).2 p hp) (by omega)) (HX0w8.out.same HK7.out) HO7.out).mono ?_; rintro e wx8 ⟨rfl, hk8⟩))
    all_goals
      have HK8 : Hid (Same w8 wx8) := HK7.out.trans hk8
      clear hk8
      go_wp2_with fail
      go_meet
      case rel => exact ⟨rfl, HK8⟩
  case rest =>
  obtain ⟨rfl, HKC⟩ := hcut
  obtain ⟨w9, hwc⟩ : ∃ x, x = wc := ⟨_, rfl⟩
  subst hwc
  clear cA0_0 cA0_1 lA0 cZ_0 cZ_1 cZ_2 cZ_3 lZ cT0_0 cT0_1 lT0 cY_0 cY_1 cY_2 cY_3 lY
  have hkk : Same w8 w9 := HKC.out
  have hzw9 := hkk.size
  have HA0w9 := hid (HA0w8.out.same hkk)
  have HWw9 := hid (HWw8.out.same hkk)
  have HZw9 := hid (HZw8.out.same hkk)
  have HX0w9 := hid (HX0w8.out.same hkk)
  have HT0w9 := hid (HT0w8.out.same hkk)
  have HX3w9 := hid (HX3w8.out.same hkk)
  have HGw9 := hid (HGw8.out.same hkk)
  have HYw9 := hid (HYw8.out.same hkk)
  have HKw9 := (show Hid (Same w w9) from HKw8.out.trans hkk)
  clear hkk
  have cA0_0 := HA0w9.out.c0
  have cA0_1 := HA0w9.out.c1
  have lA0 := HA0w9.out.lt
  have cZ_0 := HZw9.out.c0
  have cZ_1 := HZw9.out.c1
  have cZ_2 := HZw9.out.c2
  have cZ_3 := HZw9.out.c3
  have lZ := HZw9.out.lt
  have cT0_0 := HT0w9.out.c0
  have cT0_1 := HT0w9.out.c1
  have lT0 := HT0w9.out.lt
  have cY_0 := HYw9.out.c0
  have cY_1 := HYw9.out.c1
  have cY_2 := HYw9.out.c2
  have cY_3 := HYw9.out.c3
  have lY := HYw9.out.lt
  go_wp2_with fail
  refine (toByteS_any _ bs3 _ (by omega) (HV3.out.same HKw9.out)).mono ?_
  rintro e w10 ⟨gD3, rfl, hf, ho, hk⟩
  have hf : ∀ b, (Value.slice (some ⟨gD3, 0, none⟩) bs3.length bs3.length).ownBlock = some b → _ ≤ b := fun b hb => by rw [← (Option.some.inj hb : gD3 = b)]; exact hf
  have HFD3 := (show Hid (∀ b, (Value.slice (some ⟨gD3, 0, none⟩) bs3.length bs3.length).ownBlock = some b → w9.heap.size ≤ b ∧ b < w10.heap.size) from fun b hb => ⟨hf b hb, (ho.lt b hb).2⟩)
  have HD3w10 := (show Hid (Own 0 5 .u8 w10 (.slice (some ⟨gD3, 0, none⟩) bs3.length bs3.length) bs3) from ho)
  clear hf ho
  have hkk : Same w9 w10 := hk
  have hzw10 := hkk.size
  have HA0w10 := hid (HA0w9.out.same hkk)
  have HWw10 := hid (HWw9.out.same hkk)
  have HZw10 := hid (HZw9.out.same hkk)
  have HX0w10 := hid (HX0w9.out.same hkk)
  have HT0w10 := hid (HT0w9.out.same hkk)
  have HX3w10 := hid (HX3w9.out.same hkk)
  have HGw10 := hid (HGw9.out.same hkk)
  have HYw10 := hid (HYw9.out.same hkk)
  have HKw10 := (show Hid (Same w w10) from HKw9.out.trans hkk)
  clear hkk hk
  clear cA0_0 cA0_1 lA0 cZ_0 cZ_1 cZ_2 cZ_3 lZ cT0_0 cT0_1 lT0 cY_0 cY_1 cY_2 cY_3 lY
  have cA0_0 := HA0w10.out.c0
  have cA0_1 := HA0w10.out.c1
  have lA0 := HA0w10.out.lt
  have cZ_0 := HZw10.out.c0
  have cZ_1 := HZw10.out.c1
  have cZ_2 := HZw10.out.c2
  have cZ_3 := HZw10.out.c3
  have lZ := HZw10.out.lt
  have cT0_0 := HT0w10.out.c0
  have cT0_1 := HT0w10.out.c1
  have lT0 := HT0w10.out.lt
  have cY_0 := HYw10.out.c0
  have cY_1 := HYw10.out.c1
  have cY_2 := HYw10.out.c2
  have cY_3 := HYw10.out.c3
  have lY := HYw10.out.lt
  go_wp2_with fail
  refine (eqByteS_own 0 _ _ bs3 _ (by omega) HX3w10.out HD3w10.out).mono ?_
  rintro e w11 ⟨rfl, nn, hww⟩
  have hk : Same w10 w11 := by rw [hww]; exact (Kept.refl _ _).drewN _
  clear hww
  have hkk : Same w10 w11 := hk
  have hzw11 := hkk.size
  have HA0w11 := hid (HA0w10.out.same hkk)
  have HWw11 := hid (HWw10.out.same hkk)
  have HZw11 := hid (HZw10.out.same hkk)
  have HX0w11 := hid (HX0w10.out.same hkk)
  have HT0w11 := hid (HT0w10.out.same hkk)
  have HX3w11 := hid (HX3w10.out.same hkk)
  have HGw11 := hid (HGw10.out.same hkk)
  have HYw11 := hid (HYw10.out.same hkk)
  have HKw11 := (show Hid (Same w w11) from HKw10.out.trans hkk)
  clear hkk hk
  clear cA0_0 cA0_1 lA0 cZ_0 cZ_1 cZ_2 cZ_3 lZ cT0_0 cT0_1 lT0 cY_0 cY_1 cY_2 cY_3 lY
  have hE0 : (0 : Int) ≤ 1 := by omega
  have hE0b : (1 : Int) ≤ 1 := by omega
  have hqlX0 := (HT0.out qsX0 HQX0.out).1
  obtain ⟨E1, hE⟩ : ∃ E, endR mFrame 1 qsX0 = E := ⟨_, rfl⟩
  have hE1 : 0 ≤ E1 := by rw [← hE, endFrameS_size]; omega
  have hE1b : E1 ≤ 7000001 := by rw [← hE, endFrameS_size, datFrameS_size HQX0.out]; omega
  have HE1 : Hid (endR mFrame 1 qsX0 = E1) := hE
  clear hE
  have cA0_0 := HA0w11.out.c0
  have cA0_1 := HA0w11.out.c1
  have lA0 := HA0w11.out.lt
  have cZ_0 := HZw11.out.c0
  have cZ_1 := HZw11.out.c1
  have cZ_2 := HZw11.out.c2
  have cZ_3 := HZw11.out.c3
  have lZ := HZw11.out.lt
  have cT0_0 := HT0w11.out.c0
  have cT0_1 := HT0w11.out.c1
  have lT0 := HT0w11.out.lt
  have cY_0 := HYw11.out.c0
  have cY_1 := HYw11.out.c1
  have cY_2 := HYw11.out.c2
  have cY_3 := HYw11.out.c3
  have lY := HYw11.out.lt
  go_wp2_with fail
  have hm := markPool_own hand0 (.slice (some ⟨gX0, 0, none⟩) ps0.length ps0.length) qsX0 1 w11 (by omega) (by rw [HE1.out]; omega) (by omega) HX0w11.out
  rw [HE1.out] at hm
  refine hm.mono ?_
  clear hm
  rintro e w12 ⟨rfl, _, hk⟩
  have hzw12 := hk.size
  have HA0w12 := (show Hid (Blk w12 (w.heap.size) 24 [(.slice a0a ps0.length c0a), .int .i64 hand0]) from HA0w11.out.kept hk (fun e => by have h1 := HFX0.out _ e; omega))
  have HWw12 := (show Hid (OwnR kFrame 0 51 5 w12 (.slice aW nW cW) qsW) from HWw11.out.kept hk (fun b hb e => by have h1 := HFX0.out _ e; have h2 := HFW.out b hb; omega))
  have HZw12 := (show Hid (Blk w12 (w4.heap.size) 37 [.int .i64 cdW, .int .i64 frW, (.slice aW nW cW), .int .i64 hdW]) from HZw11.out.kept hk (fun e => by have h1 := HFX0.out _ e; omega))
  have HT0w12 := (show Hid (Blk w12 (w5.heap.size) 29 [(.slice (some ⟨gX0, 0, none⟩) ps0.length ps0.length), .int .i64 hand0]) from HT0w11.out.kept hk (fun e => by have h1 := HFX0.out _ e; omega))
  have HX3w12 := (show Hid (Own 0 5 .u8 w12 (.slice (some ⟨gX3, 0, none⟩) bs3.length bs3.length) bs3) from HX3w11.out.kept hk (fun b hb e => by have h1 := HFX0.out _ e; have h2 := HFX3.out b hb; omega))
  have HGw12 := (show Hid (OwnR kFrame 0 51 5 w12 (.slice aG nG cG) qsG) from HGw11.out.kept hk (fun b hb e => by have h1 := HFX0.out _ e; have h2 := HFG.out b hb; omega))
  have HYw12 := (show Hid (Blk w12 (w7.heap.size) 37 [.int .i64 cdW, .int .i64 frW, (.slice aG nG cG), .int .i64 hdW]) from HYw11.out.kept hk (fun e => by have h1 := HFX0.out _ e; omega))
  have HKw12 := (show Hid (Same w w12) from HKw11.out.next hk (fun b hb e => by have h1 := HFX0.out _ e; omega))
  clear cA0_0 cA0_1 lA0 cZ_0 cZ_1 cZ_2 cZ_3 lZ cT0_0 cT0_1 lT0 cY_0 cY_1 cY_2 cY_3 lY
  clear hk
  have cA0_0 := HA0w12.out.c0
  have cA0_1 := HA0w12.out.c1
  have lA0 := HA0w12.out.lt
  have cZ_0 := HZw12.out.c0
  have cZ_1 := HZw12.out.c1
  have cZ_2 := HZw12.out.c2
  have cZ_3 := HZw12.out.c3
  have lZ := HZw12.out.lt
  have cT0_0 := HT0w12.out.c0
  have cT0_1 := HT0w12.out.c1
  have lT0 := HT0w12.out.lt
  have cY_0 := HYw12.out.c0
  have cY_1 := HYw12.out.c1
  have cY_2 := HYw12.out.c2
  have cY_3 := HYw12.out.c3
  have lY := HYw12.out.lt
  go_wp2_with fail
  refine (markByteS_own 0 _ bs3 E1 _ (by omega) (by omega) (by omega) HX3w12.out).mono ?_
  rintro e w13 ⟨rfl, _, hk⟩
  obtain ⟨E2, hE⟩ : ∃ E : Int, E1 + (bs3.length : Int) = E := ⟨_, rfl⟩
  have hE2 : 0 ≤ E2 := by omega
  have hE2b : E2 ≤ 14000001 := by omega
  rw [hE]
  clear hE
  have hzw13 := hk.size
  have HA0w13 := (show Hid (Blk w13 (w.heap.size) 24 [(.slice a0a ps0.length c0a), .int .i64 hand0]) from HA0w12.out.kept hk (fun e => by have h1 := HFX3.out _ e; omega))
  have HWw13 := (show Hid (OwnR kFrame 0 51 5 w13 (.slice aW nW cW) qsW) from HWw12.out.kept hk (fun b hb e => by have h1 := HFX3.out _ e; have h2 := HFW.out b hb; omega))
  have HZw13 := (show Hid (Blk w13 (w4.heap.size) 37 [.int .i64 cdW, .int .i64 frW, (.slice aW nW cW), .int .i64 hdW]) from HZw12.out.kept hk (fun e => by have h1 := HFX3.out _ e; omega))
  have HT0w13 := (show Hid (Blk w13 (w5.heap.size) 29 [(.slice (some ⟨gX0, 0, none⟩) ps0.length ps0.length), .int .i64 hand0]) from HT0w12.out.kept hk (fun e => by have h1 := HFX3.out _ e; omega))
  have HGw13 := (show Hid (OwnR kFrame 0 51 5 w13 (.slice aG nG cG) qsG) from HGw12.out.kept hk (fun b hb e => by have h1 := HFX3.out _ e; have h2 := HFG.out b hb; omega))
  have HYw13 := (show Hid (Blk w13 (w7.heap.size) 37 [.int .i64 cdW, .int .i64 frW, (.slice aG nG cG), .int .i64 hdW]) from HYw12.out.kept hk (fun e => by have h1 := HFX3.out _ e; omega))
  have HKw13 := (show Hid (Same w w13) from HKw12.out.next hk (fun b hb e => by have h1 := HFX3.out _ e; omega))
  clear cA0_0 cA0_1 lA0 cZ_0 cZ_1 cZ_2 cZ_3 lZ cT0_0 cT0_1 lT0 cY_0 cY_1 cY_2 cY_3 lY
  clear hk
  have hEn : ¬ E2 < 0 := by omega
  have cA0_0 := HA0w13.out.c0
  have cA0_1 := HA0w13.out.c1
  have lA0 := HA0w13.out.lt
  have cZ_0 := HZw13.out.c0
  have cZ_1 := HZw13.out.c1
  have cZ_2 := HZw13.out.c2
  have cZ_3 := HZw13.out.c3
  have lZ := HZw13.out.lt
  have cY_0 := HYw13.out.c0
  have cY_1 := HYw13.out.c1
  have cY_2 := HYw13.out.c2
  have cY_3 := HYw13.out.c3
  have lY := HYw13.out.lt
  go_wp2_with fail
  refine (eqPoolResult_own 0 cdW frW hdW _ _ qsG qsW _ (Nat.le_trans (HSM.out.of qsG HQG.out).1 (by omega)) HQG.out (fun p hp => Nat.le_trans ((HSM.out.of qsG HQG.out).2.1 p hp) (by omega)) HGw13.out HWw13.out).mono ?_
  rintro e w14 ⟨rfl, hk⟩
  have hkk : Same w13 w14 := hk
  have hzw14 := hkk.size
  have HA0w14 := hid (HA0w13.out.same hkk)
  have HWw14 := hid (HWw13.out.same hkk)
  have HZw14 := hid (HZw13.out.same hkk)
  have HGw14 := hid (HGw13.out.same hkk)
  have HYw14 := hid (HYw13.out.same hkk)
  have HKw14 := (show Hid (Same w w14) from HKw13.out.trans hkk)
  clear hkk hk
  clear cA0_0 cA0_1 lA0 cZ_0 cZ_1 cZ_2 cZ_3 lZ cY_0 cY_1 cY_2 cY_3 lY
  obtain ⟨hgl, _, hg0, hg1⟩ := HSM.out.of qsG HQG.out
  obtain ⟨M, hM⟩ : ∃ M, endR mFrame 1 qsG = M := ⟨_, rfl⟩
  rw [hM] at hg0 hg1
  have HM : Hid (endR mFrame 1 qsG = M) := hM
  clear hM
  have hM2 : ¬ M < 0 := by omega
  have cA0_0 := HA0w14.out.c0
  have cA0_1 := HA0w14.out.c1
  have lA0 := HA0w14.out.lt
  have cZ_0 := HZw14.out.c0
  have cZ_1 := HZw14.out.c1
  have cZ_2 := HZw14.out.c2
  have cZ_3 := HZw14.out.c3
  have lZ := HZw14.out.lt
  have cY_0 := HYw14.out.c0
  have cY_1 := HYw14.out.c1
  have cY_2 := HYw14.out.c2
  have cY_3 := HYw14.out.c3
  have lY := HYw14.out.lt
  go_wp2_with fail
  have hm := markPoolResult_own cdW frW hdW (.slice aG nG cG) qsG 1 w14 (by omega) (by rw [HM.out]; exact hg1) (by omega) HGw14.out
  rw [HM.out] at hm
  refine hm.mono ?_
  clear hm
  rintro e w15 ⟨rfl, ho, hk⟩
  have hzw15 := hk.size
  have HA0w15 := (show Hid (Blk w15 (w.heap.size) 24 [(.slice a0a ps0.length c0a), .int .i64 hand0]) from HA0w14.out.kept hk (fun e => by have h1 := HFG.out _ e; omega))
  have HWw15 := (show Hid (OwnR kFrame 0 51 5 w15 (.slice aW nW cW) qsW) from HWw14.out.kept hk (fun b hb e => by have h1 := HFG.out _ e; have h2 := HFW.out b hb; omega))
  have HZw15 := (show Hid (Blk w15 (w4.heap.size) 37 [.int .i64 cdW, .int .i64 frW, (.slice aW nW cW), .int .i64 hdW]) from HZw14.out.kept hk (fun e => by have h1 := HFG.out _ e; omega))
  have HYw15 := (show Hid (Blk w15 (w7.heap.size) 37 [.int .i64 cdW, .int .i64 frW, (.slice aG nG cG), .int .i64 hdW]) from HYw14.out.kept hk (fun e => by have h1 := HFG.out _ e; omega))
  have HKw15 := (show Hid (Same w w15) from HKw14.out.next hk (fun b hb e => by have h1 := HFG.out _ e; omega))
  have HUw15 := (show Hid (OwnR kFrame 0 51 5 w15 (.slice aG nG cG) (markR mFrame 1 qsG)) from ho)
  clear cA0_0 cA0_1 lA0 cZ_0 cZ_1 cZ_2 cZ_3 lZ cY_0 cY_1 cY_2 cY_3 lY
  clear hk ho
  have cA0_0 := HA0w15.out.c0
  have cA0_1 := HA0w15.out.c1
  have lA0 := HA0w15.out.lt
  have cZ_0 := HZw15.out.c0
  have cZ_1 := HZw15.out.c1
  have cZ_2 := HZw15.out.c2
  have cZ_3 := HZw15.out.c3
  have lZ := HZw15.out.lt
  have cY_0 := HYw15.out.c0
  have cY_1 := HYw15.out.c1
  have cY_2 := HYw15.out.c2
  have cY_3 := HYw15.out.c3
  have lY := HYw15.out.lt
  go_wp2_with fail
  have hm := heldPoolResult_own cdW frW hdW (.slice aG nG cG) qsG 1 w15 (by omega) (by rw [HM.out]; exact hg1) (by omega) HUw15.out
  rw [HM.out] at hm
  refine hm.mono ?_
  clear hm
  rintro e w16 ⟨rfl, hk⟩
  have hkk : Same w15 w16 := hk
  have hzw16 := hkk.size
  have HA0w16 := hid (HA0w15.out.same hkk)
  have HWw16 := hid (HWw15.out.same hkk)
  have HZw16 := hid (HZw15.out.same hkk)
  have HYw16 := hid (HYw15.out.same hkk)
  have HUw16 := hid (HUw15.out.same hkk)
  have HKw16 := (show Hid (Same w w16) from HKw15.out.trans hkk)
  clear hkk hk
  clear cA0_0 cA0_1 lA0 cZ_0 cZ_1 cZ_2 cZ_3 lZ cY_0 cY_1 cY_2 cY_3 lY
  have cA0_0 := HA0w16.out.c0
  have cA0_1 := HA0w16.out.c1
  have lA0 := HA0w16.out.lt
  have cZ_0 := HZw16.out.c0
  have cZ_1 := HZw16.out.c1
  have cZ_2 := HZw16.out.c2
  have cZ_3 := HZw16.out.c3
  have lZ := HZw16.out.lt
  have cY_0 := HYw16.out.c0
  have cY_1 := HYw16.out.c1
  have cY_2 := HYw16.out.c2
  have cY_3 := HYw16.out.c3
  have lY := HYw16.out.lt
  go_wp2_with fail
  refine (toPool_any hand0 _ ps0 _ (by omega) (fun p hp => Nat.le_trans (HS0.out p hp) (by omega)) (HV0.out.same HKw16.out)).mono ?_
  rintro e w17 ⟨gJ0, qsJ0, rfl, hq, hf, ho, hk⟩
  have HQJ0 : Hid (datFrameS qsJ0 = datFrameS ps0) := hq
  have HFJ0 := (show Hid (∀ b, footR kFrame (.slice (some ⟨gJ0, 0, none⟩) ps0.length ps0.length) qsJ0 b → w16.heap.size ≤ b ∧ b < w17.heap.size) from fun b hb => ⟨hf b hb, (ho.lt b hb).2⟩)
  have HJ0w17 := (show Hid (OwnR kFrame 0 51 5 w17 (.slice (some ⟨gJ0, 0, none⟩) ps0.length ps0.length) qsJ0) from ho)
  clear hf ho hq
  have hkk : Same w16 w17 := hk
  have hzw17 := hkk.size
  have HA0w17 := hid (HA0w16.out.same hkk)
  have HWw17 := hid (HWw16.out.same hkk)
  have HZw17 := hid (HZw16.out.same hkk)
  have HYw17 := hid (HYw16.out.same hkk)
  have HUw17 := hid (HUw16.out.same hkk)
  have HKw17 := (show Hid (Same w w17) from HKw16.out.trans hkk)
  clear hkk hk
  clear cA0_0 cA0_1 lA0 cZ_0 cZ_1 cZ_2 cZ_3 lZ cY_0 cY_1 cY_2 cY_3 lY
  have cA0_0 := HA0w17.out.c0
  have cA0_1 := HA0w17.out.c1
  have lA0 := HA0w17.out.lt
  have cZ_0 := HZw17.out.c0
  have cZ_1 := HZw17.out.c1
  have cZ_2 := HZw17.out.c2
  have cZ_3 := HZw17.out.c3
  have lZ := HZw17.out.lt
  have cY_0 := HYw17.out.c0
  have cY_1 := HYw17.out.c1
  have cY_2 := HYw17.out.c2
  have cY_3 := HYw17.out.c3
  have lY := HYw17.out.lt
  go_wp2_with fail
  refine (toByteS_any _ bs3 _ (by omega) (HV3.out.same HKw17.out)).mono ?_
  rintro e w18 ⟨gJ3, rfl, hf, ho, hk⟩
  have hf : ∀ b, (Value.slice (some ⟨gJ3, 0, none⟩) bs3.length bs3.length).ownBlock = some b → _ ≤ b := fun b hb => by rw [← (Option.some.inj hb : gJ3 = b)]; exact hf
  have HFJ3 := (show Hid (∀ b, (Value.slice (some ⟨gJ3, 0, none⟩) bs3.length bs3.length).ownBlock = some b → w17.heap.size ≤ b ∧ b < w18.heap.size) from fun b hb => ⟨hf b hb, (ho.lt b hb).2⟩)
  have HJ3w18 := (show Hid (Own 0 5 .u8 w18 (.slice (some ⟨gJ3, 0, none⟩) bs3.length bs3.length) bs3) from ho)
  clear hf ho
  have hkk : Same w17 w18 := hk
  have hzw18 := hkk.size
  have HA0w18 := hid (HA0w17.out.same hkk)
  have HWw18 := hid (HWw17.out.same hkk)
  have HZw18 := hid (HZw17.out.same hkk)
  have HYw18 := hid (HYw17.out.same hkk)
  have HUw18 := hid (HUw17.out.same hkk)
  have HJ0w18 := hid (HJ0w17.out.same hkk)
  have HKw18 := (show Hid (Same w w18) from HKw17.out.trans hkk)
  clear hkk hk
  clear cA0_0 cA0_1 lA0 cZ_0 cZ_1 cZ_2 cZ_3 lZ cY_0 cY_1 cY_2 cY_3 lY
  have cA0_0 := HA0w18.out.c0
  have cA0_1 := HA0w18.out.c1
  have lA0 := HA0w18.out.lt
  have cZ_0 := HZw18.out.c0
  have cZ_1 := HZw18.out.c1
  have cZ_2 := HZw18.out.c2
  have cZ_3 := HZw18.out.c3
  have lZ := HZw18.out.lt
  have cY_0 := HYw18.out.c0
  have cY_1 := HYw18.out.c1
  have cY_2 := HYw18.out.c2
  have cY_3 := HYw18.out.c3
  have lY := HYw18.out.lt
  go_wp2_with fail
  refine (implPoolLoad_any _ hand0 s1 s2 _ bs3 qsJ0 _ (HJ0w18.out.rd) (by omega) (HJ3w18.out.rd)).mono ?_
  rintro e w19 ⟨cdL, frL, aL, nL, cL, hdL, qsL, rfl, hR, hf, ho, hk⟩
  rw [loadP_dat HQJ0.out] at hR
  have hR2 := hR.trans HR.out.symm
  simp only [Prod.mk.injEq] at hR2
  obtain ⟨hR3, hR4, hR5, hR6⟩ := hR2
  have hR3 := hR3.symm
  have hR4 := hR4.symm
  have hR5 := hR5.symm
  subst hR3 hR4 hR5
  have HQL : Hid (datFrameS qsL = datFrameS qsW) := hR6
  clear hR6
  have HFL := (show Hid (∀ b, footR kFrame (.slice aL nL cL) qsL b → w18.heap.size ≤ b ∧ b < w19.heap.size) from fun b hb => ⟨hf b hb, (ho.lt b hb).2⟩)
  have HLw19 := (show Hid (OwnR kFrame 0 51 5 w19 (.slice aL nL cL) qsL) from ho)
  clear hf ho hR
  have hkk : Same w18 w19 := hk
  have hzw19 := hkk.size
  have HA0w19 := hid (HA0w18.out.same hkk)
  have HWw19 := hid (HWw18.out.same hkk)
  have HZw19 := hid (HZw18.out.same hkk)
  have HYw19 := hid (HYw18.out.same hkk)
  have HUw19 := hid (HUw18.out.same hkk)
  have HJ0w19 := hid (HJ0w18.out.same hkk)
  have HJ3w19 := hid (HJ3w18.out.same hkk)
  have HKw19 := (show Hid (Same w w19) from HKw18.out.trans hkk)
  clear hkk hk
  clear cA0_0 cA0_1 lA0 cZ_0 cZ_1 cZ_2 cZ_3 lZ cY_0 cY_1 cY_2 cY_3 lY
  have cA0_0 := HA0w19.out.c0
  have cA0_1 := HA0w19.out.c1
  have lA0 := HA0w19.out.lt
  have cZ_0 := HZw19.out.c0
  have cZ_1 := HZw19.out.c1
  have cZ_2 := HZw19.out.c2
  have cZ_3 := HZw19.out.c3
  have lZ := HZw19.out.lt
  have cY_0 := HYw19.out.c0
  have cY_1 := HYw19.out.c1
  have cY_2 := HYw19.out.c2
  have cY_3 := HYw19.out.c3
  have lY := HYw19.out.lt
  go_wp2_with fail
  refine (eqPoolResult_own 0 cdW frW hdW _ _ qsL qsW _ (Nat.le_trans (HSM.out.of qsL HQL.out).1 (by omega)) HQL.out (fun p hp => Nat.le_trans ((HSM.out.of qsL HQL.out).2.1 p hp) (by omega)) (HLw19.out.same ((Kept.refl _ _).alloc _)) (HWw19.out.same ((Kept.refl _ _).alloc _))).mono ?_
  rintro e w20 ⟨rfl, hk⟩
  have hkk : Same w19 w20 := ((Kept.refl _ _).alloc _).trans hk
  have hzw20 := hk.size
  rw [World.size_alloc] at hzw20
  have HA0w20 := hid (HA0w19.out.same hkk)
  have HWw20 := hid (HWw19.out.same hkk)
  have HZw20 := hid (HZw19.out.same hkk)
  have HYw20 := hid (HYw19.out.same hkk)
  have HUw20 := hid (HUw19.out.same hkk)
  have HLw20 := hid (HLw19.out.same hkk)
  have HVw20 := (show Hid (Blk w20 (w19.heap.size) 37 [.int .i64 cdW, .int .i64 frW, (.slice aL nL cL), .int .i64 hdW]) from (Blk.new w19 #[.int .i64 cdW, .int .i64 frW, (.slice aL nL cL), .int .i64 hdW] 37).same hk)
  have HKw20 := (show Hid (Same w w20) from HKw19.out.trans hkk)
  clear hkk hk
  clear cA0_0 cA0_1 lA0 cZ_0 cZ_1 cZ_2 cZ_3 lZ cY_0 cY_1 cY_2 cY_3 lY
  have cA0_0 := HA0w20.out.c0
  have cA0_1 := HA0w20.out.c1
  have lA0 := HA0w20.out.lt
  have cY_0 := HYw20.out.c0
  have cY_1 := HYw20.out.c1
  have cY_2 := HYw20.out.c2
  have cY_3 := HYw20.out.c3
  have lY := HYw20.out.lt
  go_wp2_with fail
  have hm := heldPoolResult_own cdW frW hdW (.slice aG nG cG) qsG 1 w20 (by omega) (by rw [HM.out]; exact hg1) (by omega) HUw20.out
  rw [HM.out] at hm
  refine hm.mono ?_
  clear hm
  rintro e w21 ⟨rfl, hk⟩
  have hkk : Same w20 w21 := hk
  have hzw21 := hkk.size
  have HA0w21 := hid (HA0w20.out.same hkk)
  have HYw21 := hid (HYw20.out.same hkk)
  have HUw21 := hid (HUw20.out.same hkk)
  have HKw21 := (show Hid (Same w w21) from HKw20.out.trans hkk)
  clear hkk hk
  clear cA0_0 cA0_1 lA0 cY_0 cY_1 cY_2 cY_3 lY
  go_wp2
  go_ret
  exact ⟨rfl, HKw21.out⟩
end Go.Proofs.Ytabmhcdldfehnaa

namespace Go.Proofs.Ytabmhcdldfehnaa.fnExactPoolLoad
open Go.ChangeShapes Go.WideShapes Go.ChangeAt Go.RowKit
set_option linter.unusedVariables false
theorem own : ownKnob Try.prog.godebug = none := by kernel_rfl
theorem laidOut : laidOutB Try.prog = true := by kernel_rfl
set_option maxRecDepth 100000 in
theorem lifted (os : Os) (started : os.Started) (H : Type) (enc : TypeId × Value → H) :
    ReturnsInHanded {} Try.checked os 5 .any (Rows.fnExactPoolLoadSpec.pre6 enc Try.prog Try.f5 Rows.fnExactPoolLoadRow.domain false) (Rows.fnExactPoolLoadSpec.post enc Try.prog Try.f5 false true false false) := by
  refine returnsInHanded_of_change (C := Try.checked) own started (by kernel_rfl) Try.func5
    (ChangeSpec.witness6 (enc := enc) (C := Try.checked) false ⟨#[], #[.agg #[.slice none 0 0, .int .i64 0], .int .i64 0, .int .i64 0, .slice none 0 0], []⟩ 8 (by kernel_rfl) (by kernel_rfl) (by kernel_rfl) (by kernel_rfl)) ?_
  intro W base args ds gs before hval0 hW hcnd _
  have hval : ∀ (j : Nat) t v, Try.f5.params[j]? = some t → args[j]? = some v → Value.okWide Try.prog W .any base t v := hval0
  have hW' := hW
  obtain ⟨p, q, hA0, hV, rfl, hfz, hnd⟩ := hW
  have hA : DataW.TrodAll enc Try.prog W 0 (fun _ => true) true Try.f5.params.toList args.toList ds p := hA0
  rw [Try.params5] at hA hval
  obtain ⟨v0, vs0, d0, ds0, p0, q0, hargs, rfl, rfl, h0, r0⟩ := trodAll_cons hA
  obtain ⟨v1, vs1, d1, ds1, p1, q1, rfl, rfl, rfl, h1, r1⟩ := trodAll_cons r0
  obtain ⟨v2, vs2, d2, ds2, p2, q2, rfl, rfl, rfl, h2, r2⟩ := trodAll_cons r1
  obtain ⟨v3, vs3, d3, ds3, p3, q3, rfl, rfl, rfl, h3, r3⟩ := trodAll_cons r2
  obtain ⟨rfl, rfl, rfl⟩ := trodAll_nil r3
  obtain rfl : args = #[v0, v1, v2, v3] := by cases args; simp_all
  obtain ⟨rfl, rfl⟩ := trodVars_none hV
  have k0 := h0
  have lt0 : ∀ x ∈ p0, x.block < W.heap.size := by obtain ⟨m, hm⟩ := k0; exact DataW.trod_lt m _ _ _ hm
  obtain ⟨pv0, ps0, hand0, rfl, rd0, bd0, hd0⟩ := open_pool (hval 0 24 v0 rfl rfl) h0
  obtain ⟨a1, rfl, rfl, rfl, w1⟩ := open_int Try.underlying2 (hval 1 2 v1 rfl rfl) h1
  obtain ⟨a2, rfl, rfl, rfl, w2⟩ := open_int Try.underlying2 (hval 2 2 v2 rfl rfl) h2
  have k3 := h3
  have lt3 : ∀ x ∈ p3, x.block < W.heap.size := by obtain ⟨m, hm⟩ := k3; exact DataW.trod_lt m _ _ _ hm
  obtain ⟨x3, rd3⟩ := open_bytes (hval 3 35 v3 rfl rfl) h3
  clear hA0 hval0
  refine (poolLoad_law pv0 ps0 hand0 a1 a2 v3 x3 W rd0 rd3).mono fun e W' ⟨he, hk⟩ => ?_
  have bel : Below W.heap.size W W' := hk.below (Nat.le_refl _) (fun _ _ => id)
  subst he
  exact ⟨_, rfl, _, _, _, [], _, [], hW', trodAll_mk1 (shut_bool Try.underlying4 _), (trodAll_cons_mk (Below.trod laidOut (by kernel_rfl) (of_decide_eq_true (by kernel_rfl)) k0 bel lt0) (trodAll_cons_mk (shut_int Try.underlying2 w1) (trodAll_cons_mk (shut_int Try.underlying2 w2) (trodAll_cons_mk (Below.trod laidOut (by kernel_rfl) (of_decide_eq_true (by kernel_rfl)) k3 bel lt3) trodAll_mk0)))), rfl, bel.frame _, fun h => by cases h⟩
theorem over : Rows.fnExactPoolLoadRow.holds Try.pinned (OpenSpec.ofChange Rows.fnExactPoolLoadSpec) :=
  OpenClaim.holds_of_wide 5 Try.f5 rfl rfl rfl rfl rfl rfl rfl ⟨rfl, rfl, rfl, rfl, rfl⟩ rfl rfl rfl rfl rfl (by kernel_rfl) Try.func5 (by kernel_rfl)
    (of_decide_eq_true (by kernel_rfl)) (by unfold Func.isWrapper; first | (rw [if_pos (by decide +kernel)]; kernel_rfl) | (rw [if_neg (by decide +kernel)]; exact ⟨rfl, rfl⟩))
    (fun os started H enc _ => lifted os started H enc)
end Go.Proofs.Ytabmhcdldfehnaa.fnExactPoolLoad
namespace Go.Proofs.Ytabmhcdldfehnaa
theorem poolLoad_proved : Rows.FnExactPoolLoadSaid := fnExactPoolLoad.over
#print axioms poolLoad_proved
end Go.Proofs.Ytabmhcdldfehnaa
