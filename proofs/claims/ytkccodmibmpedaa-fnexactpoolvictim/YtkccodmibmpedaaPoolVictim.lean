import Derived.Test.YtkccodmibmpedaaG07
import Derived.Deep.DeepCutAuto
import Derived.Deep.RegionWith
import Derived.Deep.DeepMust
namespace Go.Proofs.Ytkccodmibmpedaa
open Go.RowKit
set_option linter.unusedVariables false
set_option maxRecDepth 100000 in
set_option maxHeartbeats 16000000 in
theorem poolVictim_law (pv0 : Value) (ps0 : List EFrame) (hand0 : Int) (w : World) (hv0 : RdR kFrame w pv0 ps0) :
    Calls Try.prog 3 #[.agg #[pv0, .int .i64 hand0]] w fun e w' => e = .returned (.bool true) ∧ Same w w' := by
  obtain ⟨a0a, c0a, rfl⟩ := hv0.form
  have HV0 := (show Hid (RdR kFrame w (.slice a0a ps0.length c0a) ps0) from hv0)
  clear hv0
  go_enter Try.func3, Try.ntmps3
  have HKw : Hid (Same w w) := Kept.refl _ _
  go_wp2_with fail
  refine (szPool_any hand0 _ ps0 _ _ (by omega) (by omega) (HV0.out.same ((Kept.refl _ _).alloc _))).mono ?_
  rintro e w1 ⟨sz0, rfl, hr, hk⟩
  have hkk : Same w w1 := ((Kept.refl _ _).alloc _).trans hk
  have hzw1 := hk.size
  rw [World.size_alloc] at hzw1
  have HA0w1 := (show Hid (Blk w1 (w.heap.size) 24 [(.slice a0a ps0.length c0a), .int .i64 hand0]) from (Blk.new w #[(.slice a0a ps0.length c0a), .int .i64 hand0] 24).same hk)
  have HKw1 := (show Hid (Same w w1) from HKw.out.trans hkk)
  clear hkk hk
  rcases hr with rfl | ⟨hr, hr0⟩
  · go_wp2
    go_ret
    exact ⟨rfl, HKw1.out⟩
  have hp0 : ps0.length ≤ 1048576 := by omega
  have hsz0 : sizeFrameS ps0 ≤ 1048576 := by omega
  have HS0 : Hid (∀ p ∈ ps0, p.bs.length ≤ 1048576) := fun p hp => by have := sizeFrameS_mem ps0 p hp; omega
  have HT0 : Hid (∀ qs : List EFrame, datFrameS qs = datFrameS ps0 → qs.length ≤ 1048576 ∧ ∀ p ∈ qs, p.bs.length ≤ 1048576) := fun qs hq => ⟨by rw [← datFrameS_length, hq, datFrameS_length]; omega, fun p hp => by have := sizeFrameS_mem qs p hp; rw [datFrameS_size hq] at this; omega⟩
  clear hr
  have cA0_0 : w1.cell? ⟨w.heap.size, 0, none⟩ = some ((.slice a0a ps0.length c0a)) := HA0w1.out.cell 0
  have cA0_1 : w1.cell? ⟨w.heap.size, 1, none⟩ = some (.int .i64 hand0) := HA0w1.out.cell 1
  have lA0 := HA0w1.out.lt
  go_wp2_with fail
  refine (toPool_any hand0 _ ps0 _ (by omega) (fun p hp => Nat.le_trans (HS0.out p hp) (by omega)) (HV0.out.same HKw1.out)).mono ?_
  rintro e w2 ⟨gC0, qsC0, rfl, hq, hf, ho, hk⟩
  have HQC0 : Hid (datFrameS qsC0 = datFrameS ps0) := hq
  have HFC0 := (show Hid (∀ b, footR kFrame (.slice (some ⟨gC0, 0, none⟩) ps0.length ps0.length) qsC0 b → w1.heap.size ≤ b ∧ b < w2.heap.size) from fun b hb => ⟨hf b hb, (ho.lt b hb).2⟩)
  have HC0w2 := (show Hid (OwnR kFrame 0 46 5 w2 (.slice (some ⟨gC0, 0, none⟩) ps0.length ps0.length) qsC0) from ho)
  clear hf ho hq
  have hkk : Same w1 w2 := hk
  have hzw2 := hkk.size
  have HA0w2 := (show Hid (Blk w2 (w.heap.size) 24 [(.slice a0a ps0.length c0a), .int .i64 hand0]) from HA0w1.out.same hkk)
  have HKw2 := (show Hid (Same w w2) from HKw1.out.trans hkk)
  clear hkk hk
  clear cA0_0 cA0_1 lA0
  have cA0_0 : w2.cell? ⟨w.heap.size, 0, none⟩ = some ((.slice a0a ps0.length c0a)) := HA0w2.out.cell 0
  have cA0_1 : w2.cell? ⟨w.heap.size, 1, none⟩ = some (.int .i64 hand0) := HA0w2.out.cell 1
  have lA0 := HA0w2.out.lt
  go_wp2_with fail
  refine (specPoolVictim_any _ hand0 qsC0 _ (HC0w2.out.rd)).mono ?_
  rintro e w3 ⟨cdW, frW, aW, nW, cW, hdW, qsW, rfl, hR, hf, ho, hk⟩
  rw [victimP_dat HQC0.out] at hR
  have HR := (show Hid ((cdW, frW, hdW, datFrameS qsW) = victimP ps0 hand0) from hR)
  have HSM := (show Hid (SmallF (datFrameS qsW)) from victimP_small HR.out)
  have HFW := (show Hid (∀ b, footR kFrame (.slice aW nW cW) qsW b → w2.heap.size ≤ b ∧ b < w3.heap.size) from fun b hb => ⟨hf b hb, (ho.lt b hb).2⟩)
  have HWw3 := (show Hid (OwnR kFrame 0 46 5 w3 (.slice aW nW cW) qsW) from ho)
  clear hf ho hR
  have hkk : Same w2 w3 := hk
  have hzw3 := hkk.size
  have HA0w3 := (show Hid (Blk w3 (w.heap.size) 24 [(.slice a0a ps0.length c0a), .int .i64 hand0]) from HA0w2.out.same hkk)
  have HC0w3 := (show Hid (OwnR kFrame 0 46 5 w3 (.slice (some ⟨gC0, 0, none⟩) ps0.length ps0.length) qsC0) from HC0w2.out.same hkk)
  have HKw3 := (show Hid (Same w w3) from HKw2.out.trans hkk)
  clear hkk hk
  clear cA0_0 cA0_1 lA0
  have cA0_0 : w3.cell? ⟨w.heap.size, 0, none⟩ = some ((.slice a0a ps0.length c0a)) := HA0w3.out.cell 0
  have cA0_1 : w3.cell? ⟨w.heap.size, 1, none⟩ = some (.int .i64 hand0) := HA0w3.out.cell 1
  have lA0 := HA0w3.out.lt
  go_wp2_with fail
  refine (toPool_any hand0 _ ps0 _ (by omega) (fun p hp => Nat.le_trans (HS0.out p hp) (by omega)) (HV0.out.same (HKw3.out.alloc _))).mono ?_
  rintro e w4 ⟨gX0, qsX0, rfl, hq, hf, ho, hk⟩
  have HQX0 : Hid (datFrameS qsX0 = datFrameS ps0) := hq
  simp only [World.size_alloc] at hf
  have HFX0 := (show Hid (∀ b, footR kFrame (.slice (some ⟨gX0, 0, none⟩) ps0.length ps0.length) qsX0 b → w3.heap.size < b ∧ b < w4.heap.size) from fun b hb => ⟨by have := hf b hb; omega, (ho.lt b hb).2⟩)
  have HX0w4 := (show Hid (OwnR kFrame 0 46 5 w4 (.slice (some ⟨gX0, 0, none⟩) ps0.length ps0.length) qsX0) from ho)
  clear hf ho hq
  have hkk : Same w3 w4 := ((Kept.refl _ _).alloc _).trans hk
  have hzw4 := hk.size
  rw [World.size_alloc] at hzw4
  have HA0w4 := (show Hid (Blk w4 (w.heap.size) 24 [(.slice a0a ps0.length c0a), .int .i64 hand0]) from HA0w3.out.same hkk)
  have HWw4 := (show Hid (OwnR kFrame 0 46 5 w4 (.slice aW nW cW) qsW) from HWw3.out.same hkk)
  have HZw4 := (show Hid (Blk w4 (w3.heap.size) 30 [.int .i64 cdW, .int .i64 frW, (.slice aW nW cW), .int .i64 hdW]) from (Blk.new w3 #[.int .i64 cdW, .int .i64 frW, (.slice aW nW cW), .int .i64 hdW] 30).same hk)
  have HKw4 := (show Hid (Same w w4) from HKw3.out.trans hkk)
  clear hkk hk
  clear cA0_0 cA0_1 lA0
  have cA0_0 : w4.cell? ⟨w.heap.size, 0, none⟩ = some ((.slice a0a ps0.length c0a)) := HA0w4.out.cell 0
  have cA0_1 : w4.cell? ⟨w.heap.size, 1, none⟩ = some (.int .i64 hand0) := HA0w4.out.cell 1
  have lA0 := HA0w4.out.lt
  have cZ_0 : w4.cell? ⟨w3.heap.size, 0, none⟩ = some (.int .i64 cdW) := HZw4.out.cell 0
  have cZ_1 : w4.cell? ⟨w3.heap.size, 1, none⟩ = some (.int .i64 frW) := HZw4.out.cell 1
  have cZ_2 : w4.cell? ⟨w3.heap.size, 2, none⟩ = some ((.slice aW nW cW)) := HZw4.out.cell 2
  have cZ_3 : w4.cell? ⟨w3.heap.size, 3, none⟩ = some (.int .i64 hdW) := HZw4.out.cell 3
  have lZ := HZw4.out.lt
  go_wp2_with fail
  refine (implPoolVictim_any _ hand0 qsX0 _ (HX0w4.out.rd.same ((Kept.refl _ _).alloc _))).mono ?_
  rintro e w5 ⟨cdG, frG, aG, nG, cG, hdG, qsG, rfl, hR, hf, ho, hk⟩
  rw [victimP_dat HQX0.out] at hR
  have hR2 := hR.trans HR.out.symm
  simp only [Prod.mk.injEq] at hR2
  obtain ⟨hR3, hR4, hR5, hR6⟩ := hR2
  have hR3 := hR3.symm
  have hR4 := hR4.symm
  have hR5 := hR5.symm
  subst hR3 hR4 hR5
  have HQG : Hid (datFrameS qsG = datFrameS qsW) := hR6
  clear hR6
  simp only [World.size_alloc] at hf
  have HFG := (show Hid (∀ b, footR kFrame (.slice aG nG cG) qsG b → w4.heap.size < b ∧ b < w5.heap.size) from fun b hb => ⟨by have := hf b hb; omega, (ho.lt b hb).2⟩)
  have HGw5 := (show Hid (OwnR kFrame 0 46 5 w5 (.slice aG nG cG) qsG) from ho)
  clear hf ho hR
  have hkk : Same w4 w5 := ((Kept.refl _ _).alloc _).trans hk
  have hzw5 := hk.size
  rw [World.size_alloc] at hzw5
  have HA0w5 := (show Hid (Blk w5 (w.heap.size) 24 [(.slice a0a ps0.length c0a), .int .i64 hand0]) from HA0w4.out.same hkk)
  have HWw5 := (show Hid (OwnR kFrame 0 46 5 w5 (.slice aW nW cW) qsW) from HWw4.out.same hkk)
  have HZw5 := (show Hid (Blk w5 (w3.heap.size) 30 [.int .i64 cdW, .int .i64 frW, (.slice aW nW cW), .int .i64 hdW]) from HZw4.out.same hkk)
  have HX0w5 := (show Hid (OwnR kFrame 0 46 5 w5 (.slice (some ⟨gX0, 0, none⟩) ps0.length ps0.length) qsX0) from HX0w4.out.same hkk)
  have HT0w5 := (show Hid (Blk w5 (w4.heap.size) 28 [(.slice (some ⟨gX0, 0, none⟩) ps0.length ps0.length), .int .i64 hand0]) from (Blk.new w4 #[(.slice (some ⟨gX0, 0, none⟩) ps0.length ps0.length), .int .i64 hand0] 28).same hk)
  have HKw5 := (show Hid (Same w w5) from HKw4.out.trans hkk)
  clear hkk hk
  clear cA0_0 cA0_1 lA0 cZ_0 cZ_1 cZ_2 cZ_3 lZ
  have cA0_0 : w5.cell? ⟨w.heap.size, 0, none⟩ = some ((.slice a0a ps0.length c0a)) := HA0w5.out.cell 0
  have cA0_1 : w5.cell? ⟨w.heap.size, 1, none⟩ = some (.int .i64 hand0) := HA0w5.out.cell 1
  have lA0 := HA0w5.out.lt
  have cZ_0 : w5.cell? ⟨w3.heap.size, 0, none⟩ = some (.int .i64 cdW) := HZw5.out.cell 0
  have cZ_1 : w5.cell? ⟨w3.heap.size, 1, none⟩ = some (.int .i64 frW) := HZw5.out.cell 1
  have cZ_2 : w5.cell? ⟨w3.heap.size, 2, none⟩ = some ((.slice aW nW cW)) := HZw5.out.cell 2
  have cZ_3 : w5.cell? ⟨w3.heap.size, 3, none⟩ = some (.int .i64 hdW) := HZw5.out.cell 3
  have lZ := HZw5.out.lt
  have cT0_0 : w5.cell? ⟨w4.heap.size, 0, none⟩ = some ((.slice (some ⟨gX0, 0, none⟩) ps0.length ps0.length)) := HT0w5.out.cell 0
  have cT0_1 : w5.cell? ⟨w4.heap.size, 1, none⟩ = some (.int .i64 hand0) := HT0w5.out.cell 1
  have lT0 := HT0w5.out.lt
  go_wp2_with fail
  refine (eqPoolResult_own 0 cdW frW hdW _ _ qsG qsW _ (Nat.le_trans (HSM.out.of qsG HQG.out).1 (by omega)) HQG.out (fun p hp => Nat.le_trans ((HSM.out.of qsG HQG.out).2.1 p hp) (by omega)) (HGw5.out.same ((Kept.refl _ _).alloc _)) (HWw5.out.same ((Kept.refl _ _).alloc _))).mono ?_
  rintro e w6 ⟨rfl, hk⟩
  have hkk : Same w5 w6 := ((Kept.refl _ _).alloc _).trans hk
  have hzw6 := hk.size
  rw [World.size_alloc] at hzw6
  have HA0w6 := (show Hid (Blk w6 (w.heap.size) 24 [(.slice a0a ps0.length c0a), .int .i64 hand0]) from HA0w5.out.same hkk)
  have HWw6 := (show Hid (OwnR kFrame 0 46 5 w6 (.slice aW nW cW) qsW) from HWw5.out.same hkk)
  have HZw6 := (show Hid (Blk w6 (w3.heap.size) 30 [.int .i64 cdW, .int .i64 frW, (.slice aW nW cW), .int .i64 hdW]) from HZw5.out.same hkk)
  have HX0w6 := (show Hid (OwnR kFrame 0 46 5 w6 (.slice (some ⟨gX0, 0, none⟩) ps0.length ps0.length) qsX0) from HX0w5.out.same hkk)
  have HT0w6 := (show Hid (Blk w6 (w4.heap.size) 28 [(.slice (some ⟨gX0, 0, none⟩) ps0.length ps0.length), .int .i64 hand0]) from HT0w5.out.same hkk)
  have HGw6 := (show Hid (OwnR kFrame 0 46 5 w6 (.slice aG nG cG) qsG) from HGw5.out.same hkk)
  have HYw6 := (show Hid (Blk w6 (w5.heap.size) 30 [.int .i64 cdW, .int .i64 frW, (.slice aG nG cG), .int .i64 hdW]) from (Blk.new w5 #[.int .i64 cdW, .int .i64 frW, (.slice aG nG cG), .int .i64 hdW] 30).same hk)
  have HKw6 := (show Hid (Same w w6) from HKw5.out.trans hkk)
  clear hkk hk
  clear cA0_0 cA0_1 lA0 cZ_0 cZ_1 cZ_2 cZ_3 lZ cT0_0 cT0_1 lT0
  have cA0_0 : w6.cell? ⟨w.heap.size, 0, none⟩ = some ((.slice a0a ps0.length c0a)) := HA0w6.out.cell 0
  have cA0_1 : w6.cell? ⟨w.heap.size, 1, none⟩ = some (.int .i64 hand0) := HA0w6.out.cell 1
  have lA0 := HA0w6.out.lt
  have cZ_0 : w6.cell? ⟨w3.heap.size, 0, none⟩ = some (.int .i64 cdW) := HZw6.out.cell 0
  have cZ_1 : w6.cell? ⟨w3.heap.size, 1, none⟩ = some (.int .i64 frW) := HZw6.out.cell 1
  have cZ_2 : w6.cell? ⟨w3.heap.size, 2, none⟩ = some ((.slice aW nW cW)) := HZw6.out.cell 2
  have cZ_3 : w6.cell? ⟨w3.heap.size, 3, none⟩ = some (.int .i64 hdW) := HZw6.out.cell 3
  have lZ := HZw6.out.lt
  have cT0_0 : w6.cell? ⟨w4.heap.size, 0, none⟩ = some ((.slice (some ⟨gX0, 0, none⟩) ps0.length ps0.length)) := HT0w6.out.cell 0
  have cT0_1 : w6.cell? ⟨w4.heap.size, 1, none⟩ = some (.int .i64 hand0) := HT0w6.out.cell 1
  have lT0 := HT0w6.out.lt
  have cY_0 : w6.cell? ⟨w5.heap.size, 0, none⟩ = some (.int .i64 cdW) := HYw6.out.cell 0
  have cY_1 : w6.cell? ⟨w5.heap.size, 1, none⟩ = some (.int .i64 frW) := HYw6.out.cell 1
  have cY_2 : w6.cell? ⟨w5.heap.size, 2, none⟩ = some ((.slice aG nG cG)) := HYw6.out.cell 2
  have cY_3 : w6.cell? ⟨w5.heap.size, 3, none⟩ = some (.int .i64 hdW) := HYw6.out.cell 3
  have lY := HYw6.out.lt
  go_wp2_with fail
  go_cut [31] (fun v wc => v = .bool false ∧ Hid (Same w6 wc))
  case first =>
    have HD1 : Hid (Same w w6.drew) := HKw6.out.drew
    have HD2 : Hid (Same w6 w6.drew) := (Kept.refl _ _).drew
    go_region_with (first | (go_at_call 11; refine (toPool_any hand0 _ ps0 _ (by omega) (fun p hp => Nat.le_trans (HS0.out p hp) (by omega)) (by exact HV0.out.same HD1.out)).mono ?_; rintro e wx7 ⟨g3, qs7, rfl, hq3, hf3, ho3, hk7⟩; have HO7 := (show Hid (OwnR kFrame 0 46 5 wx7 (.slice (some ⟨g3, 0, none⟩) ps0.length ps0.length) qs7) from ho3); have HQ7 : Hid (datFrameS qs7 = datFrameS ps0) := hq3; have HK7 : Hid (Same w6 wx7) := HD2.out.trans hk7; clear ho3 hq3 hf3 hk7; have y0 : wx7.cell? ⟨w4.heap.size, 0, none⟩ = some ((.slice (some ⟨gX0, 0, none⟩) ps0.length ps0.length)) := (HT0w6.out.same HK7.out).cell 0; have y1 : wx7.cell? ⟨w4.heap.size, 1, none⟩ = some (.int .i64 hand0) := (HT0w6.out.same HK7.out).cell 1) | (go_at_call 14; refine (eqPool_own 0 hand0 _ _ qsX0 qs7 _ (by have h := (HT0.out qsX0 HQX0.out).1; omega) (HQX0.out.trans HQ7.out.symm) (fun p hp => Nat.le_trans ((HT0.out qsX0 HQX0.out).2 p hp) (by omega)) (HX0w6.out.same HK7.out) HO7.out).mono ?_; rintro e wx8 ⟨rfl, hk8⟩))
    all_goals
      have HK8 : Hid (Same w6 wx8) := HK7.out.trans hk8
      clear hk8
      go_wp2_with fail
      go_meet
      case rel => exact ⟨rfl, HK8⟩
  case rest =>
  obtain ⟨rfl, HKC⟩ := hcut
  obtain ⟨w7, hwc⟩ : ∃ x, x = wc := ⟨_, rfl⟩
  subst hwc
  clear cA0_0 cA0_1 lA0 cZ_0 cZ_1 cZ_2 cZ_3 lZ cT0_0 cT0_1 lT0 cY_0 cY_1 cY_2 cY_3 lY
  have hkk : Same w6 w7 := HKC.out
  have hzw7 := hkk.size
  have HA0w7 := (show Hid (Blk w7 (w.heap.size) 24 [(.slice a0a ps0.length c0a), .int .i64 hand0]) from HA0w6.out.same hkk)
  have HWw7 := (show Hid (OwnR kFrame 0 46 5 w7 (.slice aW nW cW) qsW) from HWw6.out.same hkk)
  have HZw7 := (show Hid (Blk w7 (w3.heap.size) 30 [.int .i64 cdW, .int .i64 frW, (.slice aW nW cW), .int .i64 hdW]) from HZw6.out.same hkk)
  have HX0w7 := (show Hid (OwnR kFrame 0 46 5 w7 (.slice (some ⟨gX0, 0, none⟩) ps0.length ps0.length) qsX0) from HX0w6.out.same hkk)
  have HT0w7 := (show Hid (Blk w7 (w4.heap.size) 28 [(.slice (some ⟨gX0, 0, none⟩) ps0.length ps0.length), .int .i64 hand0]) from HT0w6.out.same hkk)
  have HGw7 := (show Hid (OwnR kFrame 0 46 5 w7 (.slice aG nG cG) qsG) from HGw6.out.same hkk)
  have HYw7 := (show Hid (Blk w7 (w5.heap.size) 30 [.int .i64 cdW, .int .i64 frW, (.slice aG nG cG), .int .i64 hdW]) from HYw6.out.same hkk)
  have HKw7 := (show Hid (Same w w7) from HKw6.out.trans hkk)
  clear hkk
  have hE0 : (0 : Int) ≤ 1 := by omega
  have hE0b : (1 : Int) ≤ 1 := by omega
  have hqlX0 := (HT0.out qsX0 HQX0.out).1
  obtain ⟨E1, hE⟩ : ∃ E, endR mFrame 1 qsX0 = E := ⟨_, rfl⟩
  have hE1 : 0 ≤ E1 := by rw [← hE, endFrameS_size]; omega
  have hE1b : E1 ≤ 7000001 := by rw [← hE, endFrameS_size, datFrameS_size HQX0.out]; omega
  have HE1 : Hid (endR mFrame 1 qsX0 = E1) := hE
  clear hE
  have cA0_0 : w7.cell? ⟨w.heap.size, 0, none⟩ = some ((.slice a0a ps0.length c0a)) := HA0w7.out.cell 0
  have cA0_1 : w7.cell? ⟨w.heap.size, 1, none⟩ = some (.int .i64 hand0) := HA0w7.out.cell 1
  have lA0 := HA0w7.out.lt
  have cZ_0 : w7.cell? ⟨w3.heap.size, 0, none⟩ = some (.int .i64 cdW) := HZw7.out.cell 0
  have cZ_1 : w7.cell? ⟨w3.heap.size, 1, none⟩ = some (.int .i64 frW) := HZw7.out.cell 1
  have cZ_2 : w7.cell? ⟨w3.heap.size, 2, none⟩ = some ((.slice aW nW cW)) := HZw7.out.cell 2
  have cZ_3 : w7.cell? ⟨w3.heap.size, 3, none⟩ = some (.int .i64 hdW) := HZw7.out.cell 3
  have lZ := HZw7.out.lt
  have cT0_0 : w7.cell? ⟨w4.heap.size, 0, none⟩ = some ((.slice (some ⟨gX0, 0, none⟩) ps0.length ps0.length)) := HT0w7.out.cell 0
  have cT0_1 : w7.cell? ⟨w4.heap.size, 1, none⟩ = some (.int .i64 hand0) := HT0w7.out.cell 1
  have lT0 := HT0w7.out.lt
  have cY_0 : w7.cell? ⟨w5.heap.size, 0, none⟩ = some (.int .i64 cdW) := HYw7.out.cell 0
  have cY_1 : w7.cell? ⟨w5.heap.size, 1, none⟩ = some (.int .i64 frW) := HYw7.out.cell 1
  have cY_2 : w7.cell? ⟨w5.heap.size, 2, none⟩ = some ((.slice aG nG cG)) := HYw7.out.cell 2
  have cY_3 : w7.cell? ⟨w5.heap.size, 3, none⟩ = some (.int .i64 hdW) := HYw7.out.cell 3
  have lY := HYw7.out.lt
  go_wp2_with fail
  have hm := markPool_own hand0 (.slice (some ⟨gX0, 0, none⟩) ps0.length ps0.length) qsX0 1 w7 (by omega) (by rw [HE1.out]; omega) (by omega) HX0w7.out
  rw [HE1.out] at hm
  refine hm.mono ?_
  clear hm
  rintro e w8 ⟨rfl, _, hk⟩
  have hzw8 := hk.size
  have HA0w8 := (show Hid (Blk w8 (w.heap.size) 24 [(.slice a0a ps0.length c0a), .int .i64 hand0]) from HA0w7.out.kept hk (fun e => by have h1 := HFX0.out _ e; omega))
  have HWw8 := (show Hid (OwnR kFrame 0 46 5 w8 (.slice aW nW cW) qsW) from HWw7.out.kept hk (fun b hb e => by have h1 := HFX0.out _ e; have h2 := HFW.out b hb; omega))
  have HZw8 := (show Hid (Blk w8 (w3.heap.size) 30 [.int .i64 cdW, .int .i64 frW, (.slice aW nW cW), .int .i64 hdW]) from HZw7.out.kept hk (fun e => by have h1 := HFX0.out _ e; omega))
  have HT0w8 := (show Hid (Blk w8 (w4.heap.size) 28 [(.slice (some ⟨gX0, 0, none⟩) ps0.length ps0.length), .int .i64 hand0]) from HT0w7.out.kept hk (fun e => by have h1 := HFX0.out _ e; omega))
  have HGw8 := (show Hid (OwnR kFrame 0 46 5 w8 (.slice aG nG cG) qsG) from HGw7.out.kept hk (fun b hb e => by have h1 := HFX0.out _ e; have h2 := HFG.out b hb; omega))
  have HYw8 := (show Hid (Blk w8 (w5.heap.size) 30 [.int .i64 cdW, .int .i64 frW, (.slice aG nG cG), .int .i64 hdW]) from HYw7.out.kept hk (fun e => by have h1 := HFX0.out _ e; omega))
  have HKw8 := (show Hid (Same w w8) from HKw7.out.next hk (fun b hb e => by have h1 := HFX0.out _ e; omega))
  clear cA0_0 cA0_1 lA0 cZ_0 cZ_1 cZ_2 cZ_3 lZ cT0_0 cT0_1 lT0 cY_0 cY_1 cY_2 cY_3 lY
  clear hk
  have hEn : ¬ E1 < 0 := by omega
  have cA0_0 : w8.cell? ⟨w.heap.size, 0, none⟩ = some ((.slice a0a ps0.length c0a)) := HA0w8.out.cell 0
  have cA0_1 : w8.cell? ⟨w.heap.size, 1, none⟩ = some (.int .i64 hand0) := HA0w8.out.cell 1
  have lA0 := HA0w8.out.lt
  have cZ_0 : w8.cell? ⟨w3.heap.size, 0, none⟩ = some (.int .i64 cdW) := HZw8.out.cell 0
  have cZ_1 : w8.cell? ⟨w3.heap.size, 1, none⟩ = some (.int .i64 frW) := HZw8.out.cell 1
  have cZ_2 : w8.cell? ⟨w3.heap.size, 2, none⟩ = some ((.slice aW nW cW)) := HZw8.out.cell 2
  have cZ_3 : w8.cell? ⟨w3.heap.size, 3, none⟩ = some (.int .i64 hdW) := HZw8.out.cell 3
  have lZ := HZw8.out.lt
  have cY_0 : w8.cell? ⟨w5.heap.size, 0, none⟩ = some (.int .i64 cdW) := HYw8.out.cell 0
  have cY_1 : w8.cell? ⟨w5.heap.size, 1, none⟩ = some (.int .i64 frW) := HYw8.out.cell 1
  have cY_2 : w8.cell? ⟨w5.heap.size, 2, none⟩ = some ((.slice aG nG cG)) := HYw8.out.cell 2
  have cY_3 : w8.cell? ⟨w5.heap.size, 3, none⟩ = some (.int .i64 hdW) := HYw8.out.cell 3
  have lY := HYw8.out.lt
  go_wp2_with fail
  refine (eqPoolResult_own 0 cdW frW hdW _ _ qsG qsW _ (Nat.le_trans (HSM.out.of qsG HQG.out).1 (by omega)) HQG.out (fun p hp => Nat.le_trans ((HSM.out.of qsG HQG.out).2.1 p hp) (by omega)) HGw8.out HWw8.out).mono ?_
  rintro e w9 ⟨rfl, hk⟩
  have hkk : Same w8 w9 := hk
  have hzw9 := hkk.size
  have HA0w9 := (show Hid (Blk w9 (w.heap.size) 24 [(.slice a0a ps0.length c0a), .int .i64 hand0]) from HA0w8.out.same hkk)
  have HWw9 := (show Hid (OwnR kFrame 0 46 5 w9 (.slice aW nW cW) qsW) from HWw8.out.same hkk)
  have HZw9 := (show Hid (Blk w9 (w3.heap.size) 30 [.int .i64 cdW, .int .i64 frW, (.slice aW nW cW), .int .i64 hdW]) from HZw8.out.same hkk)
  have HGw9 := (show Hid (OwnR kFrame 0 46 5 w9 (.slice aG nG cG) qsG) from HGw8.out.same hkk)
  have HYw9 := (show Hid (Blk w9 (w5.heap.size) 30 [.int .i64 cdW, .int .i64 frW, (.slice aG nG cG), .int .i64 hdW]) from HYw8.out.same hkk)
  have HKw9 := (show Hid (Same w w9) from HKw8.out.trans hkk)
  clear hkk hk
  clear cA0_0 cA0_1 lA0 cZ_0 cZ_1 cZ_2 cZ_3 lZ cY_0 cY_1 cY_2 cY_3 lY
  obtain ⟨hgl, _, hg0, hg1⟩ := HSM.out.of qsG HQG.out
  obtain ⟨M, hM⟩ : ∃ M, endR mFrame 1 qsG = M := ⟨_, rfl⟩
  rw [hM] at hg0 hg1
  have HM : Hid (endR mFrame 1 qsG = M) := hM
  clear hM
  have hM2 : ¬ M < 0 := by omega
  have cA0_0 : w9.cell? ⟨w.heap.size, 0, none⟩ = some ((.slice a0a ps0.length c0a)) := HA0w9.out.cell 0
  have cA0_1 : w9.cell? ⟨w.heap.size, 1, none⟩ = some (.int .i64 hand0) := HA0w9.out.cell 1
  have lA0 := HA0w9.out.lt
  have cZ_0 : w9.cell? ⟨w3.heap.size, 0, none⟩ = some (.int .i64 cdW) := HZw9.out.cell 0
  have cZ_1 : w9.cell? ⟨w3.heap.size, 1, none⟩ = some (.int .i64 frW) := HZw9.out.cell 1
  have cZ_2 : w9.cell? ⟨w3.heap.size, 2, none⟩ = some ((.slice aW nW cW)) := HZw9.out.cell 2
  have cZ_3 : w9.cell? ⟨w3.heap.size, 3, none⟩ = some (.int .i64 hdW) := HZw9.out.cell 3
  have lZ := HZw9.out.lt
  have cY_0 : w9.cell? ⟨w5.heap.size, 0, none⟩ = some (.int .i64 cdW) := HYw9.out.cell 0
  have cY_1 : w9.cell? ⟨w5.heap.size, 1, none⟩ = some (.int .i64 frW) := HYw9.out.cell 1
  have cY_2 : w9.cell? ⟨w5.heap.size, 2, none⟩ = some ((.slice aG nG cG)) := HYw9.out.cell 2
  have cY_3 : w9.cell? ⟨w5.heap.size, 3, none⟩ = some (.int .i64 hdW) := HYw9.out.cell 3
  have lY := HYw9.out.lt
  go_wp2_with fail
  have hm := markPoolResult_own cdW frW hdW (.slice aG nG cG) qsG 1 w9 (by omega) (by rw [HM.out]; exact hg1) (by omega) HGw9.out
  rw [HM.out] at hm
  refine hm.mono ?_
  clear hm
  rintro e w10 ⟨rfl, ho, hk⟩
  have hzw10 := hk.size
  have HA0w10 := (show Hid (Blk w10 (w.heap.size) 24 [(.slice a0a ps0.length c0a), .int .i64 hand0]) from HA0w9.out.kept hk (fun e => by have h1 := HFG.out _ e; omega))
  have HWw10 := (show Hid (OwnR kFrame 0 46 5 w10 (.slice aW nW cW) qsW) from HWw9.out.kept hk (fun b hb e => by have h1 := HFG.out _ e; have h2 := HFW.out b hb; omega))
  have HZw10 := (show Hid (Blk w10 (w3.heap.size) 30 [.int .i64 cdW, .int .i64 frW, (.slice aW nW cW), .int .i64 hdW]) from HZw9.out.kept hk (fun e => by have h1 := HFG.out _ e; omega))
  have HYw10 := (show Hid (Blk w10 (w5.heap.size) 30 [.int .i64 cdW, .int .i64 frW, (.slice aG nG cG), .int .i64 hdW]) from HYw9.out.kept hk (fun e => by have h1 := HFG.out _ e; omega))
  have HKw10 := (show Hid (Same w w10) from HKw9.out.next hk (fun b hb e => by have h1 := HFG.out _ e; omega))
  have HUw10 := (show Hid (OwnR kFrame 0 46 5 w10 (.slice aG nG cG) (markR mFrame 1 qsG)) from ho)
  clear cA0_0 cA0_1 lA0 cZ_0 cZ_1 cZ_2 cZ_3 lZ cY_0 cY_1 cY_2 cY_3 lY
  clear hk ho
  have cA0_0 : w10.cell? ⟨w.heap.size, 0, none⟩ = some ((.slice a0a ps0.length c0a)) := HA0w10.out.cell 0
  have cA0_1 : w10.cell? ⟨w.heap.size, 1, none⟩ = some (.int .i64 hand0) := HA0w10.out.cell 1
  have lA0 := HA0w10.out.lt
  have cZ_0 : w10.cell? ⟨w3.heap.size, 0, none⟩ = some (.int .i64 cdW) := HZw10.out.cell 0
  have cZ_1 : w10.cell? ⟨w3.heap.size, 1, none⟩ = some (.int .i64 frW) := HZw10.out.cell 1
  have cZ_2 : w10.cell? ⟨w3.heap.size, 2, none⟩ = some ((.slice aW nW cW)) := HZw10.out.cell 2
  have cZ_3 : w10.cell? ⟨w3.heap.size, 3, none⟩ = some (.int .i64 hdW) := HZw10.out.cell 3
  have lZ := HZw10.out.lt
  have cY_0 : w10.cell? ⟨w5.heap.size, 0, none⟩ = some (.int .i64 cdW) := HYw10.out.cell 0
  have cY_1 : w10.cell? ⟨w5.heap.size, 1, none⟩ = some (.int .i64 frW) := HYw10.out.cell 1
  have cY_2 : w10.cell? ⟨w5.heap.size, 2, none⟩ = some ((.slice aG nG cG)) := HYw10.out.cell 2
  have cY_3 : w10.cell? ⟨w5.heap.size, 3, none⟩ = some (.int .i64 hdW) := HYw10.out.cell 3
  have lY := HYw10.out.lt
  go_wp2_with fail
  have hm := heldPoolResult_own cdW frW hdW (.slice aG nG cG) qsG 1 w10 (by omega) (by rw [HM.out]; exact hg1) (by omega) HUw10.out
  rw [HM.out] at hm
  refine hm.mono ?_
  clear hm
  rintro e w11 ⟨rfl, hk⟩
  have hkk : Same w10 w11 := hk
  have hzw11 := hkk.size
  have HA0w11 := (show Hid (Blk w11 (w.heap.size) 24 [(.slice a0a ps0.length c0a), .int .i64 hand0]) from HA0w10.out.same hkk)
  have HWw11 := (show Hid (OwnR kFrame 0 46 5 w11 (.slice aW nW cW) qsW) from HWw10.out.same hkk)
  have HZw11 := (show Hid (Blk w11 (w3.heap.size) 30 [.int .i64 cdW, .int .i64 frW, (.slice aW nW cW), .int .i64 hdW]) from HZw10.out.same hkk)
  have HYw11 := (show Hid (Blk w11 (w5.heap.size) 30 [.int .i64 cdW, .int .i64 frW, (.slice aG nG cG), .int .i64 hdW]) from HYw10.out.same hkk)
  have HUw11 := (show Hid (OwnR kFrame 0 46 5 w11 (.slice aG nG cG) (markR mFrame 1 qsG)) from HUw10.out.same hkk)
  have HKw11 := (show Hid (Same w w11) from HKw10.out.trans hkk)
  clear hkk hk
  clear cA0_0 cA0_1 lA0 cZ_0 cZ_1 cZ_2 cZ_3 lZ cY_0 cY_1 cY_2 cY_3 lY
  have cA0_0 : w11.cell? ⟨w.heap.size, 0, none⟩ = some ((.slice a0a ps0.length c0a)) := HA0w11.out.cell 0
  have cA0_1 : w11.cell? ⟨w.heap.size, 1, none⟩ = some (.int .i64 hand0) := HA0w11.out.cell 1
  have lA0 := HA0w11.out.lt
  have cZ_0 : w11.cell? ⟨w3.heap.size, 0, none⟩ = some (.int .i64 cdW) := HZw11.out.cell 0
  have cZ_1 : w11.cell? ⟨w3.heap.size, 1, none⟩ = some (.int .i64 frW) := HZw11.out.cell 1
  have cZ_2 : w11.cell? ⟨w3.heap.size, 2, none⟩ = some ((.slice aW nW cW)) := HZw11.out.cell 2
  have cZ_3 : w11.cell? ⟨w3.heap.size, 3, none⟩ = some (.int .i64 hdW) := HZw11.out.cell 3
  have lZ := HZw11.out.lt
  have cY_0 : w11.cell? ⟨w5.heap.size, 0, none⟩ = some (.int .i64 cdW) := HYw11.out.cell 0
  have cY_1 : w11.cell? ⟨w5.heap.size, 1, none⟩ = some (.int .i64 frW) := HYw11.out.cell 1
  have cY_2 : w11.cell? ⟨w5.heap.size, 2, none⟩ = some ((.slice aG nG cG)) := HYw11.out.cell 2
  have cY_3 : w11.cell? ⟨w5.heap.size, 3, none⟩ = some (.int .i64 hdW) := HYw11.out.cell 3
  have lY := HYw11.out.lt
  go_wp2_with fail
  refine (toPool_any hand0 _ ps0 _ (by omega) (fun p hp => Nat.le_trans (HS0.out p hp) (by omega)) (HV0.out.same HKw11.out)).mono ?_
  rintro e w12 ⟨gJ0, qsJ0, rfl, hq, hf, ho, hk⟩
  have HQJ0 : Hid (datFrameS qsJ0 = datFrameS ps0) := hq
  have HFJ0 := (show Hid (∀ b, footR kFrame (.slice (some ⟨gJ0, 0, none⟩) ps0.length ps0.length) qsJ0 b → w11.heap.size ≤ b ∧ b < w12.heap.size) from fun b hb => ⟨hf b hb, (ho.lt b hb).2⟩)
  have HJ0w12 := (show Hid (OwnR kFrame 0 46 5 w12 (.slice (some ⟨gJ0, 0, none⟩) ps0.length ps0.length) qsJ0) from ho)
  clear hf ho hq
  have hkk : Same w11 w12 := hk
  have hzw12 := hkk.size
  have HA0w12 := (show Hid (Blk w12 (w.heap.size) 24 [(.slice a0a ps0.length c0a), .int .i64 hand0]) from HA0w11.out.same hkk)
  have HWw12 := (show Hid (OwnR kFrame 0 46 5 w12 (.slice aW nW cW) qsW) from HWw11.out.same hkk)
  have HZw12 := (show Hid (Blk w12 (w3.heap.size) 30 [.int .i64 cdW, .int .i64 frW, (.slice aW nW cW), .int .i64 hdW]) from HZw11.out.same hkk)
  have HYw12 := (show Hid (Blk w12 (w5.heap.size) 30 [.int .i64 cdW, .int .i64 frW, (.slice aG nG cG), .int .i64 hdW]) from HYw11.out.same hkk)
  have HUw12 := (show Hid (OwnR kFrame 0 46 5 w12 (.slice aG nG cG) (markR mFrame 1 qsG)) from HUw11.out.same hkk)
  have HKw12 := (show Hid (Same w w12) from HKw11.out.trans hkk)
  clear hkk hk
  clear cA0_0 cA0_1 lA0 cZ_0 cZ_1 cZ_2 cZ_3 lZ cY_0 cY_1 cY_2 cY_3 lY
  have cA0_0 : w12.cell? ⟨w.heap.size, 0, none⟩ = some ((.slice a0a ps0.length c0a)) := HA0w12.out.cell 0
  have cA0_1 : w12.cell? ⟨w.heap.size, 1, none⟩ = some (.int .i64 hand0) := HA0w12.out.cell 1
  have lA0 := HA0w12.out.lt
  have cZ_0 : w12.cell? ⟨w3.heap.size, 0, none⟩ = some (.int .i64 cdW) := HZw12.out.cell 0
  have cZ_1 : w12.cell? ⟨w3.heap.size, 1, none⟩ = some (.int .i64 frW) := HZw12.out.cell 1
  have cZ_2 : w12.cell? ⟨w3.heap.size, 2, none⟩ = some ((.slice aW nW cW)) := HZw12.out.cell 2
  have cZ_3 : w12.cell? ⟨w3.heap.size, 3, none⟩ = some (.int .i64 hdW) := HZw12.out.cell 3
  have lZ := HZw12.out.lt
  have cY_0 : w12.cell? ⟨w5.heap.size, 0, none⟩ = some (.int .i64 cdW) := HYw12.out.cell 0
  have cY_1 : w12.cell? ⟨w5.heap.size, 1, none⟩ = some (.int .i64 frW) := HYw12.out.cell 1
  have cY_2 : w12.cell? ⟨w5.heap.size, 2, none⟩ = some ((.slice aG nG cG)) := HYw12.out.cell 2
  have cY_3 : w12.cell? ⟨w5.heap.size, 3, none⟩ = some (.int .i64 hdW) := HYw12.out.cell 3
  have lY := HYw12.out.lt
  go_wp2_with fail
  refine (implPoolVictim_any _ hand0 qsJ0 _ (HJ0w12.out.rd)).mono ?_
  rintro e w13 ⟨cdL, frL, aL, nL, cL, hdL, qsL, rfl, hR, hf, ho, hk⟩
  rw [victimP_dat HQJ0.out] at hR
  have hR2 := hR.trans HR.out.symm
  simp only [Prod.mk.injEq] at hR2
  obtain ⟨hR3, hR4, hR5, hR6⟩ := hR2
  have hR3 := hR3.symm
  have hR4 := hR4.symm
  have hR5 := hR5.symm
  subst hR3 hR4 hR5
  have HQL : Hid (datFrameS qsL = datFrameS qsW) := hR6
  clear hR6
  have HFL := (show Hid (∀ b, footR kFrame (.slice aL nL cL) qsL b → w12.heap.size ≤ b ∧ b < w13.heap.size) from fun b hb => ⟨hf b hb, (ho.lt b hb).2⟩)
  have HLw13 := (show Hid (OwnR kFrame 0 46 5 w13 (.slice aL nL cL) qsL) from ho)
  clear hf ho hR
  have hkk : Same w12 w13 := hk
  have hzw13 := hkk.size
  have HA0w13 := (show Hid (Blk w13 (w.heap.size) 24 [(.slice a0a ps0.length c0a), .int .i64 hand0]) from HA0w12.out.same hkk)
  have HWw13 := (show Hid (OwnR kFrame 0 46 5 w13 (.slice aW nW cW) qsW) from HWw12.out.same hkk)
  have HZw13 := (show Hid (Blk w13 (w3.heap.size) 30 [.int .i64 cdW, .int .i64 frW, (.slice aW nW cW), .int .i64 hdW]) from HZw12.out.same hkk)
  have HYw13 := (show Hid (Blk w13 (w5.heap.size) 30 [.int .i64 cdW, .int .i64 frW, (.slice aG nG cG), .int .i64 hdW]) from HYw12.out.same hkk)
  have HUw13 := (show Hid (OwnR kFrame 0 46 5 w13 (.slice aG nG cG) (markR mFrame 1 qsG)) from HUw12.out.same hkk)
  have HJ0w13 := (show Hid (OwnR kFrame 0 46 5 w13 (.slice (some ⟨gJ0, 0, none⟩) ps0.length ps0.length) qsJ0) from HJ0w12.out.same hkk)
  have HKw13 := (show Hid (Same w w13) from HKw12.out.trans hkk)
  clear hkk hk
  clear cA0_0 cA0_1 lA0 cZ_0 cZ_1 cZ_2 cZ_3 lZ cY_0 cY_1 cY_2 cY_3 lY
  have cA0_0 : w13.cell? ⟨w.heap.size, 0, none⟩ = some ((.slice a0a ps0.length c0a)) := HA0w13.out.cell 0
  have cA0_1 : w13.cell? ⟨w.heap.size, 1, none⟩ = some (.int .i64 hand0) := HA0w13.out.cell 1
  have lA0 := HA0w13.out.lt
  have cZ_0 : w13.cell? ⟨w3.heap.size, 0, none⟩ = some (.int .i64 cdW) := HZw13.out.cell 0
  have cZ_1 : w13.cell? ⟨w3.heap.size, 1, none⟩ = some (.int .i64 frW) := HZw13.out.cell 1
  have cZ_2 : w13.cell? ⟨w3.heap.size, 2, none⟩ = some ((.slice aW nW cW)) := HZw13.out.cell 2
  have cZ_3 : w13.cell? ⟨w3.heap.size, 3, none⟩ = some (.int .i64 hdW) := HZw13.out.cell 3
  have lZ := HZw13.out.lt
  have cY_0 : w13.cell? ⟨w5.heap.size, 0, none⟩ = some (.int .i64 cdW) := HYw13.out.cell 0
  have cY_1 : w13.cell? ⟨w5.heap.size, 1, none⟩ = some (.int .i64 frW) := HYw13.out.cell 1
  have cY_2 : w13.cell? ⟨w5.heap.size, 2, none⟩ = some ((.slice aG nG cG)) := HYw13.out.cell 2
  have cY_3 : w13.cell? ⟨w5.heap.size, 3, none⟩ = some (.int .i64 hdW) := HYw13.out.cell 3
  have lY := HYw13.out.lt
  go_wp2_with fail
  refine (eqPoolResult_own 0 cdW frW hdW _ _ qsL qsW _ (Nat.le_trans (HSM.out.of qsL HQL.out).1 (by omega)) HQL.out (fun p hp => Nat.le_trans ((HSM.out.of qsL HQL.out).2.1 p hp) (by omega)) (HLw13.out.same ((Kept.refl _ _).alloc _)) (HWw13.out.same ((Kept.refl _ _).alloc _))).mono ?_
  rintro e w14 ⟨rfl, hk⟩
  have hkk : Same w13 w14 := ((Kept.refl _ _).alloc _).trans hk
  have hzw14 := hk.size
  rw [World.size_alloc] at hzw14
  have HA0w14 := (show Hid (Blk w14 (w.heap.size) 24 [(.slice a0a ps0.length c0a), .int .i64 hand0]) from HA0w13.out.same hkk)
  have HWw14 := (show Hid (OwnR kFrame 0 46 5 w14 (.slice aW nW cW) qsW) from HWw13.out.same hkk)
  have HZw14 := (show Hid (Blk w14 (w3.heap.size) 30 [.int .i64 cdW, .int .i64 frW, (.slice aW nW cW), .int .i64 hdW]) from HZw13.out.same hkk)
  have HYw14 := (show Hid (Blk w14 (w5.heap.size) 30 [.int .i64 cdW, .int .i64 frW, (.slice aG nG cG), .int .i64 hdW]) from HYw13.out.same hkk)
  have HUw14 := (show Hid (OwnR kFrame 0 46 5 w14 (.slice aG nG cG) (markR mFrame 1 qsG)) from HUw13.out.same hkk)
  have HLw14 := (show Hid (OwnR kFrame 0 46 5 w14 (.slice aL nL cL) qsL) from HLw13.out.same hkk)
  have HVw14 := (show Hid (Blk w14 (w13.heap.size) 30 [.int .i64 cdW, .int .i64 frW, (.slice aL nL cL), .int .i64 hdW]) from (Blk.new w13 #[.int .i64 cdW, .int .i64 frW, (.slice aL nL cL), .int .i64 hdW] 30).same hk)
  have HKw14 := (show Hid (Same w w14) from HKw13.out.trans hkk)
  clear hkk hk
  clear cA0_0 cA0_1 lA0 cZ_0 cZ_1 cZ_2 cZ_3 lZ cY_0 cY_1 cY_2 cY_3 lY
  have cA0_0 : w14.cell? ⟨w.heap.size, 0, none⟩ = some ((.slice a0a ps0.length c0a)) := HA0w14.out.cell 0
  have cA0_1 : w14.cell? ⟨w.heap.size, 1, none⟩ = some (.int .i64 hand0) := HA0w14.out.cell 1
  have lA0 := HA0w14.out.lt
  have cY_0 : w14.cell? ⟨w5.heap.size, 0, none⟩ = some (.int .i64 cdW) := HYw14.out.cell 0
  have cY_1 : w14.cell? ⟨w5.heap.size, 1, none⟩ = some (.int .i64 frW) := HYw14.out.cell 1
  have cY_2 : w14.cell? ⟨w5.heap.size, 2, none⟩ = some ((.slice aG nG cG)) := HYw14.out.cell 2
  have cY_3 : w14.cell? ⟨w5.heap.size, 3, none⟩ = some (.int .i64 hdW) := HYw14.out.cell 3
  have lY := HYw14.out.lt
  go_wp2_with fail
  have hm := heldPoolResult_own cdW frW hdW (.slice aG nG cG) qsG 1 w14 (by omega) (by rw [HM.out]; exact hg1) (by omega) HUw14.out
  rw [HM.out] at hm
  refine hm.mono ?_
  clear hm
  rintro e w15 ⟨rfl, hk⟩
  have hkk : Same w14 w15 := hk
  have hzw15 := hkk.size
  have HA0w15 := (show Hid (Blk w15 (w.heap.size) 24 [(.slice a0a ps0.length c0a), .int .i64 hand0]) from HA0w14.out.same hkk)
  have HYw15 := (show Hid (Blk w15 (w5.heap.size) 30 [.int .i64 cdW, .int .i64 frW, (.slice aG nG cG), .int .i64 hdW]) from HYw14.out.same hkk)
  have HUw15 := (show Hid (OwnR kFrame 0 46 5 w15 (.slice aG nG cG) (markR mFrame 1 qsG)) from HUw14.out.same hkk)
  have HKw15 := (show Hid (Same w w15) from HKw14.out.trans hkk)
  clear hkk hk
  clear cA0_0 cA0_1 lA0 cY_0 cY_1 cY_2 cY_3 lY
  go_wp2
  go_ret
  exact ⟨rfl, HKw15.out⟩
end Go.Proofs.Ytkccodmibmpedaa
