import Derived.Test.YtmnhflanhchdeaaLogFlushedC
import Derived.Test.YtmnhflanhchdeaaG00
import Derived.Test.YtmnhflanhchdeaaG02
import Derived.Deep.DeepCutAuto
import Derived.Deep.RegionWith
import Derived.Deep.DeepMust
namespace Go.Proofs.Ytmnhflanhchdeaa
set_option maxRecDepth 100000
set_option maxHeartbeats 16000000
open Go.RowKit
set_option linter.unusedVariables false
theorem logFlushed_law (x0 : StLog) (w : World) (hv0 : StLog.rd w x0) (hB0 : x0.isB) :
    Calls Try.prog 5 #[x0.val] w fun e w' => e = .returned (.bool true) ∧ Same w w' := by
  obtain ⟨p0sectors, p0epoch, p0stop, p0flushed, ⟨p0tail_e, p0tail_a, p0tail_c, p0tail_b⟩⟩ := x0
  have HV0 := (show Hid (StLog.rd w ⟨p0sectors, p0epoch, p0stop, p0flushed, ⟨p0tail_e, p0tail_a, p0tail_c, p0tail_b⟩⟩) from hv0)
  clear hv0
  have HB0 := (show Hid (StLog.isB ⟨p0sectors, p0epoch, p0stop, p0flushed, ⟨p0tail_e, p0tail_a, p0tail_c, p0tail_b⟩⟩) from hB0)
  clear hB0
  dsimp only [StLog.val, BS.v]
  go_enter Try.func5, Try.ntmps5
  have HKw : Hid (Same w w) := Kept.refl _ _
  go_wp2_with fail
  refine (szLog_any ⟨p0sectors, p0epoch, p0stop, p0flushed, ⟨p0tail_e, p0tail_a, p0tail_c, p0tail_b⟩⟩ _ _ (by omega) (by omega) (HV0.out.same ((Kept.refl _ _).alloc _))).mono ?_
  rintro e w1 ⟨sz0, rfl, hr, hk⟩
  have hkk : Same w w1 := ((Kept.refl _ _).alloc _).trans hk
  have hzw1 := hk.size
  rw [World.size_alloc] at hzw1
  have HA0w1 := (show Hid (Blk w1 (w.heap.size) 26 [.int .i64 p0sectors, .int .i64 p0epoch, .int .i64 p0stop, .int .i64 p0flushed, .slice p0tail_a p0tail_b.length p0tail_c]) from (Blk.new w #[.int .i64 p0sectors, .int .i64 p0epoch, .int .i64 p0stop, .int .i64 p0flushed, .slice p0tail_a p0tail_b.length p0tail_c] 26).same hk)
  have HKw1 := (show Hid (Same w w1) from HKw.out.trans hkk)
  clear hkk hk
  rcases hr with rfl | ⟨hr, hr0⟩
  · go_wp2
    go_ret
    exact ⟨rfl, HKw1.out⟩
  have hsz0 : StLog.szs ⟨p0sectors, p0epoch, p0stop, p0flushed, ⟨p0tail_e, p0tail_a, p0tail_c, p0tail_b⟩⟩ ≤ 1048576 := by omega
  clear hr
  have cA0_0 := HA0w1.out.c0
  have cA0_1 := HA0w1.out.c1
  have cA0_2 := HA0w1.out.c2
  have cA0_3 := HA0w1.out.c3
  have cA0_4 := HA0w1.out.c4
  have lA0 := HA0w1.out.lt
  go_wp2_with fail
  refine (toLog_any ⟨p0sectors, p0epoch, p0stop, p0flushed, ⟨p0tail_e, p0tail_a, p0tail_c, p0tail_b⟩⟩ _ (by omega) (HV0.out.same HKw1.out)).mono ?_
  rintro e w2 ⟨⟨C0sectors, C0epoch, C0stop, C0flushed, ⟨C0tail_e, C0tail_a, C0tail_c, C0tail_b⟩⟩, rfl, hd, hz, hf, ho, hk⟩
  have HCC0 := (show Hid (StLog.dat ⟨C0sectors, C0epoch, C0stop, C0flushed, ⟨C0tail_e, C0tail_a, C0tail_c, C0tail_b⟩⟩ = StLog.dat ⟨p0sectors, p0epoch, p0stop, p0flushed, ⟨p0tail_e, p0tail_a, p0tail_c, p0tail_b⟩⟩) from hd)
  have HZC0 := (show Hid (StLog.szs ⟨C0sectors, C0epoch, C0stop, C0flushed, ⟨C0tail_e, C0tail_a, C0tail_c, C0tail_b⟩⟩ = StLog.szs ⟨p0sectors, p0epoch, p0stop, p0flushed, ⟨p0tail_e, p0tail_a, p0tail_c, p0tail_b⟩⟩) from hz)
  clear hd hz
  dsimp only [StLog.val, BS.v]
  have HFC0 := (show Hid (∀ b, FootL (StLog.rows ⟨C0sectors, C0epoch, C0stop, C0flushed, ⟨C0tail_e, C0tail_a, C0tail_c, C0tail_b⟩⟩) b → w1.heap.size ≤ b ∧ b < w2.heap.size) from fun b hb => ⟨hf b hb, ho.lt b hb⟩)
  have HC0w2 := (show Hid (OwnL w2 (StLog.rows ⟨C0sectors, C0epoch, C0stop, C0flushed, ⟨C0tail_e, C0tail_a, C0tail_c, C0tail_b⟩⟩)) from ho)
  clear hf ho
  have hkk : Same w1 w2 := hk
  have hzw2 := hkk.size
  have HA0w2 := hid (HA0w1.out.same hkk)
  have HKw2 := (show Hid (Same w w2) from HKw1.out.trans hkk)
  clear hkk hk
  clear cA0_0 cA0_1 cA0_2 cA0_3 cA0_4 lA0
  have cA0_0 := HA0w2.out.c0
  have cA0_1 := HA0w2.out.c1
  have cA0_2 := HA0w2.out.c2
  have cA0_3 := HA0w2.out.c3
  have cA0_4 := HA0w2.out.c4
  have lA0 := HA0w2.out.lt
  go_wp2_with fail
  refine (specFlushed_any ⟨C0sectors, C0epoch, C0stop, C0flushed, ⟨C0tail_e, C0tail_a, C0tail_c, C0tail_b⟩⟩ _ (StLog.isB_dat HCC0.out HB0.out) (by have := HZC0.out; omega) (StLog.own_rd HC0w2.out)).mono ?_
  rintro e w3 ⟨⟨Wsectors, Wepoch, Wstop, Wflushed, ⟨Wtail_e, Wtail_a, Wtail_c, Wtail_b⟩⟩, rfl, hd, hf, ho, hk⟩
  rw [HCC0.out] at hd
  have hnW : StLog.size ⟨Wsectors, Wepoch, Wstop, Wflushed, ⟨Wtail_e, Wtail_a, Wtail_c, Wtail_b⟩⟩ ≤ 1099511627776 := flushed_small hd (by have h := hsz0; simp only [StLog.szs] at h; dsimp only [StLog.dat]; omega)
  have hnW0 := StLog.size_le ⟨Wsectors, Wepoch, Wstop, Wflushed, ⟨Wtail_e, Wtail_a, Wtail_c, Wtail_b⟩⟩
  have HDW := (show Hid (StLog.dat ⟨Wsectors, Wepoch, Wstop, Wflushed, ⟨Wtail_e, Wtail_a, Wtail_c, Wtail_b⟩⟩ = flushed (StLog.dat ⟨p0sectors, p0epoch, p0stop, p0flushed, ⟨p0tail_e, p0tail_a, p0tail_c, p0tail_b⟩⟩)) from hd)
  dsimp only [StLog.val, BS.v]
  have HFW := (show Hid (∀ b, FootL (StLog.rows ⟨Wsectors, Wepoch, Wstop, Wflushed, ⟨Wtail_e, Wtail_a, Wtail_c, Wtail_b⟩⟩) b → w2.heap.size ≤ b ∧ b < w3.heap.size) from fun b hb => ⟨hf b hb, ho.lt b hb⟩)
  have HWw3 := (show Hid (OwnL w3 (StLog.rows ⟨Wsectors, Wepoch, Wstop, Wflushed, ⟨Wtail_e, Wtail_a, Wtail_c, Wtail_b⟩⟩)) from ho)
  clear hd hf ho
  have hkk : Same w2 w3 := hk
  have hzw3 := hkk.size
  have HA0w3 := hid (HA0w2.out.same hkk)
  have HC0w3 := hid (HC0w2.out.same hkk)
  have HKw3 := (show Hid (Same w w3) from HKw2.out.trans hkk)
  clear hkk hk
  clear cA0_0 cA0_1 cA0_2 cA0_3 cA0_4 lA0
  have cA0_0 := HA0w3.out.c0
  have cA0_1 := HA0w3.out.c1
  have cA0_2 := HA0w3.out.c2
  have cA0_3 := HA0w3.out.c3
  have cA0_4 := HA0w3.out.c4
  have lA0 := HA0w3.out.lt
  go_wp2_with fail
  refine (toLog_any ⟨p0sectors, p0epoch, p0stop, p0flushed, ⟨p0tail_e, p0tail_a, p0tail_c, p0tail_b⟩⟩ _ (by omega) (HV0.out.same (HKw3.out.alloc _))).mono ?_
  rintro e w4 ⟨⟨X0sectors, X0epoch, X0stop, X0flushed, ⟨X0tail_e, X0tail_a, X0tail_c, X0tail_b⟩⟩, rfl, hd, hz, hf, ho, hk⟩
  have HCX0 := (show Hid (StLog.dat ⟨X0sectors, X0epoch, X0stop, X0flushed, ⟨X0tail_e, X0tail_a, X0tail_c, X0tail_b⟩⟩ = StLog.dat ⟨p0sectors, p0epoch, p0stop, p0flushed, ⟨p0tail_e, p0tail_a, p0tail_c, p0tail_b⟩⟩) from hd)
  have HZX0 := (show Hid (StLog.szs ⟨X0sectors, X0epoch, X0stop, X0flushed, ⟨X0tail_e, X0tail_a, X0tail_c, X0tail_b⟩⟩ = StLog.szs ⟨p0sectors, p0epoch, p0stop, p0flushed, ⟨p0tail_e, p0tail_a, p0tail_c, p0tail_b⟩⟩) from hz)
  clear hd hz
  dsimp only [StLog.val, BS.v]
  simp only [World.size_alloc] at hf
  have HFX0 := (show Hid (∀ b, FootL (StLog.rows ⟨X0sectors, X0epoch, X0stop, X0flushed, ⟨X0tail_e, X0tail_a, X0tail_c, X0tail_b⟩⟩) b → w3.heap.size < b ∧ b < w4.heap.size) from fun b hb => ⟨by have := hf b hb; omega, ho.lt b hb⟩)
  have HX0w4 := (show Hid (OwnL w4 (StLog.rows ⟨X0sectors, X0epoch, X0stop, X0flushed, ⟨X0tail_e, X0tail_a, X0tail_c, X0tail_b⟩⟩)) from ho)
  clear hf ho
  have hkk : Same w3 w4 := ((Kept.refl _ _).alloc _).trans hk
  have hzw4 := hk.size
  rw [World.size_alloc] at hzw4
  have HA0w4 := hid (HA0w3.out.same hkk)
  have HWw4 := hid (HWw3.out.same hkk)
  have HZw4 := (show Hid (Blk w4 (w3.heap.size) 29 [.int .i64 Wsectors, .int .i64 Wepoch, .int .i64 Wstop, .int .i64 Wflushed, .slice Wtail_a Wtail_b.length Wtail_c]) from (Blk.new w3 #[.int .i64 Wsectors, .int .i64 Wepoch, .int .i64 Wstop, .int .i64 Wflushed, .slice Wtail_a Wtail_b.length Wtail_c] 29).same hk)
  have HKw4 := (show Hid (Same w w4) from HKw3.out.trans hkk)
  clear hkk hk
  clear cA0_0 cA0_1 cA0_2 cA0_3 cA0_4 lA0
  have cA0_0 := HA0w4.out.c0
  have cA0_1 := HA0w4.out.c1
  have cA0_2 := HA0w4.out.c2
  have cA0_3 := HA0w4.out.c3
  have cA0_4 := HA0w4.out.c4
  have lA0 := HA0w4.out.lt
  have cZ_0 := HZw4.out.c0
  have cZ_1 := HZw4.out.c1
  have cZ_2 := HZw4.out.c2
  have cZ_3 := HZw4.out.c3
  have cZ_4 := HZw4.out.c4
  have lZ := HZw4.out.lt
  go_wp2_with fail
  refine (implFlushed_any ⟨X0sectors, X0epoch, X0stop, X0flushed, ⟨X0tail_e, X0tail_a, X0tail_c, X0tail_b⟩⟩ _ (StLog.isB_dat HCX0.out HB0.out) (by have := HZX0.out; omega) (StLog.own_rd (HX0w4.out.same ((Kept.refl _ _).alloc _)))).mono ?_
  rintro e w5 ⟨⟨Gsectors, Gepoch, Gstop, Gflushed, ⟨Gtail_e, Gtail_a, Gtail_c, Gtail_b⟩⟩, rfl, hd, hf, ho, hk⟩
  rw [HCX0.out] at hd
  have hnG : StLog.size ⟨Gsectors, Gepoch, Gstop, Gflushed, ⟨Gtail_e, Gtail_a, Gtail_c, Gtail_b⟩⟩ ≤ 1099511627776 := flushed_small hd (by have h := hsz0; simp only [StLog.szs] at h; dsimp only [StLog.dat]; omega)
  have hnG0 := StLog.size_le ⟨Gsectors, Gepoch, Gstop, Gflushed, ⟨Gtail_e, Gtail_a, Gtail_c, Gtail_b⟩⟩
  have HDG := (show Hid (StLog.dat ⟨Gsectors, Gepoch, Gstop, Gflushed, ⟨Gtail_e, Gtail_a, Gtail_c, Gtail_b⟩⟩ = flushed (StLog.dat ⟨p0sectors, p0epoch, p0stop, p0flushed, ⟨p0tail_e, p0tail_a, p0tail_c, p0tail_b⟩⟩)) from hd)
  dsimp only [StLog.val, BS.v]
  simp only [World.size_alloc] at hf
  have HFG := (show Hid (∀ b, FootL (StLog.rows ⟨Gsectors, Gepoch, Gstop, Gflushed, ⟨Gtail_e, Gtail_a, Gtail_c, Gtail_b⟩⟩) b → w4.heap.size < b ∧ b < w5.heap.size) from fun b hb => ⟨by have := hf b hb; omega, ho.lt b hb⟩)
  have HGw5 := (show Hid (OwnL w5 (StLog.rows ⟨Gsectors, Gepoch, Gstop, Gflushed, ⟨Gtail_e, Gtail_a, Gtail_c, Gtail_b⟩⟩)) from ho)
  clear hd hf ho
  have hkk : Same w4 w5 := ((Kept.refl _ _).alloc _).trans hk
  have hzw5 := hk.size
  rw [World.size_alloc] at hzw5
  have HA0w5 := hid (HA0w4.out.same hkk)
  have HWw5 := hid (HWw4.out.same hkk)
  have HZw5 := hid (HZw4.out.same hkk)
  have HX0w5 := hid (HX0w4.out.same hkk)
  have HT0w5 := (show Hid (Blk w5 (w4.heap.size) 29 [.int .i64 X0sectors, .int .i64 X0epoch, .int .i64 X0stop, .int .i64 X0flushed, .slice X0tail_a X0tail_b.length X0tail_c]) from (Blk.new w4 #[.int .i64 X0sectors, .int .i64 X0epoch, .int .i64 X0stop, .int .i64 X0flushed, .slice X0tail_a X0tail_b.length X0tail_c] 29).same hk)
  have HKw5 := (show Hid (Same w w5) from HKw4.out.trans hkk)
  clear hkk hk
  clear cA0_0 cA0_1 cA0_2 cA0_3 cA0_4 lA0 cZ_0 cZ_1 cZ_2 cZ_3 cZ_4 lZ
  have cA0_0 := HA0w5.out.c0
  have cA0_1 := HA0w5.out.c1
  have cA0_2 := HA0w5.out.c2
  have cA0_3 := HA0w5.out.c3
  have cA0_4 := HA0w5.out.c4
  have lA0 := HA0w5.out.lt
  have cZ_0 := HZw5.out.c0
  have cZ_1 := HZw5.out.c1
  have cZ_2 := HZw5.out.c2
  have cZ_3 := HZw5.out.c3
  have cZ_4 := HZw5.out.c4
  have lZ := HZw5.out.lt
  have cT0_0 := HT0w5.out.c0
  have cT0_1 := HT0w5.out.c1
  have cT0_2 := HT0w5.out.c2
  have cT0_3 := HT0w5.out.c3
  have cT0_4 := HT0w5.out.c4
  have lT0 := HT0w5.out.lt
  go_wp2_with fail
  refine (eqLog_own ⟨Gsectors, Gepoch, Gstop, Gflushed, ⟨Gtail_e, Gtail_a, Gtail_c, Gtail_b⟩⟩ ⟨Wsectors, Wepoch, Wstop, Wflushed, ⟨Wtail_e, Wtail_a, Wtail_c, Wtail_b⟩⟩ _ (by omega) (HDG.out.trans HDW.out.symm) (HGw5.out.same ((Kept.refl _ _).alloc _)) (HWw5.out.same ((Kept.refl _ _).alloc _))).mono ?_
  rintro e w6 ⟨rfl, hk⟩
  have hkk : Same w5 w6 := ((Kept.refl _ _).alloc _).trans hk
  have hzw6 := hk.size
  rw [World.size_alloc] at hzw6
  have HA0w6 := hid (HA0w5.out.same hkk)
  have HWw6 := hid (HWw5.out.same hkk)
  have HZw6 := hid (HZw5.out.same hkk)
  have HX0w6 := hid (HX0w5.out.same hkk)
  have HT0w6 := hid (HT0w5.out.same hkk)
  have HGw6 := hid (HGw5.out.same hkk)
  have HYw6 := (show Hid (Blk w6 (w5.heap.size) 29 [.int .i64 Gsectors, .int .i64 Gepoch, .int .i64 Gstop, .int .i64 Gflushed, .slice Gtail_a Gtail_b.length Gtail_c]) from (Blk.new w5 #[.int .i64 Gsectors, .int .i64 Gepoch, .int .i64 Gstop, .int .i64 Gflushed, .slice Gtail_a Gtail_b.length Gtail_c] 29).same hk)
  have HKw6 := (show Hid (Same w w6) from HKw5.out.trans hkk)
  clear hkk hk
  clear cA0_0 cA0_1 cA0_2 cA0_3 cA0_4 lA0 cZ_0 cZ_1 cZ_2 cZ_3 cZ_4 lZ cT0_0 cT0_1 cT0_2 cT0_3 cT0_4 lT0
  have cA0_0 := HA0w6.out.c0
  have cA0_1 := HA0w6.out.c1
  have cA0_2 := HA0w6.out.c2
  have cA0_3 := HA0w6.out.c3
  have cA0_4 := HA0w6.out.c4
  have lA0 := HA0w6.out.lt
  have cZ_0 := HZw6.out.c0
  have cZ_1 := HZw6.out.c1
  have cZ_2 := HZw6.out.c2
  have cZ_3 := HZw6.out.c3
  have cZ_4 := HZw6.out.c4
  have lZ := HZw6.out.lt
  have cT0_0 := HT0w6.out.c0
  have cT0_1 := HT0w6.out.c1
  have cT0_2 := HT0w6.out.c2
  have cT0_3 := HT0w6.out.c3
  have cT0_4 := HT0w6.out.c4
  have lT0 := HT0w6.out.lt
  have cY_0 := HYw6.out.c0
  have cY_1 := HYw6.out.c1
  have cY_2 := HYw6.out.c2
  have cY_3 := HYw6.out.c3
  have cY_4 := HYw6.out.c4
  have lY := HYw6.out.lt
  go_wp2_with fail
  go_cut [31] (fun v wc => v = .bool false ∧ Hid (Same w6 wc))
  case first =>
    have HD1 : Hid (Same w w6.drew) := HKw6.out.drew
    have HD2 : Hid (Same w6 w6.drew) := (Kept.refl _ _).drew
    go_region_with (first | (go_at_call 11; refine (toLog_any ⟨p0sectors, p0epoch, p0stop, p0flushed, ⟨p0tail_e, p0tail_a, p0tail_c, p0tail_b⟩⟩ _ (by omega) (by exact HV0.out.same HD1.out)).mono ?_; rintro e wx7 ⟨⟨zsectors, zepoch, zstop, zflushed, ⟨ztail_e, ztail_a, ztail_c, ztail_b⟩⟩, rfl, hd7, _, hf7, ho7, hk7⟩; have HO7 := (show Hid (OwnL wx7 (StLog.rows ⟨zsectors, zepoch, zstop, zflushed, ⟨ztail_e, ztail_a, ztail_c, ztail_b⟩⟩)) from ho7); have HQ7 := (show Hid (StLog.dat ⟨zsectors, zepoch, zstop, zflushed, ⟨ztail_e, ztail_a, ztail_c, ztail_b⟩⟩ = StLog.dat ⟨p0sectors, p0epoch, p0stop, p0flushed, ⟨p0tail_e, p0tail_a, p0tail_c, p0tail_b⟩⟩) from hd7); have HK7 : Hid (Same w6 wx7) := HD2.out.trans hk7; clear ho7 hd7 hf7 hk7; dsimp only [StLog.val, BS.v]; have y0 : wx7.cell? ⟨w4.heap.size, 0, none⟩ = some (.int .i64 X0sectors) := (HT0w6.out.same HK7.out).cell 0; have y1 : wx7.cell? ⟨w4.heap.size, 1, none⟩ = some (.int .i64 X0epoch) := (HT0w6.out.same HK7.out).cell 1; have y2 : wx7.cell? ⟨w4.heap.size, 2, none⟩ = some (.int .i64 X0stop) := (HT0w6.out.same HK7.out).cell 2; have y3 : wx7.cell? ⟨w4.heap.size, 3, none⟩ = some (.int .i64 X0flushed) := (HT0w6.out.same HK7.out).cell 3; have y4 : wx7.cell? ⟨w4.heap.size, 4, none⟩ = some (.slice X0tail_a X0tail_b.length X0tail_c) := (HT0w6.out.same HK7.out).cell 4) | (go_at_call 13; refine (eqLog_own ⟨X0sectors, X0epoch, X0stop, X0flushed, ⟨X0tail_e, X0tail_a, X0tail_c, X0tail_b⟩⟩ ⟨zsectors, zepoch, zstop, zflushed, ⟨ztail_e, ztail_a, ztail_c, ztail_b⟩⟩ _ (by have h1 := StLog.size_rd (StLog.own_rd HX0w6.out); have h2 := HZX0.out; omega) (HCX0.out.trans HQ7.out.symm) (HX0w6.out.same HK7.out) HO7.out).mono ?_; rintro e wx8 ⟨rfl, hk8⟩))
    all_goals
      have HK8 : Hid (Same w6 wx8) := HK7.out.trans hk8
      clear hk8
      go_wp2_with fail
      go_meet
      case rel => exact ⟨rfl, HK8⟩
  case rest =>
  obtain ⟨rfl, HKC⟩ := hcut
  obtain ⟨w7, hwc⟩ : ∃ x, x = wc := ⟨_, rfl⟩
  subst hwc
  clear cA0_0 cA0_1 cA0_2 cA0_3 cA0_4 lA0 cZ_0 cZ_1 cZ_2 cZ_3 cZ_4 lZ cT0_0 cT0_1 cT0_2 cT0_3 cT0_4 lT0 cY_0 cY_1 cY_2 cY_3 cY_4 lY
  have hkk : Same w6 w7 := HKC.out
  have hzw7 := hkk.size
  have HA0w7 := hid (HA0w6.out.same hkk)
  have HWw7 := hid (HWw6.out.same hkk)
  have HZw7 := hid (HZw6.out.same hkk)
  have HX0w7 := hid (HX0w6.out.same hkk)
  have HT0w7 := hid (HT0w6.out.same hkk)
  have HGw7 := hid (HGw6.out.same hkk)
  have HYw7 := hid (HYw6.out.same hkk)
  have HKw7 := (show Hid (Same w w7) from HKw6.out.trans hkk)
  clear hkk
  have hE0 : (0 : Int) ≤ 1 := by omega
  have hE0b : (1 : Int) ≤ 1 := by omega
  have hxz0 := StLog.size_rd (StLog.own_rd HX0w7.out)
  have hxy0 := HZX0.out
  have hxx0 := StLog.size_le ⟨X0sectors, X0epoch, X0stop, X0flushed, ⟨X0tail_e, X0tail_a, X0tail_c, X0tail_b⟩⟩
  obtain ⟨E1, hE⟩ : ∃ E, 1 + StLog.size ⟨X0sectors, X0epoch, X0stop, X0flushed, ⟨X0tail_e, X0tail_a, X0tail_c, X0tail_b⟩⟩ = E := ⟨_, rfl⟩
  have hE1 : 0 ≤ E1 := by omega
  have hE1b : E1 ≤ 5000001 := by omega
  have HE1 := (show Hid (1 + StLog.size ⟨X0sectors, X0epoch, X0stop, X0flushed, ⟨X0tail_e, X0tail_a, X0tail_c, X0tail_b⟩⟩ = E1) from hE)
  clear hE hxz0 hxy0 hxx0
  have cA0_0 := HA0w7.out.c0
  have cA0_1 := HA0w7.out.c1
  have cA0_2 := HA0w7.out.c2
  have cA0_3 := HA0w7.out.c3
  have cA0_4 := HA0w7.out.c4
  have lA0 := HA0w7.out.lt
  have cZ_0 := HZw7.out.c0
  have cZ_1 := HZw7.out.c1
  have cZ_2 := HZw7.out.c2
  have cZ_3 := HZw7.out.c3
  have cZ_4 := HZw7.out.c4
  have lZ := HZw7.out.lt
  have cT0_0 := HT0w7.out.c0
  have cT0_1 := HT0w7.out.c1
  have cT0_2 := HT0w7.out.c2
  have cT0_3 := HT0w7.out.c3
  have cT0_4 := HT0w7.out.c4
  have lT0 := HT0w7.out.lt
  have cY_0 := HYw7.out.c0
  have cY_1 := HYw7.out.c1
  have cY_2 := HYw7.out.c2
  have cY_3 := HYw7.out.c3
  have cY_4 := HYw7.out.c4
  have lY := HYw7.out.lt
  go_wp2_with fail
  have hm := markLog_own ⟨X0sectors, X0epoch, X0stop, X0flushed, ⟨X0tail_e, X0tail_a, X0tail_c, X0tail_b⟩⟩ 1 w7 (by omega) (by rw [HE1.out]; omega) HX0w7.out
  rw [HE1.out] at hm
  dsimp only [StLog.val, BS.v] at hm
  refine hm.mono ?_
  clear hm
  rintro e w8 ⟨rfl, _, hk⟩
  have hzw8 := hk.size
  have HA0w8 := (show Hid (Blk w8 (w.heap.size) 26 [.int .i64 p0sectors, .int .i64 p0epoch, .int .i64 p0stop, .int .i64 p0flushed, .slice p0tail_a p0tail_b.length p0tail_c]) from HA0w7.out.kept hk (fun e => by have h1 := HFX0.out _ e; omega))
  have HWw8 := (show Hid (OwnL w8 (StLog.rows ⟨Wsectors, Wepoch, Wstop, Wflushed, ⟨Wtail_e, Wtail_a, Wtail_c, Wtail_b⟩⟩)) from HWw7.out.kept hk (fun b hb e => by have h1 := HFX0.out _ e; have h2 := HFW.out b hb; omega))
  have HZw8 := (show Hid (Blk w8 (w3.heap.size) 29 [.int .i64 Wsectors, .int .i64 Wepoch, .int .i64 Wstop, .int .i64 Wflushed, .slice Wtail_a Wtail_b.length Wtail_c]) from HZw7.out.kept hk (fun e => by have h1 := HFX0.out _ e; omega))
  have HT0w8 := (show Hid (Blk w8 (w4.heap.size) 29 [.int .i64 X0sectors, .int .i64 X0epoch, .int .i64 X0stop, .int .i64 X0flushed, .slice X0tail_a X0tail_b.length X0tail_c]) from HT0w7.out.kept hk (fun e => by have h1 := HFX0.out _ e; omega))
  have HGw8 := (show Hid (OwnL w8 (StLog.rows ⟨Gsectors, Gepoch, Gstop, Gflushed, ⟨Gtail_e, Gtail_a, Gtail_c, Gtail_b⟩⟩)) from HGw7.out.kept hk (fun b hb e => by have h1 := HFX0.out _ e; have h2 := HFG.out b hb; omega))
  have HYw8 := (show Hid (Blk w8 (w5.heap.size) 29 [.int .i64 Gsectors, .int .i64 Gepoch, .int .i64 Gstop, .int .i64 Gflushed, .slice Gtail_a Gtail_b.length Gtail_c]) from HYw7.out.kept hk (fun e => by have h1 := HFX0.out _ e; omega))
  have HKw8 := (show Hid (Same w w8) from HKw7.out.next hk (fun b hb e => by have h1 := HFX0.out _ e; omega))
  clear cA0_0 cA0_1 cA0_2 cA0_3 cA0_4 lA0 cZ_0 cZ_1 cZ_2 cZ_3 cZ_4 lZ cT0_0 cT0_1 cT0_2 cT0_3 cT0_4 lT0 cY_0 cY_1 cY_2 cY_3 cY_4 lY
  clear hk
  have hEn : ¬ E1 < 0 := by omega
  have cA0_0 := HA0w8.out.c0
  have cA0_1 := HA0w8.out.c1
  have cA0_2 := HA0w8.out.c2
  have cA0_3 := HA0w8.out.c3
  have cA0_4 := HA0w8.out.c4
  have lA0 := HA0w8.out.lt
  have cZ_0 := HZw8.out.c0
  have cZ_1 := HZw8.out.c1
  have cZ_2 := HZw8.out.c2
  have cZ_3 := HZw8.out.c3
  have cZ_4 := HZw8.out.c4
  have lZ := HZw8.out.lt
  have cY_0 := HYw8.out.c0
  have cY_1 := HYw8.out.c1
  have cY_2 := HYw8.out.c2
  have cY_3 := HYw8.out.c3
  have cY_4 := HYw8.out.c4
  have lY := HYw8.out.lt
  go_wp2_with fail
  refine (eqLog_own ⟨Gsectors, Gepoch, Gstop, Gflushed, ⟨Gtail_e, Gtail_a, Gtail_c, Gtail_b⟩⟩ ⟨Wsectors, Wepoch, Wstop, Wflushed, ⟨Wtail_e, Wtail_a, Wtail_c, Wtail_b⟩⟩ _ (by omega) (HDG.out.trans HDW.out.symm) HGw8.out HWw8.out).mono ?_
  rintro e w9 ⟨rfl, hk⟩
  have hkk : Same w8 w9 := hk
  have hzw9 := hkk.size
  have HA0w9 := hid (HA0w8.out.same hkk)
  have HWw9 := hid (HWw8.out.same hkk)
  have HZw9 := hid (HZw8.out.same hkk)
  have HGw9 := hid (HGw8.out.same hkk)
  have HYw9 := hid (HYw8.out.same hkk)
  have HKw9 := (show Hid (Same w w9) from HKw8.out.trans hkk)
  clear hkk hk
  clear cA0_0 cA0_1 cA0_2 cA0_3 cA0_4 lA0 cZ_0 cZ_1 cZ_2 cZ_3 cZ_4 lZ cY_0 cY_1 cY_2 cY_3 cY_4 lY
  have hM2 : ¬ (1 + StLog.size ⟨Gsectors, Gepoch, Gstop, Gflushed, ⟨Gtail_e, Gtail_a, Gtail_c, Gtail_b⟩⟩) < 0 := by omega
  obtain ⟨M, hM⟩ : ∃ M, 1 + StLog.size ⟨Gsectors, Gepoch, Gstop, Gflushed, ⟨Gtail_e, Gtail_a, Gtail_c, Gtail_b⟩⟩ = M := ⟨_, rfl⟩
  have HM := (show Hid (1 + StLog.size ⟨Gsectors, Gepoch, Gstop, Gflushed, ⟨Gtail_e, Gtail_a, Gtail_c, Gtail_b⟩⟩ = M) from hM)
  have hM3 : 0 ≤ M ∧ M ≤ 1125899906842624 := by omega
  rw [hM] at hM2
  clear hM
  have cA0_0 := HA0w9.out.c0
  have cA0_1 := HA0w9.out.c1
  have cA0_2 := HA0w9.out.c2
  have cA0_3 := HA0w9.out.c3
  have cA0_4 := HA0w9.out.c4
  have lA0 := HA0w9.out.lt
  have cZ_0 := HZw9.out.c0
  have cZ_1 := HZw9.out.c1
  have cZ_2 := HZw9.out.c2
  have cZ_3 := HZw9.out.c3
  have cZ_4 := HZw9.out.c4
  have lZ := HZw9.out.lt
  have cY_0 := HYw9.out.c0
  have cY_1 := HYw9.out.c1
  have cY_2 := HYw9.out.c2
  have cY_3 := HYw9.out.c3
  have cY_4 := HYw9.out.c4
  have lY := HYw9.out.lt
  go_wp2_with fail
  have hm := markLog_own ⟨Gsectors, Gepoch, Gstop, Gflushed, ⟨Gtail_e, Gtail_a, Gtail_c, Gtail_b⟩⟩ 1 w9 (by omega) (by rw [HM.out]; omega) HGw9.out
  rw [HM.out] at hm
  dsimp only [StLog.val, BS.v] at hm
  refine hm.mono ?_
  clear hm
  rintro e w10 ⟨rfl, ho, hk⟩
  have hzw10 := hk.size
  have HA0w10 := (show Hid (Blk w10 (w.heap.size) 26 [.int .i64 p0sectors, .int .i64 p0epoch, .int .i64 p0stop, .int .i64 p0flushed, .slice p0tail_a p0tail_b.length p0tail_c]) from HA0w9.out.kept hk (fun e => by have h1 := HFG.out _ e; omega))
  have HWw10 := (show Hid (OwnL w10 (StLog.rows ⟨Wsectors, Wepoch, Wstop, Wflushed, ⟨Wtail_e, Wtail_a, Wtail_c, Wtail_b⟩⟩)) from HWw9.out.kept hk (fun b hb e => by have h1 := HFG.out _ e; have h2 := HFW.out b hb; omega))
  have HZw10 := (show Hid (Blk w10 (w3.heap.size) 29 [.int .i64 Wsectors, .int .i64 Wepoch, .int .i64 Wstop, .int .i64 Wflushed, .slice Wtail_a Wtail_b.length Wtail_c]) from HZw9.out.kept hk (fun e => by have h1 := HFG.out _ e; omega))
  have HYw10 := (show Hid (Blk w10 (w5.heap.size) 29 [.int .i64 Gsectors, .int .i64 Gepoch, .int .i64 Gstop, .int .i64 Gflushed, .slice Gtail_a Gtail_b.length Gtail_c]) from HYw9.out.kept hk (fun e => by have h1 := HFG.out _ e; omega))
  have HKw10 := (show Hid (Same w w10) from HKw9.out.next hk (fun b hb e => by have h1 := HFG.out _ e; omega))
  have HUw10 := (show Hid (OwnL w10 (StLog.marked ⟨Gsectors, Gepoch, Gstop, Gflushed, ⟨Gtail_e, Gtail_a, Gtail_c, Gtail_b⟩⟩ 1).rows) from ho)
  clear cA0_0 cA0_1 cA0_2 cA0_3 cA0_4 lA0 cZ_0 cZ_1 cZ_2 cZ_3 cZ_4 lZ cY_0 cY_1 cY_2 cY_3 cY_4 lY
  clear hk ho
  have HFU := (show Hid (∀ b, FootL (StLog.marked ⟨Gsectors, Gepoch, Gstop, Gflushed, ⟨Gtail_e, Gtail_a, Gtail_c, Gtail_b⟩⟩ 1).rows b → _ ∧ _) from fun b hb => HFG.out b ((StLog.foot_marked _ _ b).1 hb))
  have cA0_0 := HA0w10.out.c0
  have cA0_1 := HA0w10.out.c1
  have cA0_2 := HA0w10.out.c2
  have cA0_3 := HA0w10.out.c3
  have cA0_4 := HA0w10.out.c4
  have lA0 := HA0w10.out.lt
  have cZ_0 := HZw10.out.c0
  have cZ_1 := HZw10.out.c1
  have cZ_2 := HZw10.out.c2
  have cZ_3 := HZw10.out.c3
  have cZ_4 := HZw10.out.c4
  have lZ := HZw10.out.lt
  have cY_0 := HYw10.out.c0
  have cY_1 := HYw10.out.c1
  have cY_2 := HYw10.out.c2
  have cY_3 := HYw10.out.c3
  have cY_4 := HYw10.out.c4
  have lY := HYw10.out.lt
  go_wp2_with fail
  have hm := heldLog_own ⟨Gsectors, Gepoch, Gstop, Gflushed, ⟨Gtail_e, Gtail_a, Gtail_c, Gtail_b⟩⟩ 1 w10 (by omega) (by rw [HM.out]; omega) HUw10.out
  rw [HM.out] at hm
  dsimp only [StLog.val, BS.v] at hm
  refine hm.mono ?_
  clear hm
  rintro e w11 ⟨rfl, hk⟩
  have hkk : Same w10 w11 := hk
  have hzw11 := hkk.size
  have HA0w11 := hid (HA0w10.out.same hkk)
  have HWw11 := hid (HWw10.out.same hkk)
  have HZw11 := hid (HZw10.out.same hkk)
  have HYw11 := hid (HYw10.out.same hkk)
  have HUw11 := hid (HUw10.out.same hkk)
  have HKw11 := (show Hid (Same w w11) from HKw10.out.trans hkk)
  clear hkk hk
  clear cA0_0 cA0_1 cA0_2 cA0_3 cA0_4 lA0 cZ_0 cZ_1 cZ_2 cZ_3 cZ_4 lZ cY_0 cY_1 cY_2 cY_3 cY_4 lY
  have cA0_0 := HA0w11.out.c0
  have cA0_1 := HA0w11.out.c1
  have cA0_2 := HA0w11.out.c2
  have cA0_3 := HA0w11.out.c3
  have cA0_4 := HA0w11.out.c4
  have lA0 := HA0w11.out.lt
  have cZ_0 := HZw11.out.c0
  have cZ_1 := HZw11.out.c1
  have cZ_2 := HZw11.out.c2
  have cZ_3 := HZw11.out.c3
  have cZ_4 := HZw11.out.c4
  have lZ := HZw11.out.lt
  have cY_0 := HYw11.out.c0
  have cY_1 := HYw11.out.c1
  have cY_2 := HYw11.out.c2
  have cY_3 := HYw11.out.c3
  have cY_4 := HYw11.out.c4
  have lY := HYw11.out.lt
  go_wp2_with fail
  refine (toLog_any ⟨p0sectors, p0epoch, p0stop, p0flushed, ⟨p0tail_e, p0tail_a, p0tail_c, p0tail_b⟩⟩ _ (by omega) (HV0.out.same HKw11.out)).mono ?_
  rintro e w12 ⟨⟨J0sectors, J0epoch, J0stop, J0flushed, ⟨J0tail_e, J0tail_a, J0tail_c, J0tail_b⟩⟩, rfl, hd, hz, hf, ho, hk⟩
  have HCJ0 := (show Hid (StLog.dat ⟨J0sectors, J0epoch, J0stop, J0flushed, ⟨J0tail_e, J0tail_a, J0tail_c, J0tail_b⟩⟩ = StLog.dat ⟨p0sectors, p0epoch, p0stop, p0flushed, ⟨p0tail_e, p0tail_a, p0tail_c, p0tail_b⟩⟩) from hd)
  have HZJ0 := (show Hid (StLog.szs ⟨J0sectors, J0epoch, J0stop, J0flushed, ⟨J0tail_e, J0tail_a, J0tail_c, J0tail_b⟩⟩ = StLog.szs ⟨p0sectors, p0epoch, p0stop, p0flushed, ⟨p0tail_e, p0tail_a, p0tail_c, p0tail_b⟩⟩) from hz)
  clear hd hz
  dsimp only [StLog.val, BS.v]
  have HFJ0 := (show Hid (∀ b, FootL (StLog.rows ⟨J0sectors, J0epoch, J0stop, J0flushed, ⟨J0tail_e, J0tail_a, J0tail_c, J0tail_b⟩⟩) b → w11.heap.size ≤ b ∧ b < w12.heap.size) from fun b hb => ⟨hf b hb, ho.lt b hb⟩)
  have HJ0w12 := (show Hid (OwnL w12 (StLog.rows ⟨J0sectors, J0epoch, J0stop, J0flushed, ⟨J0tail_e, J0tail_a, J0tail_c, J0tail_b⟩⟩)) from ho)
  clear hf ho
  have hkk : Same w11 w12 := hk
  have hzw12 := hkk.size
  have HA0w12 := hid (HA0w11.out.same hkk)
  have HWw12 := hid (HWw11.out.same hkk)
  have HZw12 := hid (HZw11.out.same hkk)
  have HYw12 := hid (HYw11.out.same hkk)
  have HUw12 := hid (HUw11.out.same hkk)
  have HKw12 := (show Hid (Same w w12) from HKw11.out.trans hkk)
  clear hkk hk
  clear cA0_0 cA0_1 cA0_2 cA0_3 cA0_4 lA0 cZ_0 cZ_1 cZ_2 cZ_3 cZ_4 lZ cY_0 cY_1 cY_2 cY_3 cY_4 lY
  have cA0_0 := HA0w12.out.c0
  have cA0_1 := HA0w12.out.c1
  have cA0_2 := HA0w12.out.c2
  have cA0_3 := HA0w12.out.c3
  have cA0_4 := HA0w12.out.c4
  have lA0 := HA0w12.out.lt
  have cZ_0 := HZw12.out.c0
  have cZ_1 := HZw12.out.c1
  have cZ_2 := HZw12.out.c2
  have cZ_3 := HZw12.out.c3
  have cZ_4 := HZw12.out.c4
  have lZ := HZw12.out.lt
  have cY_0 := HYw12.out.c0
  have cY_1 := HYw12.out.c1
  have cY_2 := HYw12.out.c2
  have cY_3 := HYw12.out.c3
  have cY_4 := HYw12.out.c4
  have lY := HYw12.out.lt
  go_wp2_with fail
  refine (implFlushed_any ⟨J0sectors, J0epoch, J0stop, J0flushed, ⟨J0tail_e, J0tail_a, J0tail_c, J0tail_b⟩⟩ _ (StLog.isB_dat HCJ0.out HB0.out) (by have := HZJ0.out; omega) (StLog.own_rd HJ0w12.out)).mono ?_
  rintro e w13 ⟨⟨Lsectors, Lepoch, Lstop, Lflushed, ⟨Ltail_e, Ltail_a, Ltail_c, Ltail_b⟩⟩, rfl, hd, hf, ho, hk⟩
  rw [HCJ0.out] at hd
  have hnL : StLog.size ⟨Lsectors, Lepoch, Lstop, Lflushed, ⟨Ltail_e, Ltail_a, Ltail_c, Ltail_b⟩⟩ ≤ 1099511627776 := flushed_small hd (by have h := hsz0; simp only [StLog.szs] at h; dsimp only [StLog.dat]; omega)
  have hnL0 := StLog.size_le ⟨Lsectors, Lepoch, Lstop, Lflushed, ⟨Ltail_e, Ltail_a, Ltail_c, Ltail_b⟩⟩
  have HDL := (show Hid (StLog.dat ⟨Lsectors, Lepoch, Lstop, Lflushed, ⟨Ltail_e, Ltail_a, Ltail_c, Ltail_b⟩⟩ = flushed (StLog.dat ⟨p0sectors, p0epoch, p0stop, p0flushed, ⟨p0tail_e, p0tail_a, p0tail_c, p0tail_b⟩⟩)) from hd)
  dsimp only [StLog.val, BS.v]
  have HFL := (show Hid (∀ b, FootL (StLog.rows ⟨Lsectors, Lepoch, Lstop, Lflushed, ⟨Ltail_e, Ltail_a, Ltail_c, Ltail_b⟩⟩) b → w12.heap.size ≤ b ∧ b < w13.heap.size) from fun b hb => ⟨hf b hb, ho.lt b hb⟩)
  have HLw13 := (show Hid (OwnL w13 (StLog.rows ⟨Lsectors, Lepoch, Lstop, Lflushed, ⟨Ltail_e, Ltail_a, Ltail_c, Ltail_b⟩⟩)) from ho)
  clear hd hf ho
  have hkk : Same w12 w13 := hk
  have hzw13 := hkk.size
  have HA0w13 := hid (HA0w12.out.same hkk)
  have HWw13 := hid (HWw12.out.same hkk)
  have HZw13 := hid (HZw12.out.same hkk)
  have HYw13 := hid (HYw12.out.same hkk)
  have HUw13 := hid (HUw12.out.same hkk)
  have HJ0w13 := hid (HJ0w12.out.same hkk)
  have HKw13 := (show Hid (Same w w13) from HKw12.out.trans hkk)
  clear hkk hk
  clear cA0_0 cA0_1 cA0_2 cA0_3 cA0_4 lA0 cZ_0 cZ_1 cZ_2 cZ_3 cZ_4 lZ cY_0 cY_1 cY_2 cY_3 cY_4 lY
  have cA0_0 := HA0w13.out.c0
  have cA0_1 := HA0w13.out.c1
  have cA0_2 := HA0w13.out.c2
  have cA0_3 := HA0w13.out.c3
  have cA0_4 := HA0w13.out.c4
  have lA0 := HA0w13.out.lt
  have cZ_0 := HZw13.out.c0
  have cZ_1 := HZw13.out.c1
  have cZ_2 := HZw13.out.c2
  have cZ_3 := HZw13.out.c3
  have cZ_4 := HZw13.out.c4
  have lZ := HZw13.out.lt
  have cY_0 := HYw13.out.c0
  have cY_1 := HYw13.out.c1
  have cY_2 := HYw13.out.c2
  have cY_3 := HYw13.out.c3
  have cY_4 := HYw13.out.c4
  have lY := HYw13.out.lt
  go_wp2_with fail
  refine (eqLog_own ⟨Lsectors, Lepoch, Lstop, Lflushed, ⟨Ltail_e, Ltail_a, Ltail_c, Ltail_b⟩⟩ ⟨Wsectors, Wepoch, Wstop, Wflushed, ⟨Wtail_e, Wtail_a, Wtail_c, Wtail_b⟩⟩ _ (by omega) (HDL.out.trans HDW.out.symm) (HLw13.out.same ((Kept.refl _ _).alloc _)) (HWw13.out.same ((Kept.refl _ _).alloc _))).mono ?_
  rintro e w14 ⟨rfl, hk⟩
  have hkk : Same w13 w14 := ((Kept.refl _ _).alloc _).trans hk
  have hzw14 := hk.size
  rw [World.size_alloc] at hzw14
  have HA0w14 := hid (HA0w13.out.same hkk)
  have HWw14 := hid (HWw13.out.same hkk)
  have HZw14 := hid (HZw13.out.same hkk)
  have HYw14 := hid (HYw13.out.same hkk)
  have HUw14 := hid (HUw13.out.same hkk)
  have HLw14 := hid (HLw13.out.same hkk)
  have HVw14 := (show Hid (Blk w14 (w13.heap.size) 29 [.int .i64 Lsectors, .int .i64 Lepoch, .int .i64 Lstop, .int .i64 Lflushed, .slice Ltail_a Ltail_b.length Ltail_c]) from (Blk.new w13 #[.int .i64 Lsectors, .int .i64 Lepoch, .int .i64 Lstop, .int .i64 Lflushed, .slice Ltail_a Ltail_b.length Ltail_c] 29).same hk)
  have HKw14 := (show Hid (Same w w14) from HKw13.out.trans hkk)
  clear hkk hk
  clear cA0_0 cA0_1 cA0_2 cA0_3 cA0_4 lA0 cZ_0 cZ_1 cZ_2 cZ_3 cZ_4 lZ cY_0 cY_1 cY_2 cY_3 cY_4 lY
  have cA0_0 := HA0w14.out.c0
  have cA0_1 := HA0w14.out.c1
  have cA0_2 := HA0w14.out.c2
  have cA0_3 := HA0w14.out.c3
  have cA0_4 := HA0w14.out.c4
  have lA0 := HA0w14.out.lt
  have cY_0 := HYw14.out.c0
  have cY_1 := HYw14.out.c1
  have cY_2 := HYw14.out.c2
  have cY_3 := HYw14.out.c3
  have cY_4 := HYw14.out.c4
  have lY := HYw14.out.lt
  go_wp2_with fail
  have hm := heldLog_own ⟨Gsectors, Gepoch, Gstop, Gflushed, ⟨Gtail_e, Gtail_a, Gtail_c, Gtail_b⟩⟩ 1 w14 (by omega) (by rw [HM.out]; omega) HUw14.out
  rw [HM.out] at hm
  dsimp only [StLog.val, BS.v] at hm
  refine hm.mono ?_
  clear hm
  rintro e w15 ⟨rfl, hk⟩
  have hkk : Same w14 w15 := hk
  have hzw15 := hkk.size
  have HA0w15 := hid (HA0w14.out.same hkk)
  have HYw15 := hid (HYw14.out.same hkk)
  have HUw15 := hid (HUw14.out.same hkk)
  have HKw15 := (show Hid (Same w w15) from HKw14.out.trans hkk)
  clear hkk hk
  clear cA0_0 cA0_1 cA0_2 cA0_3 cA0_4 lA0 cY_0 cY_1 cY_2 cY_3 cY_4 lY
  go_wp2
  go_ret
  exact ⟨rfl, HKw15.out⟩
end Go.Proofs.Ytmnhflanhchdeaa

namespace Go.Proofs.Ytmnhflanhchdeaa.fnExactLogFlushed
open Go.ChangeShapes Go.WideShapes Go.ChangeAt Go.RowKit
set_option linter.unusedVariables false
theorem own : ownKnob Try.prog.godebug = none := by kernel_rfl
theorem laidOut : laidOutB Try.prog = true := by kernel_rfl
set_option maxRecDepth 100000 in
theorem lifted (os : Os) (started : os.Started) (H : Type) (enc : TypeId × Value → H) :
    ReturnsInHanded {} Try.checked os 5 .any (Rows.fnExactLogFlushedSpec.pre6 enc Try.prog Try.f5 Rows.fnExactLogFlushedRow.domain false) (Rows.fnExactLogFlushedSpec.post enc Try.prog Try.f5 false true false false) := by
  refine returnsInHanded_of_change (C := Try.checked) own started (by kernel_rfl) Try.func5
    (ChangeSpec.witness6 (enc := enc) (C := Try.checked) false ⟨#[], #[.agg #[.int .i64 0, .int .i64 0, .int .i64 0, .int .i64 0, .slice none 0 0]], []⟩ 8 (by kernel_rfl) (by kernel_rfl) (by kernel_rfl) (by kernel_rfl)) ?_
  intro W base args ds gs before hval0 hW hcnd _
  have hval : ∀ (j : Nat) t v, Try.f5.params[j]? = some t → args[j]? = some v → Value.okWide Try.prog W .any base t v := hval0
  have hW' := hW
  obtain ⟨p, q, hA0, hV, rfl, hfz, hnd⟩ := hW
  have hA : DataW.TrodAll enc Try.prog W 0 (fun _ => true) true Try.f5.params.toList args.toList ds p := hA0
  rw [Try.params5] at hA hval
  obtain ⟨v0, vs0, d0, ds0, p0, q0, hargs, rfl, rfl, h0, r0⟩ := trodAll_cons hA
  obtain ⟨rfl, rfl, rfl⟩ := trodAll_nil r0
  obtain rfl : args = #[v0] := by cases args; simp_all
  obtain ⟨rfl, rfl⟩ := trodVars_none hV
  have k0 := h0
  have lt0 : ∀ x ∈ p0, x.block < W.heap.size := by obtain ⟨m, hm⟩ := k0; exact DataW.trod_lt m _ _ _ hm
  obtain ⟨x0, rfl, rd0, bd0⟩ := open_log (hval 0 26 v0 rfl rfl) h0
  clear hA0 hval0
  refine (logFlushed_law x0 W rd0 bd0).mono fun e W' ⟨he, hk⟩ => ?_
  have bel : Below W.heap.size W W' := hk.below (Nat.le_refl _) (fun _ _ => id)
  subst he
  exact ⟨_, rfl, _, _, _, [], _, [], hW', trodAll_mk1 (shut_bool Try.underlying4 _), (trodAll_cons_mk (Below.trod laidOut (by kernel_rfl) (of_decide_eq_true (by kernel_rfl)) k0 bel lt0) trodAll_mk0), rfl, bel.frame _, fun h => by cases h⟩
theorem over : Rows.fnExactLogFlushedRow.holds Try.pinned (OpenSpec.ofChange Rows.fnExactLogFlushedSpec) :=
  OpenClaim.holds_of_wide 5 Try.f5 rfl rfl rfl rfl rfl rfl rfl ⟨rfl, rfl, rfl, rfl, rfl⟩ rfl rfl rfl rfl rfl (by kernel_rfl) Try.func5 (by kernel_rfl)
    (of_decide_eq_true (by kernel_rfl)) (by unfold Func.isWrapper; first | (rw [if_pos (by decide +kernel)]; kernel_rfl) | (rw [if_neg (by decide +kernel)]; exact ⟨rfl, rfl⟩))
    (fun os started H enc _ => lifted os started H enc)
end Go.Proofs.Ytmnhflanhchdeaa.fnExactLogFlushed
namespace Go.Proofs.Ytmnhflanhchdeaa
theorem logFlushed_proved : Rows.FnExactLogFlushedSaid := fnExactLogFlushed.over
#print axioms logFlushed_proved
end Go.Proofs.Ytmnhflanhchdeaa
