import Derived.Test.YtelijknekfipfaaLockAskL
import Derived.Test.YtelijknekfipfaaG00
import Derived.Test.YtelijknekfipfaaOpenF
import Derived.Deep.DeepCutAuto
namespace Go.Proofs.Ytelijknekfipfaa
set_option maxRecDepth 100000
set_option maxHeartbeats 16000000
open Go.RowKit
set_option linter.unusedVariables false
theorem lockAsk_walk (x0 : FR) (s1 : Int) (s2 : Int) (s3 : Int) (w : World) (hv0 : RdF 3 w x0) (hB0 : ∀ v ∈ x0.bs, IsI v) :
    Calls Try.prog 7 #[x0.v, .int .i64 s1, .int .i64 s2, .int .i64 s3] w fun e w' => e = .returned (.bool true) ∧ Same w w' := by
  obtain ⟨p0e, p0a, p0n, p0c, p0b⟩ := x0
  have hm0 : p0n ≤ maxLen := hv0.1
  unfold maxLen at hm0
  have hl0 : p0b.length = p0n * 3 := hv0.2.1
  have HV0 := (show Hid (RdF 3 w ⟨p0e, p0a, p0n, p0c, p0b⟩) from hv0)
  clear hv0
  have HB0 := (show Hid (∀ v ∈ p0b, IsI v) from hB0)
  clear hB0
  dsimp only [FR.v]
  go_enter Try.func7, Try.ntmps7
  have HKw : Hid (Same w w) := Kept.refl _ _
  go_wp2_with fail
  refine (szLockS_any _ p0n _ 1048576 _ (by omega) (by omega) (by unfold maxLen; omega)).mono ?_
  rintro e w1 ⟨sz0, rfl, hr, hww⟩
  have hk : Same w w1 := by rw [hww]; exact Kept.refl _ _
  clear hww
  have hkk : Same w w1 := hk
  have hzw1 := hkk.size
  have HKw1 := (show Hid (Same w w1) from HKw.out.trans hkk)
  clear hkk hk
  rcases hr with ⟨rfl, _⟩ | ⟨hr, hr0⟩
  · go_wp2
    go_ret
    exact ⟨rfl, HKw1.out⟩
  have hp0 : p0n ≤ 1048576 := by omega
  have hsb0 : sz0 ≤ 1048576 := by omega
  clear hr
  go_wp2_with fail
  refine (toLockS_any ⟨p0e, p0a, p0n, p0c, p0b⟩ _ (by dsimp only; omega) (HV0.out.same HKw1.out)).mono ?_
  rintro e w2 ⟨⟨C0e, C0a, C0n, C0c, C0b⟩, rfl, hd, hn, hf, ho, hk⟩
  dsimp only at hd hn
  replace hd := hd.symm
  replace hn := hn.symm
  subst hd hn
  dsimp only [FR.v]
  have HFC0 := (show Hid (∀ b, FootL (FR.rows 3 ⟨C0e, C0a, p0n, C0c, p0b⟩) b → w1.heap.size ≤ b ∧ b < w2.heap.size) from fun b hb => ⟨hf b hb, ho.lt b hb⟩)
  have HC0w2 := (show Hid (OwnL w2 (FR.rows 3 ⟨C0e, C0a, p0n, C0c, p0b⟩)) from ho)
  clear hf ho
  have hkk : Same w1 w2 := hk
  have hzw2 := hkk.size
  have HKw2 := (show Hid (Same w w2) from HKw1.out.trans hkk)
  clear hkk hk
  go_wp2_with fail
  refine (specLockAsk_any ⟨C0e, C0a, p0n, C0c, p0b⟩ s1 s2 s3 _ (FR.own_rd HC0w2.out)).mono ?_
  rintro e w3 ⟨⟨Wcode, ⟨Wlocks_e, Wlocks_a, Wlocks_n, Wlocks_c, Wlocks_b⟩⟩, rfl, hd, hf, ho, hk⟩
  have hnW : StLockResult.size ⟨Wcode, ⟨Wlocks_e, Wlocks_a, Wlocks_n, Wlocks_c, Wlocks_b⟩⟩ ≤ 1099511627776 := ask_small hd hl0 hp0
  have hnW0 := StLockResult.size_le ⟨Wcode, ⟨Wlocks_e, Wlocks_a, Wlocks_n, Wlocks_c, Wlocks_b⟩⟩
  have HDW := (show Hid (StLockResult.dat ⟨Wcode, ⟨Wlocks_e, Wlocks_a, Wlocks_n, Wlocks_c, Wlocks_b⟩⟩ = askP (tri p0b) s1 s2 s3) from hd)
  dsimp only [StLockResult.val, BS.v, FR.v]
  have HFW := (show Hid (∀ b, FootL (StLockResult.rows ⟨Wcode, ⟨Wlocks_e, Wlocks_a, Wlocks_n, Wlocks_c, Wlocks_b⟩⟩) b → w2.heap.size ≤ b ∧ b < w3.heap.size) from fun b hb => ⟨hf b hb, ho.lt b hb⟩)
  have HWw3 := (show Hid (OwnL w3 (StLockResult.rows ⟨Wcode, ⟨Wlocks_e, Wlocks_a, Wlocks_n, Wlocks_c, Wlocks_b⟩⟩)) from ho)
  clear hd hf ho
  have hkk : Same w2 w3 := hk
  have hzw3 := hkk.size
  have HC0w3 := (show Hid (OwnL w3 (FR.rows 3 ⟨C0e, C0a, p0n, C0c, p0b⟩)) from HC0w2.out.same hkk)
  have HKw3 := (show Hid (Same w w3) from HKw2.out.trans hkk)
  clear hkk hk
  go_wp2_with fail
  refine (toLockS_any ⟨p0e, p0a, p0n, p0c, p0b⟩ _ (by dsimp only; omega) (HV0.out.same (HKw3.out.alloc _))).mono ?_
  rintro e w4 ⟨⟨X0e, X0a, X0n, X0c, X0b⟩, rfl, hd, hn, hf, ho, hk⟩
  dsimp only at hd hn
  replace hd := hd.symm
  replace hn := hn.symm
  subst hd hn
  dsimp only [FR.v]
  simp only [World.size_alloc] at hf
  have HFX0 := (show Hid (∀ b, FootL (FR.rows 3 ⟨X0e, X0a, p0n, X0c, p0b⟩) b → w3.heap.size < b ∧ b < w4.heap.size) from fun b hb => ⟨by have := hf b hb; omega, ho.lt b hb⟩)
  have HX0w4 := (show Hid (OwnL w4 (FR.rows 3 ⟨X0e, X0a, p0n, X0c, p0b⟩)) from ho)
  clear hf ho
  have hkk : Same w3 w4 := ((Kept.refl _ _).alloc _).trans hk
  have hzw4 := hk.size
  rw [World.size_alloc] at hzw4
  have HWw4 := hid (HWw3.out.same hkk)
  have HZw4 := (show Hid (Blk w4 (w3.heap.size) 27 [.int .i64 Wcode, .slice Wlocks_a Wlocks_n Wlocks_c]) from (Blk.new w3 #[.int .i64 Wcode, .slice Wlocks_a Wlocks_n Wlocks_c] 27).same hk)
  have HKw4 := (show Hid (Same w w4) from HKw3.out.trans hkk)
  clear hkk hk
  have cZ_0 := HZw4.out.c0
  have cZ_1 := HZw4.out.c1
  have lZ := HZw4.out.lt
  go_wp2_with fail
  refine (implLockAsk_any ⟨X0e, X0a, p0n, X0c, p0b⟩ s1 s2 s3 _ (FR.own_rd HX0w4.out)).mono ?_
  rintro e w5 ⟨⟨Gcode, ⟨Glocks_e, Glocks_a, Glocks_n, Glocks_c, Glocks_b⟩⟩, rfl, hd, hf, ho, hk⟩
  have hnG : StLockResult.size ⟨Gcode, ⟨Glocks_e, Glocks_a, Glocks_n, Glocks_c, Glocks_b⟩⟩ ≤ 1099511627776 := ask_small hd hl0 hp0
  have hnG0 := StLockResult.size_le ⟨Gcode, ⟨Glocks_e, Glocks_a, Glocks_n, Glocks_c, Glocks_b⟩⟩
  have HDG := (show Hid (StLockResult.dat ⟨Gcode, ⟨Glocks_e, Glocks_a, Glocks_n, Glocks_c, Glocks_b⟩⟩ = askP (tri p0b) s1 s2 s3) from hd)
  dsimp only [StLockResult.val, BS.v, FR.v]
  have HFG := (show Hid (∀ b, FootL (StLockResult.rows ⟨Gcode, ⟨Glocks_e, Glocks_a, Glocks_n, Glocks_c, Glocks_b⟩⟩) b → w4.heap.size ≤ b ∧ b < w5.heap.size) from fun b hb => ⟨hf b hb, ho.lt b hb⟩)
  have HGw5 := (show Hid (OwnL w5 (StLockResult.rows ⟨Gcode, ⟨Glocks_e, Glocks_a, Glocks_n, Glocks_c, Glocks_b⟩⟩)) from ho)
  clear hd hf ho
  have hkk : Same w4 w5 := hk
  have hzw5 := hkk.size
  have HWw5 := hid (HWw4.out.same hkk)
  have HZw5 := hid (HZw4.out.same hkk)
  have HX0w5 := (show Hid (OwnL w5 (FR.rows 3 ⟨X0e, X0a, p0n, X0c, p0b⟩)) from HX0w4.out.same hkk)
  have HKw5 := (show Hid (Same w w5) from HKw4.out.trans hkk)
  clear hkk hk
  clear cZ_0 cZ_1 lZ
  have cZ_0 := HZw5.out.c0
  have cZ_1 := HZw5.out.c1
  have lZ := HZw5.out.lt
  go_wp2_with fail
  refine (eqLockResult_own ⟨Gcode, ⟨Glocks_e, Glocks_a, Glocks_n, Glocks_c, Glocks_b⟩⟩ ⟨Wcode, ⟨Wlocks_e, Wlocks_a, Wlocks_n, Wlocks_c, Wlocks_b⟩⟩ _ (by omega) (HDG.out.trans HDW.out.symm) (HGw5.out.same ((Kept.refl _ _).alloc _)) (HWw5.out.same ((Kept.refl _ _).alloc _))).mono ?_
  rintro e w6 ⟨rfl, hk⟩
  have hkk : Same w5 w6 := ((Kept.refl _ _).alloc _).trans hk
  have hzw6 := hk.size
  rw [World.size_alloc] at hzw6
  have HWw6 := hid (HWw5.out.same hkk)
  have HZw6 := hid (HZw5.out.same hkk)
  have HX0w6 := (show Hid (OwnL w6 (FR.rows 3 ⟨X0e, X0a, p0n, X0c, p0b⟩)) from HX0w5.out.same hkk)
  have HGw6 := hid (HGw5.out.same hkk)
  have HYw6 := (show Hid (Blk w6 (w5.heap.size) 27 [.int .i64 Gcode, .slice Glocks_a Glocks_n Glocks_c]) from (Blk.new w5 #[.int .i64 Gcode, .slice Glocks_a Glocks_n Glocks_c] 27).same hk)
  have HKw6 := (show Hid (Same w w6) from HKw5.out.trans hkk)
  clear hkk hk
  clear cZ_0 cZ_1 lZ
  have cZ_0 := HZw6.out.c0
  have cZ_1 := HZw6.out.c1
  have lZ := HZw6.out.lt
  have cY_0 := HYw6.out.c0
  have cY_1 := HYw6.out.c1
  have lY := HYw6.out.lt
  go_wp2_with fail
  refine (toLockS_any ⟨p0e, p0a, p0n, p0c, p0b⟩ _ (by dsimp only; omega) (HV0.out.same HKw6.out)).mono ?_
  rintro e w7 ⟨⟨D0e, D0a, D0n, D0c, D0b⟩, rfl, hd, hn, hf, ho, hk⟩
  dsimp only at hd hn
  replace hd := hd.symm
  replace hn := hn.symm
  subst hd hn
  dsimp only [FR.v]
  have HFD0 := (show Hid (∀ b, FootL (FR.rows 3 ⟨D0e, D0a, p0n, D0c, p0b⟩) b → w6.heap.size ≤ b ∧ b < w7.heap.size) from fun b hb => ⟨hf b hb, ho.lt b hb⟩)
  have HD0w7 := (show Hid (OwnL w7 (FR.rows 3 ⟨D0e, D0a, p0n, D0c, p0b⟩)) from ho)
  clear hf ho
  have hkk : Same w6 w7 := hk
  have hzw7 := hkk.size
  have HWw7 := hid (HWw6.out.same hkk)
  have HZw7 := hid (HZw6.out.same hkk)
  have HX0w7 := (show Hid (OwnL w7 (FR.rows 3 ⟨X0e, X0a, p0n, X0c, p0b⟩)) from HX0w6.out.same hkk)
  have HGw7 := hid (HGw6.out.same hkk)
  have HYw7 := hid (HYw6.out.same hkk)
  have HKw7 := (show Hid (Same w w7) from HKw6.out.trans hkk)
  clear hkk hk
  clear cZ_0 cZ_1 lZ cY_0 cY_1 lY
  have cZ_0 := HZw7.out.c0
  have cZ_1 := HZw7.out.c1
  have lZ := HZw7.out.lt
  have cY_0 := HYw7.out.c0
  have cY_1 := HYw7.out.c1
  have lY := HYw7.out.lt
  go_wp2_with fail
  refine (eqLockS_own ⟨X0e, X0a, p0n, X0c, p0b⟩ ⟨D0e, D0a, p0n, D0c, p0b⟩ _ (by dsimp only; omega) rfl HX0w7.out HD0w7.out).mono ?_
  rintro e w8 ⟨rfl, hk⟩
  have hkk : Same w7 w8 := hk
  have hzw8 := hkk.size
  have HWw8 := hid (HWw7.out.same hkk)
  have HZw8 := hid (HZw7.out.same hkk)
  have HX0w8 := (show Hid (OwnL w8 (FR.rows 3 ⟨X0e, X0a, p0n, X0c, p0b⟩)) from HX0w7.out.same hkk)
  have HGw8 := hid (HGw7.out.same hkk)
  have HYw8 := hid (HYw7.out.same hkk)
  have HKw8 := (show Hid (Same w w8) from HKw7.out.trans hkk)
  clear hkk hk
  clear cZ_0 cZ_1 lZ cY_0 cY_1 lY
  have hE0 : (0 : Int) ≤ 1 := by omega
  have hE0b : (1 : Int) ≤ 1 := by omega
  have cZ_0 := HZw8.out.c0
  have cZ_1 := HZw8.out.c1
  have lZ := HZw8.out.lt
  have cY_0 := HYw8.out.c0
  have cY_1 := HYw8.out.c1
  have lY := HYw8.out.lt
  go_wp2_with fail
  refine (markLockS_own ⟨X0e, X0a, p0n, X0c, p0b⟩ 1 _ (by omega) (by dsimp only; omega) HX0w8.out).mono ?_
  rintro e w9 ⟨rfl, _, hk⟩
  dsimp only
  obtain ⟨E1, hE⟩ : ∃ E : Int, 1 + (p0b.length : Int) = E := ⟨_, rfl⟩
  have hE1 : 0 ≤ E1 := by omega
  have hE1b : E1 ≤ 7000001 := by omega
  rw [hE]
  clear hE
  have hzw9 := hk.size
  have HWw9 := (show Hid (OwnL w9 (StLockResult.rows ⟨Wcode, ⟨Wlocks_e, Wlocks_a, Wlocks_n, Wlocks_c, Wlocks_b⟩⟩)) from HWw8.out.kept hk (fun b hb e => by have h1 := HFX0.out _ e; have h2 := HFW.out b hb; omega))
  have HZw9 := (show Hid (Blk w9 (w3.heap.size) 27 [.int .i64 Wcode, .slice Wlocks_a Wlocks_n Wlocks_c]) from HZw8.out.kept hk (fun e => by have h1 := HFX0.out _ e; omega))
  have HGw9 := (show Hid (OwnL w9 (StLockResult.rows ⟨Gcode, ⟨Glocks_e, Glocks_a, Glocks_n, Glocks_c, Glocks_b⟩⟩)) from HGw8.out.kept hk (fun b hb e => by have h1 := HFX0.out _ e; have h2 := HFG.out b hb; omega))
  have HYw9 := (show Hid (Blk w9 (w5.heap.size) 27 [.int .i64 Gcode, .slice Glocks_a Glocks_n Glocks_c]) from HYw8.out.kept hk (fun e => by have h1 := HFX0.out _ e; omega))
  have HKw9 := (show Hid (Same w w9) from HKw8.out.next hk (fun b hb e => by have h1 := HFX0.out _ e; omega))
  clear cZ_0 cZ_1 lZ cY_0 cY_1 lY
  clear hk
  have hEn : ¬ E1 < 0 := by omega
  have cZ_0 := HZw9.out.c0
  have cZ_1 := HZw9.out.c1
  have lZ := HZw9.out.lt
  have cY_0 := HYw9.out.c0
  have cY_1 := HYw9.out.c1
  have lY := HYw9.out.lt
  go_wp2_with fail
  refine (eqLockResult_own ⟨Gcode, ⟨Glocks_e, Glocks_a, Glocks_n, Glocks_c, Glocks_b⟩⟩ ⟨Wcode, ⟨Wlocks_e, Wlocks_a, Wlocks_n, Wlocks_c, Wlocks_b⟩⟩ _ (by omega) (HDG.out.trans HDW.out.symm) HGw9.out HWw9.out).mono ?_
  rintro e w10 ⟨rfl, hk⟩
  have hkk : Same w9 w10 := hk
  have hzw10 := hkk.size
  have HWw10 := hid (HWw9.out.same hkk)
  have HZw10 := hid (HZw9.out.same hkk)
  have HGw10 := hid (HGw9.out.same hkk)
  have HYw10 := hid (HYw9.out.same hkk)
  have HKw10 := (show Hid (Same w w10) from HKw9.out.trans hkk)
  clear hkk hk
  clear cZ_0 cZ_1 lZ cY_0 cY_1 lY
  have hM2 : ¬ (1 + StLockResult.size ⟨Gcode, ⟨Glocks_e, Glocks_a, Glocks_n, Glocks_c, Glocks_b⟩⟩) < 0 := by omega
  obtain ⟨M, hM⟩ : ∃ M, 1 + StLockResult.size ⟨Gcode, ⟨Glocks_e, Glocks_a, Glocks_n, Glocks_c, Glocks_b⟩⟩ = M := ⟨_, rfl⟩
  have HM := (show Hid (1 + StLockResult.size ⟨Gcode, ⟨Glocks_e, Glocks_a, Glocks_n, Glocks_c, Glocks_b⟩⟩ = M) from hM)
  have hM3 : 0 ≤ M ∧ M ≤ 1125899906842624 := by omega
  rw [hM] at hM2
  clear hM
  have cZ_0 := HZw10.out.c0
  have cZ_1 := HZw10.out.c1
  have lZ := HZw10.out.lt
  have cY_0 := HYw10.out.c0
  have cY_1 := HYw10.out.c1
  have lY := HYw10.out.lt
  go_wp2_with fail
  have hm := markLockResult_own ⟨Gcode, ⟨Glocks_e, Glocks_a, Glocks_n, Glocks_c, Glocks_b⟩⟩ 1 w10 (by omega) (by rw [HM.out]; omega) HGw10.out
  rw [HM.out] at hm
  dsimp only [StLockResult.val, BS.v, FR.v] at hm
  refine hm.mono ?_
  clear hm
  rintro e w11 ⟨rfl, ho, hk⟩
  have hzw11 := hk.size
  have HWw11 := (show Hid (OwnL w11 (StLockResult.rows ⟨Wcode, ⟨Wlocks_e, Wlocks_a, Wlocks_n, Wlocks_c, Wlocks_b⟩⟩)) from HWw10.out.kept hk (fun b hb e => by have h1 := HFG.out _ e; have h2 := HFW.out b hb; omega))
  have HZw11 := (show Hid (Blk w11 (w3.heap.size) 27 [.int .i64 Wcode, .slice Wlocks_a Wlocks_n Wlocks_c]) from HZw10.out.kept hk (fun e => by have h1 := HFG.out _ e; omega))
  have HYw11 := (show Hid (Blk w11 (w5.heap.size) 27 [.int .i64 Gcode, .slice Glocks_a Glocks_n Glocks_c]) from HYw10.out.kept hk (fun e => by have h1 := HFG.out _ e; omega))
  have HKw11 := (show Hid (Same w w11) from HKw10.out.next hk (fun b hb e => by have h1 := HFG.out _ e; omega))
  have HUw11 := (show Hid (OwnL w11 (StLockResult.marked ⟨Gcode, ⟨Glocks_e, Glocks_a, Glocks_n, Glocks_c, Glocks_b⟩⟩ 1).rows) from ho)
  clear cZ_0 cZ_1 lZ cY_0 cY_1 lY
  clear hk ho
  have HFU := (show Hid (∀ b, FootL (StLockResult.marked ⟨Gcode, ⟨Glocks_e, Glocks_a, Glocks_n, Glocks_c, Glocks_b⟩⟩ 1).rows b → _ ∧ _) from fun b hb => HFG.out b ((StLockResult.foot_marked _ _ b).1 hb))
  have cZ_0 := HZw11.out.c0
  have cZ_1 := HZw11.out.c1
  have lZ := HZw11.out.lt
  have cY_0 := HYw11.out.c0
  have cY_1 := HYw11.out.c1
  have lY := HYw11.out.lt
  go_wp2_with fail
  have hm := heldLockResult_own ⟨Gcode, ⟨Glocks_e, Glocks_a, Glocks_n, Glocks_c, Glocks_b⟩⟩ 1 w11 (by omega) (by rw [HM.out]; omega) HUw11.out
  rw [HM.out] at hm
  dsimp only [StLockResult.val, BS.v, FR.v] at hm
  refine hm.mono ?_
  clear hm
  rintro e w12 ⟨rfl, hk⟩
  have hkk : Same w11 w12 := hk
  have hzw12 := hkk.size
  have HWw12 := hid (HWw11.out.same hkk)
  have HZw12 := hid (HZw11.out.same hkk)
  have HYw12 := hid (HYw11.out.same hkk)
  have HUw12 := hid (HUw11.out.same hkk)
  have HKw12 := (show Hid (Same w w12) from HKw11.out.trans hkk)
  clear hkk hk
  clear cZ_0 cZ_1 lZ cY_0 cY_1 lY
  have cZ_0 := HZw12.out.c0
  have cZ_1 := HZw12.out.c1
  have lZ := HZw12.out.lt
  have cY_0 := HYw12.out.c0
  have cY_1 := HYw12.out.c1
  have lY := HYw12.out.lt
  go_wp2_with fail
  refine (toLockS_any ⟨p0e, p0a, p0n, p0c, p0b⟩ _ (by dsimp only; omega) (HV0.out.same HKw12.out)).mono ?_
  rintro e w13 ⟨⟨J0e, J0a, J0n, J0c, J0b⟩, rfl, hd, hn, hf, ho, hk⟩
  dsimp only at hd hn
  replace hd := hd.symm
  replace hn := hn.symm
  subst hd hn
  dsimp only [FR.v]
  have HFJ0 := (show Hid (∀ b, FootL (FR.rows 3 ⟨J0e, J0a, p0n, J0c, p0b⟩) b → w12.heap.size ≤ b ∧ b < w13.heap.size) from fun b hb => ⟨hf b hb, ho.lt b hb⟩)
  have HJ0w13 := (show Hid (OwnL w13 (FR.rows 3 ⟨J0e, J0a, p0n, J0c, p0b⟩)) from ho)
  clear hf ho
  have hkk : Same w12 w13 := hk
  have hzw13 := hkk.size
  have HWw13 := hid (HWw12.out.same hkk)
  have HZw13 := hid (HZw12.out.same hkk)
  have HYw13 := hid (HYw12.out.same hkk)
  have HUw13 := hid (HUw12.out.same hkk)
  have HKw13 := (show Hid (Same w w13) from HKw12.out.trans hkk)
  clear hkk hk
  clear cZ_0 cZ_1 lZ cY_0 cY_1 lY
  have cZ_0 := HZw13.out.c0
  have cZ_1 := HZw13.out.c1
  have lZ := HZw13.out.lt
  have cY_0 := HYw13.out.c0
  have cY_1 := HYw13.out.c1
  have lY := HYw13.out.lt
  go_wp2_with fail
  refine (implLockAsk_any ⟨J0e, J0a, p0n, J0c, p0b⟩ s1 s2 s3 _ (FR.own_rd HJ0w13.out)).mono ?_
  rintro e w14 ⟨⟨Lcode, ⟨Llocks_e, Llocks_a, Llocks_n, Llocks_c, Llocks_b⟩⟩, rfl, hd, hf, ho, hk⟩
  have hnL : StLockResult.size ⟨Lcode, ⟨Llocks_e, Llocks_a, Llocks_n, Llocks_c, Llocks_b⟩⟩ ≤ 1099511627776 := ask_small hd hl0 hp0
  have hnL0 := StLockResult.size_le ⟨Lcode, ⟨Llocks_e, Llocks_a, Llocks_n, Llocks_c, Llocks_b⟩⟩
  have HDL := (show Hid (StLockResult.dat ⟨Lcode, ⟨Llocks_e, Llocks_a, Llocks_n, Llocks_c, Llocks_b⟩⟩ = askP (tri p0b) s1 s2 s3) from hd)
  dsimp only [StLockResult.val, BS.v, FR.v]
  have HFL := (show Hid (∀ b, FootL (StLockResult.rows ⟨Lcode, ⟨Llocks_e, Llocks_a, Llocks_n, Llocks_c, Llocks_b⟩⟩) b → w13.heap.size ≤ b ∧ b < w14.heap.size) from fun b hb => ⟨hf b hb, ho.lt b hb⟩)
  have HLw14 := (show Hid (OwnL w14 (StLockResult.rows ⟨Lcode, ⟨Llocks_e, Llocks_a, Llocks_n, Llocks_c, Llocks_b⟩⟩)) from ho)
  clear hd hf ho
  have hkk : Same w13 w14 := hk
  have hzw14 := hkk.size
  have HWw14 := hid (HWw13.out.same hkk)
  have HZw14 := hid (HZw13.out.same hkk)
  have HYw14 := hid (HYw13.out.same hkk)
  have HUw14 := hid (HUw13.out.same hkk)
  have HJ0w14 := (show Hid (OwnL w14 (FR.rows 3 ⟨J0e, J0a, p0n, J0c, p0b⟩)) from HJ0w13.out.same hkk)
  have HKw14 := (show Hid (Same w w14) from HKw13.out.trans hkk)
  clear hkk hk
  clear cZ_0 cZ_1 lZ cY_0 cY_1 lY
  have cZ_0 := HZw14.out.c0
  have cZ_1 := HZw14.out.c1
  have lZ := HZw14.out.lt
  have cY_0 := HYw14.out.c0
  have cY_1 := HYw14.out.c1
  have lY := HYw14.out.lt
  go_wp2_with fail
  refine (eqLockResult_own ⟨Lcode, ⟨Llocks_e, Llocks_a, Llocks_n, Llocks_c, Llocks_b⟩⟩ ⟨Wcode, ⟨Wlocks_e, Wlocks_a, Wlocks_n, Wlocks_c, Wlocks_b⟩⟩ _ (by omega) (HDL.out.trans HDW.out.symm) (HLw14.out.same ((Kept.refl _ _).alloc _)) (HWw14.out.same ((Kept.refl _ _).alloc _))).mono ?_
  rintro e w15 ⟨rfl, hk⟩
  have hkk : Same w14 w15 := ((Kept.refl _ _).alloc _).trans hk
  have hzw15 := hk.size
  rw [World.size_alloc] at hzw15
  have HWw15 := hid (HWw14.out.same hkk)
  have HZw15 := hid (HZw14.out.same hkk)
  have HYw15 := hid (HYw14.out.same hkk)
  have HUw15 := hid (HUw14.out.same hkk)
  have HLw15 := hid (HLw14.out.same hkk)
  have HVw15 := (show Hid (Blk w15 (w14.heap.size) 27 [.int .i64 Lcode, .slice Llocks_a Llocks_n Llocks_c]) from (Blk.new w14 #[.int .i64 Lcode, .slice Llocks_a Llocks_n Llocks_c] 27).same hk)
  have HKw15 := (show Hid (Same w w15) from HKw14.out.trans hkk)
  clear hkk hk
  clear cZ_0 cZ_1 lZ cY_0 cY_1 lY
  have cY_0 := HYw15.out.c0
  have cY_1 := HYw15.out.c1
  have lY := HYw15.out.lt
  go_wp2_with fail
  have hm := heldLockResult_own ⟨Gcode, ⟨Glocks_e, Glocks_a, Glocks_n, Glocks_c, Glocks_b⟩⟩ 1 w15 (by omega) (by rw [HM.out]; omega) HUw15.out
  rw [HM.out] at hm
  dsimp only [StLockResult.val, BS.v, FR.v] at hm
  refine hm.mono ?_
  clear hm
  rintro e w16 ⟨rfl, hk⟩
  have hkk : Same w15 w16 := hk
  have hzw16 := hkk.size
  have HYw16 := hid (HYw15.out.same hkk)
  have HUw16 := hid (HUw15.out.same hkk)
  have HKw16 := (show Hid (Same w w16) from HKw15.out.trans hkk)
  clear hkk hk
  clear cY_0 cY_1 lY
  go_wp2
  go_ret
  exact ⟨rfl, HKw16.out⟩
end Go.Proofs.Ytelijknekfipfaa

namespace Go.Proofs.Ytelijknekfipfaa.fnExactLockAsk
open Go.ChangeShapes Go.WideShapes Go.ChangeAt Go.RowKit
set_option linter.unusedVariables false
theorem own : ownKnob Try.prog.godebug = none := by kernel_rfl
theorem laidOut : laidOutB Try.prog = true := by kernel_rfl
set_option maxRecDepth 100000 in
theorem lifted (os : Os) (started : os.Started) (H : Type) (enc : TypeId × Value → H) :
    ReturnsInHanded {} Try.checked os 7 .any (Rows.fnExactLockAskSpec.pre6 enc Try.prog Try.f7 Rows.fnExactLockAskRow.domain false) (Rows.fnExactLockAskSpec.post enc Try.prog Try.f7 false true false false) := by
  refine returnsInHanded_of_change (C := Try.checked) own started (by kernel_rfl) Try.func7
    (ChangeSpec.witness6 (enc := enc) (C := Try.checked) false ⟨#[], #[.slice none 0 0, .int .i64 0, .int .i64 0, .int .i64 0], []⟩ 8 (by kernel_rfl) (by kernel_rfl) (by kernel_rfl) (by kernel_rfl)) ?_
  intro W base args ds gs before hval0 hW hcnd _
  have hval : ∀ (j : Nat) t v, Try.f7.params[j]? = some t → args[j]? = some v → Value.okWide Try.prog W .any base t v := hval0
  have hW' := hW
  obtain ⟨p, q, hA0, hV, rfl, hfz, hnd⟩ := hW
  have hA : DataW.TrodAll enc Try.prog W 0 (fun _ => true) true Try.f7.params.toList args.toList ds p := hA0
  rw [Try.params7] at hA hval
  obtain ⟨v0, vs0, d0, ds0, p0, q0, hargs, rfl, rfl, h0, r0⟩ := trodAll_cons hA
  obtain ⟨v1, vs1, d1, ds1, p1, q1, rfl, rfl, rfl, h1, r1⟩ := trodAll_cons r0
  obtain ⟨v2, vs2, d2, ds2, p2, q2, rfl, rfl, rfl, h2, r2⟩ := trodAll_cons r1
  obtain ⟨v3, vs3, d3, ds3, p3, q3, rfl, rfl, rfl, h3, r3⟩ := trodAll_cons r2
  obtain ⟨rfl, rfl, rfl⟩ := trodAll_nil r3
  obtain rfl : args = #[v0, v1, v2, v3] := by cases args; simp_all
  obtain ⟨rfl, rfl⟩ := trodVars_none hV
  have k0 := h0
  have lt0 : ∀ x ∈ p0, x.block < W.heap.size := by obtain ⟨m, hm⟩ := k0; exact DataW.trod_lt m _ _ _ hm
  obtain ⟨x0, rfl, rd0, bd0⟩ := open_lockS (hval 0 33 v0 rfl rfl) h0
  obtain ⟨a1, rfl, rfl, rfl, w1⟩ := open_int Try.underlying2 (hval 1 2 v1 rfl rfl) h1
  obtain ⟨a2, rfl, rfl, rfl, w2⟩ := open_int Try.underlying2 (hval 2 2 v2 rfl rfl) h2
  obtain ⟨a3, rfl, rfl, rfl, w3⟩ := open_int Try.underlying2 (hval 3 2 v3 rfl rfl) h3
  clear hA0 hval0
  refine (lockAsk_walk x0 a1 a2 a3 W rd0 bd0).mono fun e W' ⟨he, hk⟩ => ?_
  have bel : Below W.heap.size W W' := hk.below (Nat.le_refl _) (fun _ _ => id)
  subst he
  exact ⟨_, rfl, _, _, _, [], _, [], hW', trodAll_mk1 (shut_bool Try.underlying4 _), (trodAll_cons_mk (Below.trod laidOut (by kernel_rfl) (of_decide_eq_true (by kernel_rfl)) k0 bel lt0) (trodAll_cons_mk (shut_int Try.underlying2 w1) (trodAll_cons_mk (shut_int Try.underlying2 w2) (trodAll_cons_mk (shut_int Try.underlying2 w3) trodAll_mk0)))), rfl, bel.frame _, fun h => by cases h⟩
theorem over : Rows.fnExactLockAskRow.holds Try.pinned (OpenSpec.ofChange Rows.fnExactLockAskSpec) :=
  OpenClaim.holds_of_wide 7 Try.f7 rfl rfl rfl rfl rfl rfl rfl ⟨rfl, rfl, rfl, rfl, rfl⟩ rfl rfl rfl rfl rfl (by kernel_rfl) Try.func7 (by kernel_rfl)
    (of_decide_eq_true (by kernel_rfl)) (by unfold Func.isWrapper; first | (rw [if_pos (by decide +kernel)]; kernel_rfl) | (rw [if_neg (by decide +kernel)]; exact ⟨rfl, rfl⟩))
    (fun os started H enc _ => lifted os started H enc)
end Go.Proofs.Ytelijknekfipfaa.fnExactLockAsk
namespace Go.Proofs.Ytelijknekfipfaa
theorem lockAsk_proved : Rows.FnExactLockAskSaid := fnExactLockAsk.over
#print axioms lockAsk_proved
end Go.Proofs.Ytelijknekfipfaa
