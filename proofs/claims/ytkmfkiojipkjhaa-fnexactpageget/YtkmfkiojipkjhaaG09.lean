import Derived.Test.YtkmfkiojipkjhaaG08
import Derived.Test.YtkmfkiojipkjhaaG00
import Derived.Deep.DeepCutAuto
namespace Go.Proofs.Ytkmfkiojipkjhaa
set_option maxRecDepth 100000
set_option maxHeartbeats 16000000
open Go.RowKit
set_option linter.unusedVariables false
theorem pageGet_law (v0 : Value) (bs0 : List Int) (s1 : Int) (w : World) (hv0 : Rd .u8 w v0 bs0) (hB0 : IsB bs0) :
    Calls Try.prog 7 #[v0, .int .i64 s1] w fun e w' => e = .returned (.bool true) ∧ Same w w' := by
  obtain ⟨a0a, c0a, rfl⟩ := hv0.form
  have hm0 := hv0.1
  unfold maxLen at hm0
  have HB0 := (show Hid (IsB bs0) from hB0)
  clear hB0
  have HV0 := (show Hid (Rd .u8 w (.slice a0a bs0.length c0a) bs0) from hv0)
  clear hv0
  go_enter Try.func7, Try.ntmps7
  have HKw : Hid (Same w w) := Kept.refl _ _
  by_cases hb0 : (1048576 : Int) < (bs0.length : Int)
  · go_wp2
    go_ret
    exact ⟨rfl, by first | exact Kept.refl _ _ | exact (Kept.refl _ _).alloc _ | exact ((Kept.refl _ _).alloc _).alloc _⟩
  go_wp2_with fail
  refine (toByteS_any _ bs0 _ (by omega) (HV0.out.same HKw.out)).mono ?_
  rintro e w1 ⟨gC0, rfl, hf, ho, hk⟩
  have hf : ∀ b, (Value.slice (some ⟨gC0, 0, none⟩) bs0.length bs0.length).ownBlock = some b → _ ≤ b := fun b hb => by rw [← (Option.some.inj hb : gC0 = b)]; exact hf
  have HFC0 := (show Hid (∀ b, (Value.slice (some ⟨gC0, 0, none⟩) bs0.length bs0.length).ownBlock = some b → w.heap.size ≤ b ∧ b < w1.heap.size) from fun b hb => ⟨hf b hb, (ho.lt b hb).2⟩)
  have HC0w1 := (show Hid (Own 0 5 .u8 w1 (.slice (some ⟨gC0, 0, none⟩) bs0.length bs0.length) bs0) from ho)
  clear hf ho
  have hkk : Same w w1 := hk
  have hzw1 := hkk.size
  have HKw1 := (show Hid (Same w w1) from HKw.out.trans hkk)
  clear hkk hk
  go_wp2_with fail
  refine (specPageGet_any _ bs0 s1 _ HB0.out (by omega) (HC0w1.out.rd)).mono ?_
  rintro e w2 ⟨⟨Wused, ⟨Wdata_e, Wdata_a, Wdata_c, Wdata_b⟩⟩, rfl, hd, hf, ho, hk⟩
  have hnW : StPageRecord.size ⟨Wused, ⟨Wdata_e, Wdata_a, Wdata_c, Wdata_b⟩⟩ ≤ 1099511627776 := pageGet_small hd
  have hnW0 := StPageRecord.size_le ⟨Wused, ⟨Wdata_e, Wdata_a, Wdata_c, Wdata_b⟩⟩
  have HDW := (show Hid (StPageRecord.dat ⟨Wused, ⟨Wdata_e, Wdata_a, Wdata_c, Wdata_b⟩⟩ = pageGet bs0 s1) from hd)
  dsimp only [StPageRecord.val, BS.v]
  have HFW := (show Hid (∀ b, FootL (StPageRecord.rows ⟨Wused, ⟨Wdata_e, Wdata_a, Wdata_c, Wdata_b⟩⟩) b → w1.heap.size ≤ b ∧ b < w2.heap.size) from fun b hb => ⟨hf b hb, ho.lt b hb⟩)
  have HWw2 := (show Hid (OwnL w2 (StPageRecord.rows ⟨Wused, ⟨Wdata_e, Wdata_a, Wdata_c, Wdata_b⟩⟩)) from ho)
  clear hd hf ho
  have hkk : Same w1 w2 := hk
  have hzw2 := hkk.size
  have HC0w2 := hid (HC0w1.out.same hkk)
  have HKw2 := (show Hid (Same w w2) from HKw1.out.trans hkk)
  clear hkk hk
  go_wp2_with fail
  refine (toByteS_any _ bs0 _ (by omega) (HV0.out.same (HKw2.out.alloc _))).mono ?_
  rintro e w3 ⟨gX0, rfl, hf, ho, hk⟩
  have hf : ∀ b, (Value.slice (some ⟨gX0, 0, none⟩) bs0.length bs0.length).ownBlock = some b → _ ≤ b := fun b hb => by rw [← (Option.some.inj hb : gX0 = b)]; exact hf
  simp only [World.size_alloc] at hf
  have HFX0 := (show Hid (∀ b, (Value.slice (some ⟨gX0, 0, none⟩) bs0.length bs0.length).ownBlock = some b → w2.heap.size < b ∧ b < w3.heap.size) from fun b hb => ⟨by have := hf b hb; omega, (ho.lt b hb).2⟩)
  have HX0w3 := (show Hid (Own 0 5 .u8 w3 (.slice (some ⟨gX0, 0, none⟩) bs0.length bs0.length) bs0) from ho)
  clear hf ho
  have hkk : Same w2 w3 := ((Kept.refl _ _).alloc _).trans hk
  have hzw3 := hk.size
  rw [World.size_alloc] at hzw3
  have HWw3 := hid (HWw2.out.same hkk)
  have HZw3 := (show Hid (Blk w3 (w2.heap.size) 41 [.bool Wused, .slice Wdata_a Wdata_b.length Wdata_c]) from (Blk.new w2 #[.bool Wused, .slice Wdata_a Wdata_b.length Wdata_c] 41).same hk)
  have HKw3 := (show Hid (Same w w3) from HKw2.out.trans hkk)
  clear hkk hk
  have cZ_0 := HZw3.out.c0
  have cZ_1 := HZw3.out.c1
  have lZ := HZw3.out.lt
  go_wp2_with fail
  refine (implPageGet_any _ bs0 s1 _ HB0.out (by omega) (HX0w3.out.rd)).mono ?_
  rintro e w4 ⟨⟨Gused, ⟨Gdata_e, Gdata_a, Gdata_c, Gdata_b⟩⟩, rfl, hd, hf, ho, hk⟩
  have hnG : StPageRecord.size ⟨Gused, ⟨Gdata_e, Gdata_a, Gdata_c, Gdata_b⟩⟩ ≤ 1099511627776 := pageGet_small hd
  have hnG0 := StPageRecord.size_le ⟨Gused, ⟨Gdata_e, Gdata_a, Gdata_c, Gdata_b⟩⟩
  have HDG := (show Hid (StPageRecord.dat ⟨Gused, ⟨Gdata_e, Gdata_a, Gdata_c, Gdata_b⟩⟩ = pageGet bs0 s1) from hd)
  dsimp only [StPageRecord.val, BS.v]
  have HFG := (show Hid (∀ b, FootL (StPageRecord.rows ⟨Gused, ⟨Gdata_e, Gdata_a, Gdata_c, Gdata_b⟩⟩) b → w3.heap.size ≤ b ∧ b < w4.heap.size) from fun b hb => ⟨hf b hb, ho.lt b hb⟩)
  have HGw4 := (show Hid (OwnL w4 (StPageRecord.rows ⟨Gused, ⟨Gdata_e, Gdata_a, Gdata_c, Gdata_b⟩⟩)) from ho)
  clear hd hf ho
  have hkk : Same w3 w4 := hk
  have hzw4 := hkk.size
  have HWw4 := hid (HWw3.out.same hkk)
  have HZw4 := hid (HZw3.out.same hkk)
  have HX0w4 := hid (HX0w3.out.same hkk)
  have HKw4 := (show Hid (Same w w4) from HKw3.out.trans hkk)
  clear hkk hk
  clear cZ_0 cZ_1 lZ
  have cZ_0 := HZw4.out.c0
  have cZ_1 := HZw4.out.c1
  have lZ := HZw4.out.lt
  go_wp2_with fail
  refine (eqPageRecord_own ⟨Gused, ⟨Gdata_e, Gdata_a, Gdata_c, Gdata_b⟩⟩ ⟨Wused, ⟨Wdata_e, Wdata_a, Wdata_c, Wdata_b⟩⟩ _ (by omega) (HDG.out.trans HDW.out.symm) (HGw4.out.same ((Kept.refl _ _).alloc _)) (HWw4.out.same ((Kept.refl _ _).alloc _))).mono ?_
  rintro e w5 ⟨rfl, hk⟩
  have hkk : Same w4 w5 := ((Kept.refl _ _).alloc _).trans hk
  have hzw5 := hk.size
  rw [World.size_alloc] at hzw5
  have HWw5 := hid (HWw4.out.same hkk)
  have HZw5 := hid (HZw4.out.same hkk)
  have HX0w5 := hid (HX0w4.out.same hkk)
  have HGw5 := hid (HGw4.out.same hkk)
  have HYw5 := (show Hid (Blk w5 (w4.heap.size) 41 [.bool Gused, .slice Gdata_a Gdata_b.length Gdata_c]) from (Blk.new w4 #[.bool Gused, .slice Gdata_a Gdata_b.length Gdata_c] 41).same hk)
  have HKw5 := (show Hid (Same w w5) from HKw4.out.trans hkk)
  clear hkk hk
  clear cZ_0 cZ_1 lZ
  have cZ_0 := HZw5.out.c0
  have cZ_1 := HZw5.out.c1
  have lZ := HZw5.out.lt
  have cY_0 := HYw5.out.c0
  have cY_1 := HYw5.out.c1
  have lY := HYw5.out.lt
  go_wp2_with fail
  refine (toByteS_any _ bs0 _ (by omega) (HV0.out.same HKw5.out)).mono ?_
  rintro e w6 ⟨gD0, rfl, hf, ho, hk⟩
  have hf : ∀ b, (Value.slice (some ⟨gD0, 0, none⟩) bs0.length bs0.length).ownBlock = some b → _ ≤ b := fun b hb => by rw [← (Option.some.inj hb : gD0 = b)]; exact hf
  have HFD0 := (show Hid (∀ b, (Value.slice (some ⟨gD0, 0, none⟩) bs0.length bs0.length).ownBlock = some b → w5.heap.size ≤ b ∧ b < w6.heap.size) from fun b hb => ⟨hf b hb, (ho.lt b hb).2⟩)
  have HD0w6 := (show Hid (Own 0 5 .u8 w6 (.slice (some ⟨gD0, 0, none⟩) bs0.length bs0.length) bs0) from ho)
  clear hf ho
  have hkk : Same w5 w6 := hk
  have hzw6 := hkk.size
  have HWw6 := hid (HWw5.out.same hkk)
  have HZw6 := hid (HZw5.out.same hkk)
  have HX0w6 := hid (HX0w5.out.same hkk)
  have HGw6 := hid (HGw5.out.same hkk)
  have HYw6 := hid (HYw5.out.same hkk)
  have HKw6 := (show Hid (Same w w6) from HKw5.out.trans hkk)
  clear hkk hk
  clear cZ_0 cZ_1 lZ cY_0 cY_1 lY
  have cZ_0 := HZw6.out.c0
  have cZ_1 := HZw6.out.c1
  have lZ := HZw6.out.lt
  have cY_0 := HYw6.out.c0
  have cY_1 := HYw6.out.c1
  have lY := HYw6.out.lt
  go_wp2_with fail
  refine (eqByteS_own 0 _ _ bs0 _ (by omega) HX0w6.out HD0w6.out).mono ?_
  rintro e w7 ⟨rfl, nn, hww⟩
  have hk : Same w6 w7 := by rw [hww]; exact (Kept.refl _ _).drewN _
  clear hww
  have hkk : Same w6 w7 := hk
  have hzw7 := hkk.size
  have HWw7 := hid (HWw6.out.same hkk)
  have HZw7 := hid (HZw6.out.same hkk)
  have HX0w7 := hid (HX0w6.out.same hkk)
  have HGw7 := hid (HGw6.out.same hkk)
  have HYw7 := hid (HYw6.out.same hkk)
  have HKw7 := (show Hid (Same w w7) from HKw6.out.trans hkk)
  clear hkk hk
  clear cZ_0 cZ_1 lZ cY_0 cY_1 lY
  have hE0 : (0 : Int) ≤ 1 := by omega
  have hE0b : (1 : Int) ≤ 1 := by omega
  have cZ_0 := HZw7.out.c0
  have cZ_1 := HZw7.out.c1
  have lZ := HZw7.out.lt
  have cY_0 := HYw7.out.c0
  have cY_1 := HYw7.out.c1
  have lY := HYw7.out.lt
  go_wp2_with fail
  refine (markByteS_own 0 _ bs0 1 _ (by omega) (by omega) (by omega) HX0w7.out).mono ?_
  rintro e w8 ⟨rfl, _, hk⟩
  obtain ⟨E1, hE⟩ : ∃ E : Int, 1 + (bs0.length : Int) = E := ⟨_, rfl⟩
  have hE1 : 0 ≤ E1 := by omega
  have hE1b : E1 ≤ 5000001 := by omega
  rw [hE]
  clear hE
  have hzw8 := hk.size
  have HWw8 := (show Hid (OwnL w8 (StPageRecord.rows ⟨Wused, ⟨Wdata_e, Wdata_a, Wdata_c, Wdata_b⟩⟩)) from HWw7.out.kept hk (fun b hb e => by have h1 := HFX0.out _ e; have h2 := HFW.out b hb; omega))
  have HZw8 := (show Hid (Blk w8 (w2.heap.size) 41 [.bool Wused, .slice Wdata_a Wdata_b.length Wdata_c]) from HZw7.out.kept hk (fun e => by have h1 := HFX0.out _ e; omega))
  have HGw8 := (show Hid (OwnL w8 (StPageRecord.rows ⟨Gused, ⟨Gdata_e, Gdata_a, Gdata_c, Gdata_b⟩⟩)) from HGw7.out.kept hk (fun b hb e => by have h1 := HFX0.out _ e; have h2 := HFG.out b hb; omega))
  have HYw8 := (show Hid (Blk w8 (w4.heap.size) 41 [.bool Gused, .slice Gdata_a Gdata_b.length Gdata_c]) from HYw7.out.kept hk (fun e => by have h1 := HFX0.out _ e; omega))
  have HKw8 := (show Hid (Same w w8) from HKw7.out.next hk (fun b hb e => by have h1 := HFX0.out _ e; omega))
  clear cZ_0 cZ_1 lZ cY_0 cY_1 lY
  clear hk
  have hEn : ¬ E1 < 0 := by omega
  have cZ_0 := HZw8.out.c0
  have cZ_1 := HZw8.out.c1
  have lZ := HZw8.out.lt
  have cY_0 := HYw8.out.c0
  have cY_1 := HYw8.out.c1
  have lY := HYw8.out.lt
  go_wp2_with fail
  refine (eqPageRecord_own ⟨Gused, ⟨Gdata_e, Gdata_a, Gdata_c, Gdata_b⟩⟩ ⟨Wused, ⟨Wdata_e, Wdata_a, Wdata_c, Wdata_b⟩⟩ _ (by omega) (HDG.out.trans HDW.out.symm) HGw8.out HWw8.out).mono ?_
  rintro e w9 ⟨rfl, hk⟩
  have hkk : Same w8 w9 := hk
  have hzw9 := hkk.size
  have HWw9 := hid (HWw8.out.same hkk)
  have HZw9 := hid (HZw8.out.same hkk)
  have HGw9 := hid (HGw8.out.same hkk)
  have HYw9 := hid (HYw8.out.same hkk)
  have HKw9 := (show Hid (Same w w9) from HKw8.out.trans hkk)
  clear hkk hk
  clear cZ_0 cZ_1 lZ cY_0 cY_1 lY
  have hM2 : ¬ (1 + StPageRecord.size ⟨Gused, ⟨Gdata_e, Gdata_a, Gdata_c, Gdata_b⟩⟩) < 0 := by omega
  obtain ⟨M, hM⟩ : ∃ M, 1 + StPageRecord.size ⟨Gused, ⟨Gdata_e, Gdata_a, Gdata_c, Gdata_b⟩⟩ = M := ⟨_, rfl⟩
  have HM := (show Hid (1 + StPageRecord.size ⟨Gused, ⟨Gdata_e, Gdata_a, Gdata_c, Gdata_b⟩⟩ = M) from hM)
  have hM3 : 0 ≤ M ∧ M ≤ 1125899906842624 := by omega
  rw [hM] at hM2
  clear hM
  have cZ_0 := HZw9.out.c0
  have cZ_1 := HZw9.out.c1
  have lZ := HZw9.out.lt
  have cY_0 := HYw9.out.c0
  have cY_1 := HYw9.out.c1
  have lY := HYw9.out.lt
  go_wp2_with fail
  have hm := markPageRecord_own ⟨Gused, ⟨Gdata_e, Gdata_a, Gdata_c, Gdata_b⟩⟩ 1 w9 (by omega) (by rw [HM.out]; omega) HGw9.out
  rw [HM.out] at hm
  dsimp only [StPageRecord.val, BS.v] at hm
  refine hm.mono ?_
  clear hm
  rintro e w10 ⟨rfl, ho, hk⟩
  have hzw10 := hk.size
  have HWw10 := (show Hid (OwnL w10 (StPageRecord.rows ⟨Wused, ⟨Wdata_e, Wdata_a, Wdata_c, Wdata_b⟩⟩)) from HWw9.out.kept hk (fun b hb e => by have h1 := HFG.out _ e; have h2 := HFW.out b hb; omega))
  have HZw10 := (show Hid (Blk w10 (w2.heap.size) 41 [.bool Wused, .slice Wdata_a Wdata_b.length Wdata_c]) from HZw9.out.kept hk (fun e => by have h1 := HFG.out _ e; omega))
  have HYw10 := (show Hid (Blk w10 (w4.heap.size) 41 [.bool Gused, .slice Gdata_a Gdata_b.length Gdata_c]) from HYw9.out.kept hk (fun e => by have h1 := HFG.out _ e; omega))
  have HKw10 := (show Hid (Same w w10) from HKw9.out.next hk (fun b hb e => by have h1 := HFG.out _ e; omega))
  have HUw10 := (show Hid (OwnL w10 (StPageRecord.marked ⟨Gused, ⟨Gdata_e, Gdata_a, Gdata_c, Gdata_b⟩⟩ 1).rows) from ho)
  clear cZ_0 cZ_1 lZ cY_0 cY_1 lY
  clear hk ho
  have HFU := (show Hid (∀ b, FootL (StPageRecord.marked ⟨Gused, ⟨Gdata_e, Gdata_a, Gdata_c, Gdata_b⟩⟩ 1).rows b → _ ∧ _) from fun b hb => HFG.out b ((StPageRecord.foot_marked _ _ b).1 hb))
  have cZ_0 := HZw10.out.c0
  have cZ_1 := HZw10.out.c1
  have lZ := HZw10.out.lt
  have cY_0 := HYw10.out.c0
  have cY_1 := HYw10.out.c1
  have lY := HYw10.out.lt
  go_wp2_with fail
  have hm := heldPageRecord_own ⟨Gused, ⟨Gdata_e, Gdata_a, Gdata_c, Gdata_b⟩⟩ 1 w10 (by omega) (by rw [HM.out]; omega) HUw10.out
  rw [HM.out] at hm
  dsimp only [StPageRecord.val, BS.v] at hm
  refine hm.mono ?_
  clear hm
  rintro e w11 ⟨rfl, hk⟩
  have hkk : Same w10 w11 := hk
  have hzw11 := hkk.size
  have HWw11 := hid (HWw10.out.same hkk)
  have HZw11 := hid (HZw10.out.same hkk)
  have HYw11 := hid (HYw10.out.same hkk)
  have HUw11 := hid (HUw10.out.same hkk)
  have HKw11 := (show Hid (Same w w11) from HKw10.out.trans hkk)
  clear hkk hk
  clear cZ_0 cZ_1 lZ cY_0 cY_1 lY
  have cZ_0 := HZw11.out.c0
  have cZ_1 := HZw11.out.c1
  have lZ := HZw11.out.lt
  have cY_0 := HYw11.out.c0
  have cY_1 := HYw11.out.c1
  have lY := HYw11.out.lt
  go_wp2_with fail
  refine (toByteS_any _ bs0 _ (by omega) (HV0.out.same HKw11.out)).mono ?_
  rintro e w12 ⟨gJ0, rfl, hf, ho, hk⟩
  have hf : ∀ b, (Value.slice (some ⟨gJ0, 0, none⟩) bs0.length bs0.length).ownBlock = some b → _ ≤ b := fun b hb => by rw [← (Option.some.inj hb : gJ0 = b)]; exact hf
  have HFJ0 := (show Hid (∀ b, (Value.slice (some ⟨gJ0, 0, none⟩) bs0.length bs0.length).ownBlock = some b → w11.heap.size ≤ b ∧ b < w12.heap.size) from fun b hb => ⟨hf b hb, (ho.lt b hb).2⟩)
  have HJ0w12 := (show Hid (Own 0 5 .u8 w12 (.slice (some ⟨gJ0, 0, none⟩) bs0.length bs0.length) bs0) from ho)
  clear hf ho
  have hkk : Same w11 w12 := hk
  have hzw12 := hkk.size
  have HWw12 := hid (HWw11.out.same hkk)
  have HZw12 := hid (HZw11.out.same hkk)
  have HYw12 := hid (HYw11.out.same hkk)
  have HUw12 := hid (HUw11.out.same hkk)
  have HKw12 := (show Hid (Same w w12) from HKw11.out.trans hkk)
  clear hkk hk
  clear cZ_0 cZ_1 lZ cY_0 cY_1 lY
  have cZ_0 := HZw12.out.c0
  have cZ_1 := HZw12.out.c1
  have lZ := HZw12.out.lt
  have cY_0 := HYw12.out.c0
  have cY_1 := HYw12.out.c1
  have lY := HYw12.out.lt
  go_wp2_with fail
  refine (implPageGet_any _ bs0 s1 _ HB0.out (by omega) (HJ0w12.out.rd)).mono ?_
  rintro e w13 ⟨⟨Lused, ⟨Ldata_e, Ldata_a, Ldata_c, Ldata_b⟩⟩, rfl, hd, hf, ho, hk⟩
  have hnL : StPageRecord.size ⟨Lused, ⟨Ldata_e, Ldata_a, Ldata_c, Ldata_b⟩⟩ ≤ 1099511627776 := pageGet_small hd
  have hnL0 := StPageRecord.size_le ⟨Lused, ⟨Ldata_e, Ldata_a, Ldata_c, Ldata_b⟩⟩
  have HDL := (show Hid (StPageRecord.dat ⟨Lused, ⟨Ldata_e, Ldata_a, Ldata_c, Ldata_b⟩⟩ = pageGet bs0 s1) from hd)
  dsimp only [StPageRecord.val, BS.v]
  have HFL := (show Hid (∀ b, FootL (StPageRecord.rows ⟨Lused, ⟨Ldata_e, Ldata_a, Ldata_c, Ldata_b⟩⟩) b → w12.heap.size ≤ b ∧ b < w13.heap.size) from fun b hb => ⟨hf b hb, ho.lt b hb⟩)
  have HLw13 := (show Hid (OwnL w13 (StPageRecord.rows ⟨Lused, ⟨Ldata_e, Ldata_a, Ldata_c, Ldata_b⟩⟩)) from ho)
  clear hd hf ho
  have hkk : Same w12 w13 := hk
  have hzw13 := hkk.size
  have HWw13 := hid (HWw12.out.same hkk)
  have HZw13 := hid (HZw12.out.same hkk)
  have HYw13 := hid (HYw12.out.same hkk)
  have HUw13 := hid (HUw12.out.same hkk)
  have HJ0w13 := hid (HJ0w12.out.same hkk)
  have HKw13 := (show Hid (Same w w13) from HKw12.out.trans hkk)
  clear hkk hk
  clear cZ_0 cZ_1 lZ cY_0 cY_1 lY
  have cZ_0 := HZw13.out.c0
  have cZ_1 := HZw13.out.c1
  have lZ := HZw13.out.lt
  have cY_0 := HYw13.out.c0
  have cY_1 := HYw13.out.c1
  have lY := HYw13.out.lt
  go_wp2_with fail
  refine (eqPageRecord_own ⟨Lused, ⟨Ldata_e, Ldata_a, Ldata_c, Ldata_b⟩⟩ ⟨Wused, ⟨Wdata_e, Wdata_a, Wdata_c, Wdata_b⟩⟩ _ (by omega) (HDL.out.trans HDW.out.symm) (HLw13.out.same ((Kept.refl _ _).alloc _)) (HWw13.out.same ((Kept.refl _ _).alloc _))).mono ?_
  rintro e w14 ⟨rfl, hk⟩
  have hkk : Same w13 w14 := ((Kept.refl _ _).alloc _).trans hk
  have hzw14 := hk.size
  rw [World.size_alloc] at hzw14
  have HWw14 := hid (HWw13.out.same hkk)
  have HZw14 := hid (HZw13.out.same hkk)
  have HYw14 := hid (HYw13.out.same hkk)
  have HUw14 := hid (HUw13.out.same hkk)
  have HLw14 := hid (HLw13.out.same hkk)
  have HVw14 := (show Hid (Blk w14 (w13.heap.size) 41 [.bool Lused, .slice Ldata_a Ldata_b.length Ldata_c]) from (Blk.new w13 #[.bool Lused, .slice Ldata_a Ldata_b.length Ldata_c] 41).same hk)
  have HKw14 := (show Hid (Same w w14) from HKw13.out.trans hkk)
  clear hkk hk
  clear cZ_0 cZ_1 lZ cY_0 cY_1 lY
  have cY_0 := HYw14.out.c0
  have cY_1 := HYw14.out.c1
  have lY := HYw14.out.lt
  go_wp2_with fail
  have hm := heldPageRecord_own ⟨Gused, ⟨Gdata_e, Gdata_a, Gdata_c, Gdata_b⟩⟩ 1 w14 (by omega) (by rw [HM.out]; omega) HUw14.out
  rw [HM.out] at hm
  dsimp only [StPageRecord.val, BS.v] at hm
  refine hm.mono ?_
  clear hm
  rintro e w15 ⟨rfl, hk⟩
  have hkk : Same w14 w15 := hk
  have hzw15 := hkk.size
  have HYw15 := hid (HYw14.out.same hkk)
  have HUw15 := hid (HUw14.out.same hkk)
  have HKw15 := (show Hid (Same w w15) from HKw14.out.trans hkk)
  clear hkk hk
  clear cY_0 cY_1 lY
  go_wp2
  go_ret
  exact ⟨rfl, HKw15.out⟩
end Go.Proofs.Ytkmfkiojipkjhaa

namespace Go.Proofs.Ytkmfkiojipkjhaa.fnExactPageGet
open Go.ChangeShapes Go.WideShapes Go.ChangeAt Go.RowKit
set_option linter.unusedVariables false
theorem own : ownKnob Try.prog.godebug = none := by kernel_rfl
theorem laidOut : laidOutB Try.prog = true := by kernel_rfl
set_option maxRecDepth 100000 in
theorem lifted (os : Os) (started : os.Started) (H : Type) (enc : TypeId × Value → H) :
    ReturnsInHanded {} Try.checked os 7 .any (Rows.fnExactPageGetSpec.pre6 enc Try.prog Try.f7 Rows.fnExactPageGetRow.domain false) (Rows.fnExactPageGetSpec.post enc Try.prog Try.f7 false true false false) := by
  refine returnsInHanded_of_change (C := Try.checked) own started (by kernel_rfl) Try.func7
    (ChangeSpec.witness6 (enc := enc) (C := Try.checked) false ⟨#[], #[.slice none 0 0, .int .i64 0], []⟩ 8 (by kernel_rfl) (by kernel_rfl) (by kernel_rfl) (by kernel_rfl)) ?_
  intro W base args ds gs before hval0 hW hcnd _
  have hval : ∀ (j : Nat) t v, Try.f7.params[j]? = some t → args[j]? = some v → Value.okWide Try.prog W .any base t v := hval0
  have hW' := hW
  obtain ⟨p, q, hA0, hV, rfl, hfz, hnd⟩ := hW
  have hA : DataW.TrodAll enc Try.prog W 0 (fun _ => true) true Try.f7.params.toList args.toList ds p := hA0
  rw [Try.params7] at hA hval
  obtain ⟨v0, vs0, d0, ds0, p0, q0, hargs, rfl, rfl, h0, r0⟩ := trodAll_cons hA
  obtain ⟨v1, vs1, d1, ds1, p1, q1, rfl, rfl, rfl, h1, r1⟩ := trodAll_cons r0
  obtain ⟨rfl, rfl, rfl⟩ := trodAll_nil r1
  obtain rfl : args = #[v0, v1] := by cases args; simp_all
  obtain ⟨rfl, rfl⟩ := trodVars_none hV
  have k0 := h0
  have lt0 : ∀ x ∈ p0, x.block < W.heap.size := by obtain ⟨m, hm⟩ := k0; exact DataW.trod_lt m _ _ _ hm
  obtain ⟨x0, rd0, bd0⟩ := open_bytesB (hval 0 22 v0 rfl rfl) h0
  obtain ⟨a1, rfl, rfl, rfl, w1⟩ := open_int Try.underlying2 (hval 1 2 v1 rfl rfl) h1
  clear hA0 hval0
  refine (pageGet_law v0 x0 a1 W rd0 bd0).mono fun e W' ⟨he, hk⟩ => ?_
  have bel : Below W.heap.size W W' := hk.below (Nat.le_refl _) (fun _ _ => id)
  subst he
  exact ⟨_, rfl, _, _, _, [], _, [], hW', trodAll_mk1 (shut_bool Try.underlying4 _), (trodAll_cons_mk (Below.trod laidOut (by kernel_rfl) (of_decide_eq_true (by kernel_rfl)) k0 bel lt0) (trodAll_cons_mk (shut_int Try.underlying2 w1) trodAll_mk0)), rfl, bel.frame _, fun h => by cases h⟩
theorem over : Rows.fnExactPageGetRow.holds Try.pinned (OpenSpec.ofChange Rows.fnExactPageGetSpec) :=
  OpenClaim.holds_of_wide 7 Try.f7 rfl rfl rfl rfl rfl rfl rfl ⟨rfl, rfl, rfl, rfl, rfl⟩ rfl rfl rfl rfl rfl (by kernel_rfl) Try.func7 (by kernel_rfl)
    (of_decide_eq_true (by kernel_rfl)) (by unfold Func.isWrapper; first | (rw [if_pos (by decide +kernel)]; kernel_rfl) | (rw [if_neg (by decide +kernel)]; exact ⟨rfl, rfl⟩))
    (fun os started H enc _ => lifted os started H enc)
end Go.Proofs.Ytkmfkiojipkjhaa.fnExactPageGet
namespace Go.Proofs.Ytkmfkiojipkjhaa
theorem pageGet_proved : Rows.FnExactPageGetSaid := fnExactPageGet.over
#print axioms pageGet_proved
end Go.Proofs.Ytkmfkiojipkjhaa
