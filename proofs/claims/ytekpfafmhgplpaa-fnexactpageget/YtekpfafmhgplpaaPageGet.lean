/-
  The law over PageGet (by tools/lawgen.py).
-/
import Derived.Test.YtekpfafmhgplpaaPageGetC
import Derived.Deep.DeepCutAuto
namespace Go.Proofs.Ytekpfafmhgplpaa
open Go.RowKit
set_option linter.unusedVariables false

set_option maxRecDepth 100000 in
set_option maxHeartbeats 16000000 in
theorem pageGet_law (v0 : Value) (bs0 : List Int) (s1 : Int) (w : World) (hv0 : Rd .u8 w v0 bs0) (hB0 : IsB bs0) :
    Calls Try.prog 4 #[v0, .int .i64 s1] w fun e w' => e = .returned (.bool true) ∧ Same w w' := by
  obtain ⟨a0a, c0a, rfl⟩ := hv0.form
  have hm0 := hv0.1
  unfold maxLen at hm0
  have HB0 := (show Hid (IsB bs0) from hB0)
  clear hB0
  have HV0 := (show Hid (Rd .u8 w (.slice a0a bs0.length c0a) bs0) from hv0)
  clear hv0
  go_enter Try.func4, Try.ntmps4
  have HKw : Hid (Same w w) := Kept.refl _ _
  by_cases hb0 : (1048576 : Int) < (bs0.length : Int)
  · go_wp2
    go_ret
    exact ⟨rfl, by first | exact Kept.refl _ _ | exact (Kept.refl _ _).alloc _ | exact ((Kept.refl _ _).alloc _).alloc _⟩
  go_wp2_with fail
  refine (toByteS_any _ bs0 _ (by omega) (HV0.out.same HKw.out)).mono ?_
  rintro e w1 ⟨gC0, rfl, hf, ho, hk⟩
  have hf : ∀ b, (Value.slice (some ⟨gC0, 0, none⟩) bs0.length bs0.length).ownBlock = some b → _ ≤ b := fun b hb => by rw [← (Option.some.inj hb : gC0 = b)]; exact hf
  have HFC0 := (show Hid (∀ b, (Value.slice (some ⟨gC0, 0, none⟩) bs0.length bs0.length).ownBlock = some b → w.heap.size ≤ b ∧ b < w1.heap.size) from fun b hb => ⟨hf b hb, (ho.lt b hb).2⟩)
  have HC0w1 := (show Hid (Own 0 5 .u8 w1 (.slice (some ⟨gC0, 0, none⟩) bs0.length bs0.length) bs0) from ho)
  clear hf ho
  have hkk : Same w w1 := hk
  have hzw1 := hkk.size
  have HKw1 := (show Hid (Same w w1) from HKw.out.trans hkk)
  clear hkk hk
  go_wp2_with fail
  refine (specPageGet_any _ bs0 s1 _ HB0.out (by omega) (HC0w1.out.rd)).mono ?_
  rintro e w2 ⟨⟨Wused, ⟨Wdata_e, Wdata_a, Wdata_c, Wdata_b⟩⟩, rfl, hd, hf, ho, hk⟩
  have hnW : StPageRecord.size ⟨Wused, ⟨Wdata_e, Wdata_a, Wdata_c, Wdata_b⟩⟩ ≤ 1099511627776 := pageGet_small hd
  have hnW0 := StPageRecord.size_le ⟨Wused, ⟨Wdata_e, Wdata_a, Wdata_c, Wdata_b⟩⟩
  have HDW := (show Hid (StPageRecord.dat ⟨Wused, ⟨Wdata_e, Wdata_a, Wdata_c, Wdata_b⟩⟩ = pageGet bs0 s1) from hd)
  dsimp only [StPageRecord.val, BS.v]
  have HFW := (show Hid (∀ b, FootL (StPageRecord.rows ⟨Wused, ⟨Wdata_e, Wdata_a, Wdata_c, Wdata_b⟩⟩) b → w1.heap.size ≤ b ∧ b < w2.heap.size) from fun b hb => ⟨hf b hb, ho.lt b hb⟩)
  have HWw2 := (show Hid (OwnL w2 (StPageRecord.rows ⟨Wused, ⟨Wdata_e, Wdata_a, Wdata_c, Wdata_b⟩⟩)) from ho)
  clear hd hf ho
  have hkk : Same w1 w2 := hk
  have hzw2 := hkk.size
  have HC0w2 := (show Hid (Own 0 5 .u8 w2 (.slice (some ⟨gC0, 0, none⟩) bs0.length bs0.length) bs0) from HC0w1.out.same hkk)
  have HKw2 := (show Hid (Same w w2) from HKw1.out.trans hkk)
  clear hkk hk
  go_wp2_with fail
  refine (toByteS_any _ bs0 _ (by omega) (HV0.out.same (HKw2.out.alloc _))).mono ?_
  rintro e w3 ⟨gX0, rfl, hf, ho, hk⟩
  have hf : ∀ b, (Value.slice (some ⟨gX0, 0, none⟩) bs0.length bs0.length).ownBlock = some b → _ ≤ b := fun b hb => by rw [← (Option.some.inj hb : gX0 = b)]; exact hf
  simp only [World.size_alloc] at hf
  have HFX0 := (show Hid (∀ b, (Value.slice (some ⟨gX0, 0, none⟩) bs0.length bs0.length).ownBlock = some b → w2.heap.size < b ∧ b < w3.heap.size) from fun b hb => ⟨by have := hf b hb; omega, (ho.lt b hb).2⟩)
  have HX0w3 := (show Hid (Own 0 5 .u8 w3 (.slice (some ⟨gX0, 0, none⟩) bs0.length bs0.length) bs0) from ho)
  clear hf ho
  have hkk : Same w2 w3 := ((Kept.refl _ _).alloc _).trans hk
  have hzw3 := hk.size
  rw [World.size_alloc] at hzw3
  have HWw3 := (show Hid (OwnL w3 (StPageRecord.rows ⟨Wused, ⟨Wdata_e, Wdata_a, Wdata_c, Wdata_b⟩⟩)) from HWw2.out.same hkk)
  have HZw3 := (show Hid (Blk w3 (w2.heap.size) 28 [.bool Wused, .slice Wdata_a Wdata_b.length Wdata_c]) from (Blk.new w2 #[.bool Wused, .slice Wdata_a Wdata_b.length Wdata_c] 28).same hk)
  have HKw3 := (show Hid (Same w w3) from HKw2.out.trans hkk)
  clear hkk hk
  have cZ_0 : w3.cell? ⟨w2.heap.size, 0, none⟩ = some (.bool Wused) := HZw3.out.cell 0
  have cZ_1 : w3.cell? ⟨w2.heap.size, 1, none⟩ = some (.slice Wdata_a Wdata_b.length Wdata_c) := HZw3.out.cell 1
  have lZ := HZw3.out.lt
  go_wp2_with fail
  refine (implPageGet_any _ bs0 s1 _ HB0.out (by omega) (HX0w3.out.rd)).mono ?_
  rintro e w4 ⟨⟨Gused, ⟨Gdata_e, Gdata_a, Gdata_c, Gdata_b⟩⟩, rfl, hd, hf, ho, hk⟩
  have hnG : StPageRecord.size ⟨Gused, ⟨Gdata_e, Gdata_a, Gdata_c, Gdata_b⟩⟩ ≤ 1099511627776 := pageGet_small hd
  have hnG0 := StPageRecord.size_le ⟨Gused, ⟨Gdata_e, Gdata_a, Gdata_c, Gdata_b⟩⟩
  have HDG := (show Hid (StPageRecord.dat ⟨Gused, ⟨Gdata_e, Gdata_a, Gdata_c, Gdata_b⟩⟩ = pageGet bs0 s1) from hd)
  dsimp only [StPageRecord.val, BS.v]
  have HFG := (show Hid (∀ b, FootL (StPageRecord.rows ⟨Gused, ⟨Gdata_e, Gdata_a, Gdata_c, Gdata_b⟩⟩) b → w3.heap.size ≤ b ∧ b < w4.heap.size) from fun b hb => ⟨hf b hb, ho.lt b hb⟩)
  have HGw4 := (show Hid (OwnL w4 (StPageRecord.rows ⟨Gused, ⟨Gdata_e, Gdata_a, Gdata_c, Gdata_b⟩⟩)) from ho)
  clear hd hf ho
  have hkk : Same w3 w4 := hk
  have hzw4 := hkk.size
  have HWw4 := (show Hid (OwnL w4 (StPageRecord.rows ⟨Wused, ⟨Wdata_e, Wdata_a, Wdata_c, Wdata_b⟩⟩)) from HWw3.out.same hkk)
  have HZw4 := (show Hid (Blk w4 (w2.heap.size) 28 [.bool Wused, .slice Wdata_a Wdata_b.length Wdata_c]) from HZw3.out.same hkk)
  have HX0w4 := (show Hid (Own 0 5 .u8 w4 (.slice (some ⟨gX0, 0, none⟩) bs0.length bs0.length) bs0) from HX0w3.out.same hkk)
  have HKw4 := (show Hid (Same w w4) from HKw3.out.trans hkk)
  clear hkk hk
  clear cZ_0 cZ_1 lZ
  have cZ_0 : w4.cell? ⟨w2.heap.size, 0, none⟩ = some (.bool Wused) := HZw4.out.cell 0
  have cZ_1 : w4.cell? ⟨w2.heap.size, 1, none⟩ = some (.slice Wdata_a Wdata_b.length Wdata_c) := HZw4.out.cell 1
  have lZ := HZw4.out.lt
  go_wp2_with fail
  refine (eqPageRecord_own ⟨Gused, ⟨Gdata_e, Gdata_a, Gdata_c, Gdata_b⟩⟩ ⟨Wused, ⟨Wdata_e, Wdata_a, Wdata_c, Wdata_b⟩⟩ _ (by omega) (HDG.out.trans HDW.out.symm) (HGw4.out.same ((Kept.refl _ _).alloc _)) (HWw4.out.same ((Kept.refl _ _).alloc _))).mono ?_
  rintro e w5 ⟨rfl, hk⟩
  have hkk : Same w4 w5 := ((Kept.refl _ _).alloc _).trans hk
  have hzw5 := hk.size
  rw [World.size_alloc] at hzw5
  have HWw5 := (show Hid (OwnL w5 (StPageRecord.rows ⟨Wused, ⟨Wdata_e, Wdata_a, Wdata_c, Wdata_b⟩⟩)) from HWw4.out.same hkk)
  have HZw5 := (show Hid (Blk w5 (w2.heap.size) 28 [.bool Wused, .slice Wdata_a Wdata_b.length Wdata_c]) from HZw4.out.same hkk)
  have HX0w5 := (show Hid (Own 0 5 .u8 w5 (.slice (some ⟨gX0, 0, none⟩) bs0.length bs0.length) bs0) from HX0w4.out.same hkk)
  have HGw5 := (show Hid (OwnL w5 (StPageRecord.rows ⟨Gused, ⟨Gdata_e, Gdata_a, Gdata_c, Gdata_b⟩⟩)) from HGw4.out.same hkk)
  have HYw5 := (show Hid (Blk w5 (w4.heap.size) 28 [.bool Gused, .slice Gdata_a Gdata_b.length Gdata_c]) from (Blk.new w4 #[.bool Gused, .slice Gdata_a Gdata_b.length Gdata_c] 28).same hk)
  have HKw5 := (show Hid (Same w w5) from HKw4.out.trans hkk)
  clear hkk hk
  clear cZ_0 cZ_1 lZ
  have cZ_0 : w5.cell? ⟨w2.heap.size, 0, none⟩ = some (.bool Wused) := HZw5.out.cell 0
  have cZ_1 : w5.cell? ⟨w2.heap.size, 1, none⟩ = some (.slice Wdata_a Wdata_b.length Wdata_c) := HZw5.out.cell 1
  have lZ := HZw5.out.lt
  have cY_0 : w5.cell? ⟨w4.heap.size, 0, none⟩ = some (.bool Gused) := HYw5.out.cell 0
  have cY_1 : w5.cell? ⟨w4.heap.size, 1, none⟩ = some (.slice Gdata_a Gdata_b.length Gdata_c) := HYw5.out.cell 1
  have lY := HYw5.out.lt
  go_wp2_with fail
  refine (toByteS_any _ bs0 _ (by omega) (HV0.out.same HKw5.out)).mono ?_
  rintro e w6 ⟨gD0, rfl, hf, ho, hk⟩
  have hf : ∀ b, (Value.slice (some ⟨gD0, 0, none⟩) bs0.length bs0.length).ownBlock = some b → _ ≤ b := fun b hb => by rw [← (Option.some.inj hb : gD0 = b)]; exact hf
  have HFD0 := (show Hid (∀ b, (Value.slice (some ⟨gD0, 0, none⟩) bs0.length bs0.length).ownBlock = some b → w5.heap.size ≤ b ∧ b < w6.heap.size) from fun b hb => ⟨hf b hb, (ho.lt b hb).2⟩)
  have HD0w6 := (show Hid (Own 0 5 .u8 w6 (.slice (some ⟨gD0, 0, none⟩) bs0.length bs0.length) bs0) from ho)
  clear hf ho
  have hkk : Same w5 w6 := hk
  have hzw6 := hkk.size
  have HWw6 := (show Hid (OwnL w6 (StPageRecord.rows ⟨Wused, ⟨Wdata_e, Wdata_a, Wdata_c, Wdata_b⟩⟩)) from HWw5.out.same hkk)
  have HZw6 := (show Hid (Blk w6 (w2.heap.size) 28 [.bool Wused, .slice Wdata_a Wdata_b.length Wdata_c]) from HZw5.out.same hkk)
  have HX0w6 := (show Hid (Own 0 5 .u8 w6 (.slice (some ⟨gX0, 0, none⟩) bs0.length bs0.length) bs0) from HX0w5.out.same hkk)
  have HGw6 := (show Hid (OwnL w6 (StPageRecord.rows ⟨Gused, ⟨Gdata_e, Gdata_a, Gdata_c, Gdata_b⟩⟩)) from HGw5.out.same hkk)
  have HYw6 := (show Hid (Blk w6 (w4.heap.size) 28 [.bool Gused, .slice Gdata_a Gdata_b.length Gdata_c]) from HYw5.out.same hkk)
  have HKw6 := (show Hid (Same w w6) from HKw5.out.trans hkk)
  clear hkk hk
  clear cZ_0 cZ_1 lZ cY_0 cY_1 lY
  have cZ_0 : w6.cell? ⟨w2.heap.size, 0, none⟩ = some (.bool Wused) := HZw6.out.cell 0
  have cZ_1 : w6.cell? ⟨w2.heap.size, 1, none⟩ = some (.slice Wdata_a Wdata_b.length Wdata_c) := HZw6.out.cell 1
  have lZ := HZw6.out.lt
  have cY_0 : w6.cell? ⟨w4.heap.size, 0, none⟩ = some (.bool Gused) := HYw6.out.cell 0
  have cY_1 : w6.cell? ⟨w4.heap.size, 1, none⟩ = some (.slice Gdata_a Gdata_b.length Gdata_c) := HYw6.out.cell 1
  have lY := HYw6.out.lt
  go_wp2_with fail
  refine (eqByteS_own 0 _ _ bs0 _ (by omega) HX0w6.out HD0w6.out).mono ?_
  rintro e w7 ⟨rfl, nn, hww⟩
  have hk : Same w6 w7 := by rw [hww]; exact (Kept.refl _ _).drewN _
  clear hww
  have hkk : Same w6 w7 := hk
  have hzw7 := hkk.size
  have HWw7 := (show Hid (OwnL w7 (StPageRecord.rows ⟨Wused, ⟨Wdata_e, Wdata_a, Wdata_c, Wdata_b⟩⟩)) from HWw6.out.same hkk)
  have HZw7 := (show Hid (Blk w7 (w2.heap.size) 28 [.bool Wused, .slice Wdata_a Wdata_b.length Wdata_c]) from HZw6.out.same hkk)
  have HX0w7 := (show Hid (Own 0 5 .u8 w7 (.slice (some ⟨gX0, 0, none⟩) bs0.length bs0.length) bs0) from HX0w6.out.same hkk)
  have HGw7 := (show Hid (OwnL w7 (StPageRecord.rows ⟨Gused, ⟨Gdata_e, Gdata_a, Gdata_c, Gdata_b⟩⟩)) from HGw6.out.same hkk)
  have HYw7 := (show Hid (Blk w7 (w4.heap.size) 28 [.bool Gused, .slice Gdata_a Gdata_b.length Gdata_c]) from HYw6.out.same hkk)
  have HKw7 := (show Hid (Same w w7) from HKw6.out.trans hkk)
  clear hkk hk
  clear cZ_0 cZ_1 lZ cY_0 cY_1 lY
  have hE0 : (0 : Int) ≤ 1 := by omega
  have hE0b : (1 : Int) ≤ 1 := by omega
  have cZ_0 : w7.cell? ⟨w2.heap.size, 0, none⟩ = some (.bool Wused) := HZw7.out.cell 0
  have cZ_1 : w7.cell? ⟨w2.heap.size, 1, none⟩ = some (.slice Wdata_a Wdata_b.length Wdata_c) := HZw7.out.cell 1
  have lZ := HZw7.out.lt
  have cY_0 : w7.cell? ⟨w4.heap.size, 0, none⟩ = some (.bool Gused) := HYw7.out.cell 0
  have cY_1 : w7.cell? ⟨w4.heap.size, 1, none⟩ = some (.slice Gdata_a Gdata_b.length Gdata_c) := HYw7.out.cell 1
  have lY := HYw7.out.lt
  go_wp2_with fail
  refine (markByteS_own 0 _ bs0 1 _ (by omega) (by omega) (by omega) HX0w7.out).mono ?_
  rintro e w8 ⟨rfl, _, hk⟩
  obtain ⟨E1, hE⟩ : ∃ E : Int, 1 + (bs0.length : Int) = E := ⟨_, rfl⟩
  have hE1 : 0 ≤ E1 := by omega
  have hE1b : E1 ≤ 5000001 := by omega
  rw [hE]
  clear hE
  have hzw8 := hk.size
  have HWw8 := (show Hid (OwnL w8 (StPageRecord.rows ⟨Wused, ⟨Wdata_e, Wdata_a, Wdata_c, Wdata_b⟩⟩)) from HWw7.out.kept hk (fun b hb e => by have h1 := HFX0.out _ e; have h2 := HFW.out b hb; omega))
  have HZw8 := (show Hid (Blk w8 (w2.heap.size) 28 [.bool Wused, .slice Wdata_a Wdata_b.length Wdata_c]) from HZw7.out.kept hk (fun e => by have h1 := HFX0.out _ e; omega))
  have HGw8 := (show Hid (OwnL w8 (StPageRecord.rows ⟨Gused, ⟨Gdata_e, Gdata_a, Gdata_c, Gdata_b⟩⟩)) from HGw7.out.kept hk (fun b hb e => by have h1 := HFX0.out _ e; have h2 := HFG.out b hb; omega))
  have HYw8 := (show Hid (Blk w8 (w4.heap.size) 28 [.bool Gused, .slice Gdata_a Gdata_b.length Gdata_c]) from HYw7.out.kept hk (fun e => by have h1 := HFX0.out _ e; omega))
  have HKw8 := (show Hid (Same w w8) from HKw7.out.next hk (fun b hb e => by have h1 := HFX0.out _ e; omega))
  clear cZ_0 cZ_1 lZ cY_0 cY_1 lY
  clear hk
  have hEn : ¬ E1 < 0 := by omega
  have cZ_0 : w8.cell? ⟨w2.heap.size, 0, none⟩ = some (.bool Wused) := HZw8.out.cell 0
  have cZ_1 : w8.cell? ⟨w2.heap.size, 1, none⟩ = some (.slice Wdata_a Wdata_b.length Wdata_c) := HZw8.out.cell 1
  have lZ := HZw8.out.lt
  have cY_0 : w8.cell? ⟨w4.heap.size, 0, none⟩ = some (.bool Gused) := HYw8.out.cell 0
  have cY_1 : w8.cell? ⟨w4.heap.size, 1, none⟩ = some (.slice Gdata_a Gdata_b.length Gdata_c) := HYw8.out.cell 1
  have lY := HYw8.out.lt
  go_wp2_with fail
  refine (eqPageRecord_own ⟨Gused, ⟨Gdata_e, Gdata_a, Gdata_c, Gdata_b⟩⟩ ⟨Wused, ⟨Wdata_e, Wdata_a, Wdata_c, Wdata_b⟩⟩ _ (by omega) (HDG.out.trans HDW.out.symm) HGw8.out HWw8.out).mono ?_
  rintro e w9 ⟨rfl, hk⟩
  have hkk : Same w8 w9 := hk
  have hzw9 := hkk.size
  have HWw9 := (show Hid (OwnL w9 (StPageRecord.rows ⟨Wused, ⟨Wdata_e, Wdata_a, Wdata_c, Wdata_b⟩⟩)) from HWw8.out.same hkk)
  have HZw9 := (show Hid (Blk w9 (w2.heap.size) 28 [.bool Wused, .slice Wdata_a Wdata_b.length Wdata_c]) from HZw8.out.same hkk)
  have HGw9 := (show Hid (OwnL w9 (StPageRecord.rows ⟨Gused, ⟨Gdata_e, Gdata_a, Gdata_c, Gdata_b⟩⟩)) from HGw8.out.same hkk)
  have HYw9 := (show Hid (Blk w9 (w4.heap.size) 28 [.bool Gused, .slice Gdata_a Gdata_b.length Gdata_c]) from HYw8.out.same hkk)
  have HKw9 := (show Hid (Same w w9) from HKw8.out.trans hkk)
  clear hkk hk
  clear cZ_0 cZ_1 lZ cY_0 cY_1 lY
  have hM2 : ¬ (1 + StPageRecord.size ⟨Gused, ⟨Gdata_e, Gdata_a, Gdata_c, Gdata_b⟩⟩) < 0 := by omega
  obtain ⟨M, hM⟩ : ∃ M, 1 + StPageRecord.size ⟨Gused, ⟨Gdata_e, Gdata_a, Gdata_c, Gdata_b⟩⟩ = M := ⟨_, rfl⟩
  have HM := (show Hid (1 + StPageRecord.size ⟨Gused, ⟨Gdata_e, Gdata_a, Gdata_c, Gdata_b⟩⟩ = M) from hM)
  have hM3 : 0 ≤ M ∧ M ≤ 1125899906842624 := by omega
  rw [hM] at hM2
  clear hM
  have cZ_0 : w9.cell? ⟨w2.heap.size, 0, none⟩ = some (.bool Wused) := HZw9.out.cell 0
  have cZ_1 : w9.cell? ⟨w2.heap.size, 1, none⟩ = some (.slice Wdata_a Wdata_b.length Wdata_c) := HZw9.out.cell 1
  have lZ := HZw9.out.lt
  have cY_0 : w9.cell? ⟨w4.heap.size, 0, none⟩ = some (.bool Gused) := HYw9.out.cell 0
  have cY_1 : w9.cell? ⟨w4.heap.size, 1, none⟩ = some (.slice Gdata_a Gdata_b.length Gdata_c) := HYw9.out.cell 1
  have lY := HYw9.out.lt
  go_wp2_with fail
  have hm := markPageRecord_own ⟨Gused, ⟨Gdata_e, Gdata_a, Gdata_c, Gdata_b⟩⟩ 1 w9 (by omega) (by rw [HM.out]; omega) HGw9.out
  rw [HM.out] at hm
  dsimp only [StPageRecord.val, BS.v] at hm
  refine hm.mono ?_
  clear hm
  rintro e w10 ⟨rfl, ho, hk⟩
  have hzw10 := hk.size
  have HWw10 := (show Hid (OwnL w10 (StPageRecord.rows ⟨Wused, ⟨Wdata_e, Wdata_a, Wdata_c, Wdata_b⟩⟩)) from HWw9.out.kept hk (fun b hb e => by have h1 := HFG.out _ e; have h2 := HFW.out b hb; omega))
  have HZw10 := (show Hid (Blk w10 (w2.heap.size) 28 [.bool Wused, .slice Wdata_a Wdata_b.length Wdata_c]) from HZw9.out.kept hk (fun e => by have h1 := HFG.out _ e; omega))
  have HYw10 := (show Hid (Blk w10 (w4.heap.size) 28 [.bool Gused, .slice Gdata_a Gdata_b.length Gdata_c]) from HYw9.out.kept hk (fun e => by have h1 := HFG.out _ e; omega))
  have HKw10 := (show Hid (Same w w10) from HKw9.out.next hk (fun b hb e => by have h1 := HFG.out _ e; omega))
  have HUw10 := (show Hid (OwnL w10 (StPageRecord.marked ⟨Gused, ⟨Gdata_e, Gdata_a, Gdata_c, Gdata_b⟩⟩ 1).rows) from ho)
  clear cZ_0 cZ_1 lZ cY_0 cY_1 lY
  clear hk ho
  have HFU := (show Hid (∀ b, FootL (StPageRecord.marked ⟨Gused, ⟨Gdata_e, Gdata_a, Gdata_c, Gdata_b⟩⟩ 1).rows b → _ ∧ _) from fun b hb => HFG.out b ((StPageRecord.foot_marked _ _ b).1 hb))
  have cZ_0 : w10.cell? ⟨w2.heap.size, 0, none⟩ = some (.bool Wused) := HZw10.out.cell 0
  have cZ_1 : w10.cell? ⟨w2.heap.size, 1, none⟩ = some (.slice Wdata_a Wdata_b.length Wdata_c) := HZw10.out.cell 1
  have lZ := HZw10.out.lt
  have cY_0 : w10.cell? ⟨w4.heap.size, 0, none⟩ = some (.bool Gused) := HYw10.out.cell 0
  have cY_1 : w10.cell? ⟨w4.heap.size, 1, none⟩ = some (.slice Gdata_a Gdata_b.length Gdata_c) := HYw10.out.cell 1
  have lY := HYw10.out.lt
  go_wp2_with fail
  have hm := heldPageRecord_own ⟨Gused, ⟨Gdata_e, Gdata_a, Gdata_c, Gdata_b⟩⟩ 1 w10 (by omega) (by rw [HM.out]; omega) HUw10.out
  rw [HM.out] at hm
  dsimp only [StPageRecord.val, BS.v] at hm
  refine hm.mono ?_
  clear hm
  rintro e w11 ⟨rfl, hk⟩
  have hkk : Same w10 w11 := hk
  have hzw11 := hkk.size
  have HWw11 := (show Hid (OwnL w11 (StPageRecord.rows ⟨Wused, ⟨Wdata_e, Wdata_a, Wdata_c, Wdata_b⟩⟩)) from HWw10.out.same hkk)
  have HZw11 := (show Hid (Blk w11 (w2.heap.size) 28 [.bool Wused, .slice Wdata_a Wdata_b.length Wdata_c]) from HZw10.out.same hkk)
  have HYw11 := (show Hid (Blk w11 (w4.heap.size) 28 [.bool Gused, .slice Gdata_a Gdata_b.length Gdata_c]) from HYw10.out.same hkk)
  have HUw11 := (show Hid (OwnL w11 (StPageRecord.marked ⟨Gused, ⟨Gdata_e, Gdata_a, Gdata_c, Gdata_b⟩⟩ 1).rows) from HUw10.out.same hkk)
  have HKw11 := (show Hid (Same w w11) from HKw10.out.trans hkk)
  clear hkk hk
  clear cZ_0 cZ_1 lZ cY_0 cY_1 lY
  have cZ_0 : w11.cell? ⟨w2.heap.size, 0, none⟩ = some (.bool Wused) := HZw11.out.cell 0
  have cZ_1 : w11.cell? ⟨w2.heap.size, 1, none⟩ = some (.slice Wdata_a Wdata_b.length Wdata_c) := HZw11.out.cell 1
  have lZ := HZw11.out.lt
  have cY_0 : w11.cell? ⟨w4.heap.size, 0, none⟩ = some (.bool Gused) := HYw11.out.cell 0
  have cY_1 : w11.cell? ⟨w4.heap.size, 1, none⟩ = some (.slice Gdata_a Gdata_b.length Gdata_c) := HYw11.out.cell 1
  have lY := HYw11.out.lt
  go_wp2_with fail
  refine (toByteS_any _ bs0 _ (by omega) (HV0.out.same HKw11.out)).mono ?_
  rintro e w12 ⟨gJ0, rfl, hf, ho, hk⟩
  have hf : ∀ b, (Value.slice (some ⟨gJ0, 0, none⟩) bs0.length bs0.length).ownBlock = some b → _ ≤ b := fun b hb => by rw [← (Option.some.inj hb : gJ0 = b)]; exact hf
  have HFJ0 := (show Hid (∀ b, (Value.slice (some ⟨gJ0, 0, none⟩) bs0.length bs0.length).ownBlock = some b → w11.heap.size ≤ b ∧ b < w12.heap.size) from fun b hb => ⟨hf b hb, (ho.lt b hb).2⟩)
  have HJ0w12 := (show Hid (Own 0 5 .u8 w12 (.slice (some ⟨gJ0, 0, none⟩) bs0.length bs0.length) bs0) from ho)
  clear hf ho
  have hkk : Same w11 w12 := hk
  have hzw12 := hkk.size
  have HWw12 := (show Hid (OwnL w12 (StPageRecord.rows ⟨Wused, ⟨Wdata_e, Wdata_a, Wdata_c, Wdata_b⟩⟩)) from HWw11.out.same hkk)
  have HZw12 := (show Hid (Blk w12 (w2.heap.size) 28 [.bool Wused, .slice Wdata_a Wdata_b.length Wdata_c]) from HZw11.out.same hkk)
  have HYw12 := (show Hid (Blk w12 (w4.heap.size) 28 [.bool Gused, .slice Gdata_a Gdata_b.length Gdata_c]) from HYw11.out.same hkk)
  have HUw12 := (show Hid (OwnL w12 (StPageRecord.marked ⟨Gused, ⟨Gdata_e, Gdata_a, Gdata_c, Gdata_b⟩⟩ 1).rows) from HUw11.out.same hkk)
  have HKw12 := (show Hid (Same w w12) from HKw11.out.trans hkk)
  clear hkk hk
  clear cZ_0 cZ_1 lZ cY_0 cY_1 lY
  have cZ_0 : w12.cell? ⟨w2.heap.size, 0, none⟩ = some (.bool Wused) := HZw12.out.cell 0
  have cZ_1 : w12.cell? ⟨w2.heap.size, 1, none⟩ = some (.slice Wdata_a Wdata_b.length Wdata_c) := HZw12.out.cell 1
  have lZ := HZw12.out.lt
  have cY_0 : w12.cell? ⟨w4.heap.size, 0, none⟩ = some (.bool Gused) := HYw12.out.cell 0
  have cY_1 : w12.cell? ⟨w4.heap.size, 1, none⟩ = some (.slice Gdata_a Gdata_b.length Gdata_c) := HYw12.out.cell 1
  have lY := HYw12.out.lt
  go_wp2_with fail
  refine (implPageGet_any _ bs0 s1 _ HB0.out (by omega) (HJ0w12.out.rd)).mono ?_
  rintro e w13 ⟨⟨Lused, ⟨Ldata_e, Ldata_a, Ldata_c, Ldata_b⟩⟩, rfl, hd, hf, ho, hk⟩
  have hnL : StPageRecord.size ⟨Lused, ⟨Ldata_e, Ldata_a, Ldata_c, Ldata_b⟩⟩ ≤ 1099511627776 := pageGet_small hd
  have hnL0 := StPageRecord.size_le ⟨Lused, ⟨Ldata_e, Ldata_a, Ldata_c, Ldata_b⟩⟩
  have HDL := (show Hid (StPageRecord.dat ⟨Lused, ⟨Ldata_e, Ldata_a, Ldata_c, Ldata_b⟩⟩ = pageGet bs0 s1) from hd)
  dsimp only [StPageRecord.val, BS.v]
  have HFL := (show Hid (∀ b, FootL (StPageRecord.rows ⟨Lused, ⟨Ldata_e, Ldata_a, Ldata_c, Ldata_b⟩⟩) b → w12.heap.size ≤ b ∧ b < w13.heap.size) from fun b hb => ⟨hf b hb, ho.lt b hb⟩)
  have HLw13 := (show Hid (OwnL w13 (StPageRecord.rows ⟨Lused, ⟨Ldata_e, Ldata_a, Ldata_c, Ldata_b⟩⟩)) from ho)
  clear hd hf ho
  have hkk : Same w12 w13 := hk
  have hzw13 := hkk.size
  have HWw13 := (show Hid (OwnL w13 (StPageRecord.rows ⟨Wused, ⟨Wdata_e, Wdata_a, Wdata_c, Wdata_b⟩⟩)) from HWw12.out.same hkk)
  have HZw13 := (show Hid (Blk w13 (w2.heap.size) 28 [.bool Wused, .slice Wdata_a Wdata_b.length Wdata_c]) from HZw12.out.same hkk)
  have HYw13 := (show Hid (Blk w13 (w4.heap.size) 28 [.bool Gused, .slice Gdata_a Gdata_b.length Gdata_c]) from HYw12.out.same hkk)
  have HUw13 := (show Hid (OwnL w13 (StPageRecord.marked ⟨Gused, ⟨Gdata_e, Gdata_a, Gdata_c, Gdata_b⟩⟩ 1).rows) from HUw12.out.same hkk)
  have HJ0w13 := (show Hid (Own 0 5 .u8 w13 (.slice (some ⟨gJ0, 0, none⟩) bs0.length bs0.length) bs0) from HJ0w12.out.same hkk)
  have HKw13 := (show Hid (Same w w13) from HKw12.out.trans hkk)
  clear hkk hk
  clear cZ_0 cZ_1 lZ cY_0 cY_1 lY
  have cZ_0 : w13.cell? ⟨w2.heap.size, 0, none⟩ = some (.bool Wused) := HZw13.out.cell 0
  have cZ_1 : w13.cell? ⟨w2.heap.size, 1, none⟩ = some (.slice Wdata_a Wdata_b.length Wdata_c) := HZw13.out.cell 1
  have lZ := HZw13.out.lt
  have cY_0 : w13.cell? ⟨w4.heap.size, 0, none⟩ = some (.bool Gused) := HYw13.out.cell 0
  have cY_1 : w13.cell? ⟨w4.heap.size, 1, none⟩ = some (.slice Gdata_a Gdata_b.length Gdata_c) := HYw13.out.cell 1
  have lY := HYw13.out.lt
  go_wp2_with fail
  refine (eqPageRecord_own ⟨Lused, ⟨Ldata_e, Ldata_a, Ldata_c, Ldata_b⟩⟩ ⟨Wused, ⟨Wdata_e, Wdata_a, Wdata_c, Wdata_b⟩⟩ _ (by omega) (HDL.out.trans HDW.out.symm) (HLw13.out.same ((Kept.refl _ _).alloc _)) (HWw13.out.same ((Kept.refl _ _).alloc _))).mono ?_
  rintro e w14 ⟨rfl, hk⟩
  have hkk : Same w13 w14 := ((Kept.refl _ _).alloc _).trans hk
  have hzw14 := hk.size
  rw [World.size_alloc] at hzw14
  have HWw14 := (show Hid (OwnL w14 (StPageRecord.rows ⟨Wused, ⟨Wdata_e, Wdata_a, Wdata_c, Wdata_b⟩⟩)) from HWw13.out.same hkk)
  have HZw14 := (show Hid (Blk w14 (w2.heap.size) 28 [.bool Wused, .slice Wdata_a Wdata_b.length Wdata_c]) from HZw13.out.same hkk)
  have HYw14 := (show Hid (Blk w14 (w4.heap.size) 28 [.bool Gused, .slice Gdata_a Gdata_b.length Gdata_c]) from HYw13.out.same hkk)
  have HUw14 := (show Hid (OwnL w14 (StPageRecord.marked ⟨Gused, ⟨Gdata_e, Gdata_a, Gdata_c, Gdata_b⟩⟩ 1).rows) from HUw13.out.same hkk)
  have HLw14 := (show Hid (OwnL w14 (StPageRecord.rows ⟨Lused, ⟨Ldata_e, Ldata_a, Ldata_c, Ldata_b⟩⟩)) from HLw13.out.same hkk)
  have HVw14 := (show Hid (Blk w14 (w13.heap.size) 28 [.bool Lused, .slice Ldata_a Ldata_b.length Ldata_c]) from (Blk.new w13 #[.bool Lused, .slice Ldata_a Ldata_b.length Ldata_c] 28).same hk)
  have HKw14 := (show Hid (Same w w14) from HKw13.out.trans hkk)
  clear hkk hk
  clear cZ_0 cZ_1 lZ cY_0 cY_1 lY
  have cY_0 : w14.cell? ⟨w4.heap.size, 0, none⟩ = some (.bool Gused) := HYw14.out.cell 0
  have cY_1 : w14.cell? ⟨w4.heap.size, 1, none⟩ = some (.slice Gdata_a Gdata_b.length Gdata_c) := HYw14.out.cell 1
  have lY := HYw14.out.lt
  go_wp2_with fail
  have hm := heldPageRecord_own ⟨Gused, ⟨Gdata_e, Gdata_a, Gdata_c, Gdata_b⟩⟩ 1 w14 (by omega) (by rw [HM.out]; omega) HUw14.out
  rw [HM.out] at hm
  dsimp only [StPageRecord.val, BS.v] at hm
  refine hm.mono ?_
  clear hm
  rintro e w15 ⟨rfl, hk⟩
  have hkk : Same w14 w15 := hk
  have hzw15 := hkk.size
  have HYw15 := (show Hid (Blk w15 (w4.heap.size) 28 [.bool Gused, .slice Gdata_a Gdata_b.length Gdata_c]) from HYw14.out.same hkk)
  have HUw15 := (show Hid (OwnL w15 (StPageRecord.marked ⟨Gused, ⟨Gdata_e, Gdata_a, Gdata_c, Gdata_b⟩⟩ 1).rows) from HUw14.out.same hkk)
  have HKw15 := (show Hid (Same w w15) from HKw14.out.trans hkk)
  clear hkk hk
  clear cY_0 cY_1 lY
  go_wp2
  go_ret
  exact ⟨rfl, HKw15.out⟩
end Go.Proofs.Ytekpfafmhgplpaa
