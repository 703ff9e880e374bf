import Derived.Test.YtlmcaodiiadlkaaG17
import Derived.Test.YtlmcaodiiadlkaaG00
import Derived.Deep.DeepCutAuto
import Derived.Deep.RegionWith
import Derived.Deep.DeepMust
namespace Go.Proofs.Ytlmcaodiiadlkaa
open Go.RowKit
set_option linter.unusedVariables false
set_option maxRecDepth 100000 in
set_option maxHeartbeats 16000000 in
theorem stepFault_law (x0 : StStep) (w : World) (hv0 : StStep.rd w x0) (hB0 : x0.isB) :
    Calls Try.prog 5 #[x0.val] w fun e w' => e = .returned (.bool true) ∧ Same w w' := by
  obtain ⟨p0kd, p0tx, p0rid, p0cnt, ⟨p0data_e, p0data_a, p0data_c, p0data_b⟩, ⟨p0keep_e, p0keep_a, p0keep_n, p0keep_c, p0keep_b⟩⟩ := x0
  have HV0 := (show Hid (StStep.rd w ⟨p0kd, p0tx, p0rid, p0cnt, ⟨p0data_e, p0data_a, p0data_c, p0data_b⟩, ⟨p0keep_e, p0keep_a, p0keep_n, p0keep_c, p0keep_b⟩⟩) from hv0)
  clear hv0
  have HB0 := (show Hid (StStep.isB ⟨p0kd, p0tx, p0rid, p0cnt, ⟨p0data_e, p0data_a, p0data_c, p0data_b⟩, ⟨p0keep_e, p0keep_a, p0keep_n, p0keep_c, p0keep_b⟩⟩) from hB0)
  clear hB0
  dsimp only [StStep.val, BS.v, FR.v]
  go_enter Try.func5, Try.ntmps5
  have HKw : Hid (Same w w) := Kept.refl _ _
  go_wp2_with fail
  refine (szStep_any ⟨p0kd, p0tx, p0rid, p0cnt, ⟨p0data_e, p0data_a, p0data_c, p0data_b⟩, ⟨p0keep_e, p0keep_a, p0keep_n, p0keep_c, p0keep_b⟩⟩ _ _ (by omega) (by omega) (HV0.out.same ((Kept.refl _ _).alloc _))).mono ?_
  rintro e w1 ⟨sz0, rfl, hr, hk⟩
  have hkk : Same w w1 := ((Kept.refl _ _).alloc _).trans hk
  have hzw1 := hk.size
  rw [World.size_alloc] at hzw1
  have HA0w1 := (show Hid (Blk w1 (w.heap.size) 47 [.int .i64 p0kd, .int .i64 p0tx, .int .i64 p0rid, .int .i64 p0cnt, .slice p0data_a p0data_b.length p0data_c, .slice p0keep_a p0keep_n p0keep_c]) from (Blk.new w #[.int .i64 p0kd, .int .i64 p0tx, .int .i64 p0rid, .int .i64 p0cnt, .slice p0data_a p0data_b.length p0data_c, .slice p0keep_a p0keep_n p0keep_c] 47).same hk)
  have HKw1 := (show Hid (Same w w1) from HKw.out.trans hkk)
  clear hkk hk
  rcases hr with rfl | ⟨hr, hr0⟩
  · go_wp2
    go_ret
    exact ⟨rfl, HKw1.out⟩
  have hsz0 : StStep.szs ⟨p0kd, p0tx, p0rid, p0cnt, ⟨p0data_e, p0data_a, p0data_c, p0data_b⟩, ⟨p0keep_e, p0keep_a, p0keep_n, p0keep_c, p0keep_b⟩⟩ ≤ 1048576 := by omega
  clear hr
  have cA0_0 : w1.cell? ⟨w.heap.size, 0, none⟩ = some (.int .i64 p0kd) := HA0w1.out.cell 0
  have cA0_1 : w1.cell? ⟨w.heap.size, 1, none⟩ = some (.int .i64 p0tx) := HA0w1.out.cell 1
  have cA0_2 : w1.cell? ⟨w.heap.size, 2, none⟩ = some (.int .i64 p0rid) := HA0w1.out.cell 2
  have cA0_3 : w1.cell? ⟨w.heap.size, 3, none⟩ = some (.int .i64 p0cnt) := HA0w1.out.cell 3
  have cA0_4 : w1.cell? ⟨w.heap.size, 4, none⟩ = some (.slice p0data_a p0data_b.length p0data_c) := HA0w1.out.cell 4
  have cA0_5 : w1.cell? ⟨w.heap.size, 5, none⟩ = some (.slice p0keep_a p0keep_n p0keep_c) := HA0w1.out.cell 5
  have lA0 := HA0w1.out.lt
  go_wp2_with fail
  refine (toStep_any ⟨p0kd, p0tx, p0rid, p0cnt, ⟨p0data_e, p0data_a, p0data_c, p0data_b⟩, ⟨p0keep_e, p0keep_a, p0keep_n, p0keep_c, p0keep_b⟩⟩ _ (by omega) (HV0.out.same HKw1.out)).mono ?_
  rintro e w2 ⟨⟨C0kd, C0tx, C0rid, C0cnt, ⟨C0data_e, C0data_a, C0data_c, C0data_b⟩, ⟨C0keep_e, C0keep_a, C0keep_n, C0keep_c, C0keep_b⟩⟩, rfl, hd, hz, hf, ho, hk⟩
  have HCC0 := (show Hid (StStep.dat ⟨C0kd, C0tx, C0rid, C0cnt, ⟨C0data_e, C0data_a, C0data_c, C0data_b⟩, ⟨C0keep_e, C0keep_a, C0keep_n, C0keep_c, C0keep_b⟩⟩ = StStep.dat ⟨p0kd, p0tx, p0rid, p0cnt, ⟨p0data_e, p0data_a, p0data_c, p0data_b⟩, ⟨p0keep_e, p0keep_a, p0keep_n, p0keep_c, p0keep_b⟩⟩) from hd)
  have HZC0 := (show Hid (StStep.szs ⟨C0kd, C0tx, C0rid, C0cnt, ⟨C0data_e, C0data_a, C0data_c, C0data_b⟩, ⟨C0keep_e, C0keep_a, C0keep_n, C0keep_c, C0keep_b⟩⟩ = StStep.szs ⟨p0kd, p0tx, p0rid, p0cnt, ⟨p0data_e, p0data_a, p0data_c, p0data_b⟩, ⟨p0keep_e, p0keep_a, p0keep_n, p0keep_c, p0keep_b⟩⟩) from hz)
  clear hd hz
  dsimp only [StStep.val, BS.v, FR.v]
  have HFC0 := (show Hid (∀ b, FootL (StStep.rows ⟨C0kd, C0tx, C0rid, C0cnt, ⟨C0data_e, C0data_a, C0data_c, C0data_b⟩, ⟨C0keep_e, C0keep_a, C0keep_n, C0keep_c, C0keep_b⟩⟩) b → w1.heap.size ≤ b ∧ b < w2.heap.size) from fun b hb => ⟨hf b hb, ho.lt b hb⟩)
  have HC0w2 := (show Hid (OwnL w2 (StStep.rows ⟨C0kd, C0tx, C0rid, C0cnt, ⟨C0data_e, C0data_a, C0data_c, C0data_b⟩, ⟨C0keep_e, C0keep_a, C0keep_n, C0keep_c, C0keep_b⟩⟩)) from ho)
  clear hf ho
  have hkk : Same w1 w2 := hk
  have hzw2 := hkk.size
  have HA0w2 := (show Hid (Blk w2 (w.heap.size) 47 [.int .i64 p0kd, .int .i64 p0tx, .int .i64 p0rid, .int .i64 p0cnt, .slice p0data_a p0data_b.length p0data_c, .slice p0keep_a p0keep_n p0keep_c]) from HA0w1.out.same hkk)
  have HKw2 := (show Hid (Same w w2) from HKw1.out.trans hkk)
  clear hkk hk
  clear cA0_0 cA0_1 cA0_2 cA0_3 cA0_4 cA0_5 lA0
  have cA0_0 : w2.cell? ⟨w.heap.size, 0, none⟩ = some (.int .i64 p0kd) := HA0w2.out.cell 0
  have cA0_1 : w2.cell? ⟨w.heap.size, 1, none⟩ = some (.int .i64 p0tx) := HA0w2.out.cell 1
  have cA0_2 : w2.cell? ⟨w.heap.size, 2, none⟩ = some (.int .i64 p0rid) := HA0w2.out.cell 2
  have cA0_3 : w2.cell? ⟨w.heap.size, 3, none⟩ = some (.int .i64 p0cnt) := HA0w2.out.cell 3
  have cA0_4 : w2.cell? ⟨w.heap.size, 4, none⟩ = some (.slice p0data_a p0data_b.length p0data_c) := HA0w2.out.cell 4
  have cA0_5 : w2.cell? ⟨w.heap.size, 5, none⟩ = some (.slice p0keep_a p0keep_n p0keep_c) := HA0w2.out.cell 5
  have lA0 := HA0w2.out.lt
  go_wp2_with fail
  refine (specStepD_any ⟨C0kd, C0tx, C0rid, C0cnt, ⟨C0data_e, C0data_a, C0data_c, C0data_b⟩, ⟨C0keep_e, C0keep_a, C0keep_n, C0keep_c, C0keep_b⟩⟩ _ (StStep.isB_dat HCC0.out HB0.out) (by have := HZC0.out; omega) (StStep.own_rd HC0w2.out)).mono ?_
  rintro e w3 ⟨rfl, hk⟩
  rw [HCC0.out]
  obtain ⟨r0, hR⟩ : ∃ r, stepFd (StStep.dat ⟨p0kd, p0tx, p0rid, p0cnt, ⟨p0data_e, p0data_a, p0data_c, p0data_b⟩, ⟨p0keep_e, p0keep_a, p0keep_n, p0keep_c, p0keep_b⟩⟩) = r := ⟨_, rfl⟩
  have HR : Hid (stepFd (StStep.dat ⟨p0kd, p0tx, p0rid, p0cnt, ⟨p0data_e, p0data_a, p0data_c, p0data_b⟩, ⟨p0keep_e, p0keep_a, p0keep_n, p0keep_c, p0keep_b⟩⟩) = r0) := hR
  clear hR
  rw [HR.out]
  have hkk : Same w2 w3 := hk
  have hzw3 := hkk.size
  have HA0w3 := (show Hid (Blk w3 (w.heap.size) 47 [.int .i64 p0kd, .int .i64 p0tx, .int .i64 p0rid, .int .i64 p0cnt, .slice p0data_a p0data_b.length p0data_c, .slice p0keep_a p0keep_n p0keep_c]) from HA0w2.out.same hkk)
  have HC0w3 := (show Hid (OwnL w3 (StStep.rows ⟨C0kd, C0tx, C0rid, C0cnt, ⟨C0data_e, C0data_a, C0data_c, C0data_b⟩, ⟨C0keep_e, C0keep_a, C0keep_n, C0keep_c, C0keep_b⟩⟩)) from HC0w2.out.same hkk)
  have HKw3 := (show Hid (Same w w3) from HKw2.out.trans hkk)
  clear hkk hk
  clear cA0_0 cA0_1 cA0_2 cA0_3 cA0_4 cA0_5 lA0
  have cA0_0 : w3.cell? ⟨w.heap.size, 0, none⟩ = some (.int .i64 p0kd) := HA0w3.out.cell 0
  have cA0_1 : w3.cell? ⟨w.heap.size, 1, none⟩ = some (.int .i64 p0tx) := HA0w3.out.cell 1
  have cA0_2 : w3.cell? ⟨w.heap.size, 2, none⟩ = some (.int .i64 p0rid) := HA0w3.out.cell 2
  have cA0_3 : w3.cell? ⟨w.heap.size, 3, none⟩ = some (.int .i64 p0cnt) := HA0w3.out.cell 3
  have cA0_4 : w3.cell? ⟨w.heap.size, 4, none⟩ = some (.slice p0data_a p0data_b.length p0data_c) := HA0w3.out.cell 4
  have cA0_5 : w3.cell? ⟨w.heap.size, 5, none⟩ = some (.slice p0keep_a p0keep_n p0keep_c) := HA0w3.out.cell 5
  have lA0 := HA0w3.out.lt
  go_wp2_with fail
  refine (toStep_any ⟨p0kd, p0tx, p0rid, p0cnt, ⟨p0data_e, p0data_a, p0data_c, p0data_b⟩, ⟨p0keep_e, p0keep_a, p0keep_n, p0keep_c, p0keep_b⟩⟩ _ (by omega) (HV0.out.same HKw3.out)).mono ?_
  rintro e w4 ⟨⟨X0kd, X0tx, X0rid, X0cnt, ⟨X0data_e, X0data_a, X0data_c, X0data_b⟩, ⟨X0keep_e, X0keep_a, X0keep_n, X0keep_c, X0keep_b⟩⟩, rfl, hd, hz, hf, ho, hk⟩
  have HCX0 := (show Hid (StStep.dat ⟨X0kd, X0tx, X0rid, X0cnt, ⟨X0data_e, X0data_a, X0data_c, X0data_b⟩, ⟨X0keep_e, X0keep_a, X0keep_n, X0keep_c, X0keep_b⟩⟩ = StStep.dat ⟨p0kd, p0tx, p0rid, p0cnt, ⟨p0data_e, p0data_a, p0data_c, p0data_b⟩, ⟨p0keep_e, p0keep_a, p0keep_n, p0keep_c, p0keep_b⟩⟩) from hd)
  have HZX0 := (show Hid (StStep.szs ⟨X0kd, X0tx, X0rid, X0cnt, ⟨X0data_e, X0data_a, X0data_c, X0data_b⟩, ⟨X0keep_e, X0keep_a, X0keep_n, X0keep_c, X0keep_b⟩⟩ = StStep.szs ⟨p0kd, p0tx, p0rid, p0cnt, ⟨p0data_e, p0data_a, p0data_c, p0data_b⟩, ⟨p0keep_e, p0keep_a, p0keep_n, p0keep_c, p0keep_b⟩⟩) from hz)
  clear hd hz
  dsimp only [StStep.val, BS.v, FR.v]
  have HFX0 := (show Hid (∀ b, FootL (StStep.rows ⟨X0kd, X0tx, X0rid, X0cnt, ⟨X0data_e, X0data_a, X0data_c, X0data_b⟩, ⟨X0keep_e, X0keep_a, X0keep_n, X0keep_c, X0keep_b⟩⟩) b → w3.heap.size ≤ b ∧ b < w4.heap.size) from fun b hb => ⟨hf b hb, ho.lt b hb⟩)
  have HX0w4 := (show Hid (OwnL w4 (StStep.rows ⟨X0kd, X0tx, X0rid, X0cnt, ⟨X0data_e, X0data_a, X0data_c, X0data_b⟩, ⟨X0keep_e, X0keep_a, X0keep_n, X0keep_c, X0keep_b⟩⟩)) from ho)
  clear hf ho
  have hkk : Same w3 w4 := hk
  have hzw4 := hkk.size
  have HA0w4 := (show Hid (Blk w4 (w.heap.size) 47 [.int .i64 p0kd, .int .i64 p0tx, .int .i64 p0rid, .int .i64 p0cnt, .slice p0data_a p0data_b.length p0data_c, .slice p0keep_a p0keep_n p0keep_c]) from HA0w3.out.same hkk)
  have HKw4 := (show Hid (Same w w4) from HKw3.out.trans hkk)
  clear hkk hk
  clear cA0_0 cA0_1 cA0_2 cA0_3 cA0_4 cA0_5 lA0
  have cA0_0 : w4.cell? ⟨w.heap.size, 0, none⟩ = some (.int .i64 p0kd) := HA0w4.out.cell 0
  have cA0_1 : w4.cell? ⟨w.heap.size, 1, none⟩ = some (.int .i64 p0tx) := HA0w4.out.cell 1
  have cA0_2 : w4.cell? ⟨w.heap.size, 2, none⟩ = some (.int .i64 p0rid) := HA0w4.out.cell 2
  have cA0_3 : w4.cell? ⟨w.heap.size, 3, none⟩ = some (.int .i64 p0cnt) := HA0w4.out.cell 3
  have cA0_4 : w4.cell? ⟨w.heap.size, 4, none⟩ = some (.slice p0data_a p0data_b.length p0data_c) := HA0w4.out.cell 4
  have cA0_5 : w4.cell? ⟨w.heap.size, 5, none⟩ = some (.slice p0keep_a p0keep_n p0keep_c) := HA0w4.out.cell 5
  have lA0 := HA0w4.out.lt
  go_wp2_with fail
  refine (implStepD_any ⟨X0kd, X0tx, X0rid, X0cnt, ⟨X0data_e, X0data_a, X0data_c, X0data_b⟩, ⟨X0keep_e, X0keep_a, X0keep_n, X0keep_c, X0keep_b⟩⟩ _ (StStep.isB_dat HCX0.out HB0.out) (by have := HZX0.out; omega) (StStep.own_rd (HX0w4.out.same ((Kept.refl _ _).alloc _)))).mono ?_
  rintro e w5 ⟨rfl, hk⟩
  rw [HCX0.out]
  rw [HR.out]
  have hkk : Same w4 w5 := ((Kept.refl _ _).alloc _).trans hk
  have hzw5 := hk.size
  rw [World.size_alloc] at hzw5
  have HA0w5 := (show Hid (Blk w5 (w.heap.size) 47 [.int .i64 p0kd, .int .i64 p0tx, .int .i64 p0rid, .int .i64 p0cnt, .slice p0data_a p0data_b.length p0data_c, .slice p0keep_a p0keep_n p0keep_c]) from HA0w4.out.same hkk)
  have HX0w5 := (show Hid (OwnL w5 (StStep.rows ⟨X0kd, X0tx, X0rid, X0cnt, ⟨X0data_e, X0data_a, X0data_c, X0data_b⟩, ⟨X0keep_e, X0keep_a, X0keep_n, X0keep_c, X0keep_b⟩⟩)) from HX0w4.out.same hkk)
  have HT0w5 := (show Hid (Blk w5 (w4.heap.size) 50 [.int .i64 X0kd, .int .i64 X0tx, .int .i64 X0rid, .int .i64 X0cnt, .slice X0data_a X0data_b.length X0data_c, .slice X0keep_a X0keep_n X0keep_c]) from (Blk.new w4 #[.int .i64 X0kd, .int .i64 X0tx, .int .i64 X0rid, .int .i64 X0cnt, .slice X0data_a X0data_b.length X0data_c, .slice X0keep_a X0keep_n X0keep_c] 50).same hk)
  have HKw5 := (show Hid (Same w w5) from HKw4.out.trans hkk)
  clear hkk hk
  clear cA0_0 cA0_1 cA0_2 cA0_3 cA0_4 cA0_5 lA0
  have cA0_0 : w5.cell? ⟨w.heap.size, 0, none⟩ = some (.int .i64 p0kd) := HA0w5.out.cell 0
  have cA0_1 : w5.cell? ⟨w.heap.size, 1, none⟩ = some (.int .i64 p0tx) := HA0w5.out.cell 1
  have cA0_2 : w5.cell? ⟨w.heap.size, 2, none⟩ = some (.int .i64 p0rid) := HA0w5.out.cell 2
  have cA0_3 : w5.cell? ⟨w.heap.size, 3, none⟩ = some (.int .i64 p0cnt) := HA0w5.out.cell 3
  have cA0_4 : w5.cell? ⟨w.heap.size, 4, none⟩ = some (.slice p0data_a p0data_b.length p0data_c) := HA0w5.out.cell 4
  have cA0_5 : w5.cell? ⟨w.heap.size, 5, none⟩ = some (.slice p0keep_a p0keep_n p0keep_c) := HA0w5.out.cell 5
  have lA0 := HA0w5.out.lt
  have cT0_0 : w5.cell? ⟨w4.heap.size, 0, none⟩ = some (.int .i64 X0kd) := HT0w5.out.cell 0
  have cT0_1 : w5.cell? ⟨w4.heap.size, 1, none⟩ = some (.int .i64 X0tx) := HT0w5.out.cell 1
  have cT0_2 : w5.cell? ⟨w4.heap.size, 2, none⟩ = some (.int .i64 X0rid) := HT0w5.out.cell 2
  have cT0_3 : w5.cell? ⟨w4.heap.size, 3, none⟩ = some (.int .i64 X0cnt) := HT0w5.out.cell 3
  have cT0_4 : w5.cell? ⟨w4.heap.size, 4, none⟩ = some (.slice X0data_a X0data_b.length X0data_c) := HT0w5.out.cell 4
  have cT0_5 : w5.cell? ⟨w4.heap.size, 5, none⟩ = some (.slice X0keep_a X0keep_n X0keep_c) := HT0w5.out.cell 5
  have lT0 := HT0w5.out.lt
  go_wp2_with fail
  go_cut [26] (fun v wc => v = .bool false ∧ Hid (Same w5 wc))
  case first =>
    have HD1 : Hid (Same w w5.drew) := HKw5.out.drew
    have HD2 : Hid (Same w5 w5.drew) := (Kept.refl _ _).drew
    go_region_with (first | (go_at_call 23; refine (toStep_any ⟨p0kd, p0tx, p0rid, p0cnt, ⟨p0data_e, p0data_a, p0data_c, p0data_b⟩, ⟨p0keep_e, p0keep_a, p0keep_n, p0keep_c, p0keep_b⟩⟩ _ (by omega) (by exact HV0.out.same HD1.out)).mono ?_; rintro e wx7 ⟨⟨zkd, ztx, zrid, zcnt, ⟨zdata_e, zdata_a, zdata_c, zdata_b⟩, ⟨zkeep_e, zkeep_a, zkeep_n, zkeep_c, zkeep_b⟩⟩, rfl, hd7, _, hf7, ho7, hk7⟩; have HO7 := (show Hid (OwnL wx7 (StStep.rows ⟨zkd, ztx, zrid, zcnt, ⟨zdata_e, zdata_a, zdata_c, zdata_b⟩, ⟨zkeep_e, zkeep_a, zkeep_n, zkeep_c, zkeep_b⟩⟩)) from ho7); have HQ7 := (show Hid (StStep.dat ⟨zkd, ztx, zrid, zcnt, ⟨zdata_e, zdata_a, zdata_c, zdata_b⟩, ⟨zkeep_e, zkeep_a, zkeep_n, zkeep_c, zkeep_b⟩⟩ = StStep.dat ⟨p0kd, p0tx, p0rid, p0cnt, ⟨p0data_e, p0data_a, p0data_c, p0data_b⟩, ⟨p0keep_e, p0keep_a, p0keep_n, p0keep_c, p0keep_b⟩⟩) from hd7); have HK7 : Hid (Same w5 wx7) := HD2.out.trans hk7; clear ho7 hd7 hf7 hk7; dsimp only [StStep.val, BS.v, FR.v]; have y0 : wx7.cell? ⟨w4.heap.size, 0, none⟩ = some (.int .i64 X0kd) := (HT0w5.out.same HK7.out).cell 0; have y1 : wx7.cell? ⟨w4.heap.size, 1, none⟩ = some (.int .i64 X0tx) := (HT0w5.out.same HK7.out).cell 1; have y2 : wx7.cell? ⟨w4.heap.size, 2, none⟩ = some (.int .i64 X0rid) := (HT0w5.out.same HK7.out).cell 2; have y3 : wx7.cell? ⟨w4.heap.size, 3, none⟩ = some (.int .i64 X0cnt) := (HT0w5.out.same HK7.out).cell 3; have y4 : wx7.cell? ⟨w4.heap.size, 4, none⟩ = some (.slice X0data_a X0data_b.length X0data_c) := (HT0w5.out.same HK7.out).cell 4; have y5 : wx7.cell? ⟨w4.heap.size, 5, none⟩ = some (.slice X0keep_a X0keep_n X0keep_c) := (HT0w5.out.same HK7.out).cell 5) | (go_at_call 25; refine (eqStep_own ⟨X0kd, X0tx, X0rid, X0cnt, ⟨X0data_e, X0data_a, X0data_c, X0data_b⟩, ⟨X0keep_e, X0keep_a, X0keep_n, X0keep_c, X0keep_b⟩⟩ ⟨zkd, ztx, zrid, zcnt, ⟨zdata_e, zdata_a, zdata_c, zdata_b⟩, ⟨zkeep_e, zkeep_a, zkeep_n, zkeep_c, zkeep_b⟩⟩ _ (by have h1 := StStep.size_rd (StStep.own_rd HX0w5.out); have h2 := HZX0.out; omega) (HCX0.out.trans HQ7.out.symm) (HX0w5.out.same HK7.out) HO7.out).mono ?_; rintro e wx8 ⟨rfl, hk8⟩))
    all_goals
      have HK8 : Hid (Same w5 wx8) := HK7.out.trans hk8
      clear hk8
      go_wp2_with fail
      go_meet
      case rel => exact ⟨rfl, HK8⟩
  case rest =>
  obtain ⟨rfl, HKC⟩ := hcut
  obtain ⟨w6, hwc⟩ : ∃ x, x = wc := ⟨_, rfl⟩
  subst hwc
  clear cA0_0 cA0_1 cA0_2 cA0_3 cA0_4 cA0_5 lA0 cT0_0 cT0_1 cT0_2 cT0_3 cT0_4 cT0_5 lT0
  have hkk : Same w5 w6 := HKC.out
  have hzw6 := hkk.size
  have HA0w6 := (show Hid (Blk w6 (w.heap.size) 47 [.int .i64 p0kd, .int .i64 p0tx, .int .i64 p0rid, .int .i64 p0cnt, .slice p0data_a p0data_b.length p0data_c, .slice p0keep_a p0keep_n p0keep_c]) from HA0w5.out.same hkk)
  have HX0w6 := (show Hid (OwnL w6 (StStep.rows ⟨X0kd, X0tx, X0rid, X0cnt, ⟨X0data_e, X0data_a, X0data_c, X0data_b⟩, ⟨X0keep_e, X0keep_a, X0keep_n, X0keep_c, X0keep_b⟩⟩)) from HX0w5.out.same hkk)
  have HT0w6 := (show Hid (Blk w6 (w4.heap.size) 50 [.int .i64 X0kd, .int .i64 X0tx, .int .i64 X0rid, .int .i64 X0cnt, .slice X0data_a X0data_b.length X0data_c, .slice X0keep_a X0keep_n X0keep_c]) from HT0w5.out.same hkk)
  have HKw6 := (show Hid (Same w w6) from HKw5.out.trans hkk)
  clear hkk
  go_wp2
  go_ret
  exact ⟨rfl, HKw6.out⟩
end Go.Proofs.Ytlmcaodiiadlkaa

namespace Go.Proofs.Ytlmcaodiiadlkaa.fnExactStepFault
open Go.ChangeShapes Go.WideShapes Go.ChangeAt Go.RowKit
set_option linter.unusedVariables false
theorem own : ownKnob Try.prog.godebug = none := by kernel_rfl
theorem laidOut : laidOutB Try.prog = true := by kernel_rfl
set_option maxRecDepth 100000 in
theorem lifted (os : Os) (started : os.Started) (H : Type) (enc : TypeId × Value → H) :
    ReturnsInHanded {} Try.checked os 5 .any (Rows.fnExactStepFaultSpec.pre6 enc Try.prog Try.f5 Rows.fnExactStepFaultRow.domain false) (Rows.fnExactStepFaultSpec.post enc Try.prog Try.f5 false true false false) := by
  refine returnsInHanded_of_change (C := Try.checked) own started (by kernel_rfl) Try.func5
    (ChangeSpec.witness6 (enc := enc) (C := Try.checked) false ⟨#[], #[.agg #[.int .i64 0, .int .i64 0, .int .i64 0, .int .i64 0, .slice none 0 0, .slice none 0 0]], []⟩ 8 (by kernel_rfl) (by kernel_rfl) (by kernel_rfl) (by kernel_rfl)) ?_
  intro W base args ds gs before hval0 hW hcnd _
  have hval : ∀ (j : Nat) t v, Try.f5.params[j]? = some t → args[j]? = some v → Value.okWide Try.prog W .any base t v := hval0
  have hW' := hW
  obtain ⟨p, q, hA0, hV, rfl, hfz, hnd⟩ := hW
  have hA : DataW.TrodAll enc Try.prog W 0 (fun _ => true) true Try.f5.params.toList args.toList ds p := hA0
  rw [Try.params5] at hA hval
  obtain ⟨v0, vs0, d0, ds0, p0, q0, hargs, rfl, rfl, h0, r0⟩ := trodAll_cons hA
  obtain ⟨rfl, rfl, rfl⟩ := trodAll_nil r0
  obtain rfl : args = #[v0] := by cases args; simp_all
  obtain ⟨rfl, rfl⟩ := trodVars_none hV
  have k0 := h0
  have lt0 : ∀ x ∈ p0, x.block < W.heap.size := by obtain ⟨m, hm⟩ := k0; exact DataW.trod_lt m _ _ _ hm
  obtain ⟨x0, rfl, rd0, bd0⟩ := open_step (hval 0 47 v0 rfl rfl) h0
  clear hA0 hval0
  refine (stepFault_law x0 W rd0 bd0).mono fun e W' ⟨he, hk⟩ => ?_
  have bel : Below W.heap.size W W' := hk.below (Nat.le_refl _) (fun _ _ => id)
  subst he
  exact ⟨_, rfl, _, _, _, [], _, [], hW', trodAll_mk1 (shut_bool Try.underlying4 _), (trodAll_cons_mk (Below.trod laidOut (by kernel_rfl) (of_decide_eq_true (by kernel_rfl)) k0 bel lt0) trodAll_mk0), rfl, bel.frame _, fun h => by cases h⟩
theorem over : Rows.fnExactStepFaultRow.holds Try.pinned (OpenSpec.ofChange Rows.fnExactStepFaultSpec) :=
  OpenClaim.holds_of_wide 5 Try.f5 rfl rfl rfl rfl rfl rfl rfl ⟨rfl, rfl, rfl, rfl, rfl⟩ rfl rfl rfl rfl rfl (by kernel_rfl) Try.func5 (by kernel_rfl)
    (of_decide_eq_true (by kernel_rfl)) (by unfold Func.isWrapper; first | (rw [if_pos (by decide +kernel)]; kernel_rfl) | (rw [if_neg (by decide +kernel)]; exact ⟨rfl, rfl⟩))
    (fun os started H enc _ => lifted os started H enc)
end Go.Proofs.Ytlmcaodiiadlkaa.fnExactStepFault
namespace Go.Proofs.Ytlmcaodiiadlkaa
theorem stepFault_proved : Rows.FnExactStepFaultSaid := fnExactStepFault.over
#print axioms stepFault_proved
end Go.Proofs.Ytlmcaodiiadlkaa
