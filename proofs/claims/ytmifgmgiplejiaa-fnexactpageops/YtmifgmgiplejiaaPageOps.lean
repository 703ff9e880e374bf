/-
  The law over PageOps (by tools/lawgen.py).
-/
import Derived.Test.YtmifgmgiplejiaaFmtOpsI
import Derived.Test.YtmifgmgiplejiaaLedgerLaw
import Derived.Deep.DeepCutAuto
namespace Go.Proofs.Ytmifgmgiplejiaa
open Go.RowKit
set_option linter.unusedVariables false

set_option maxRecDepth 100000 in
set_option maxHeartbeats 16000000 in
theorem pageOps_law (gp0 gf0 gl0 : Int) (s1 : Int) (v2 : Value) (bs2 : List Int) (w : World) (hv2 : Rd .u8 w v2 bs2) :
    Calls Try.prog 6 #[.agg #[.int .i64 gp0, .int .i64 gf0, .int .i64 gl0], .int .i64 s1, v2] w fun e w' => e = .returned (.bool true) ∧ Same w w' := by
  obtain ⟨a2a, c2a, rfl⟩ := hv2.form
  have hm2 := hv2.1
  unfold maxLen at hm2
  have HV2 := (show Hid (Rd .u8 w (.slice a2a bs2.length c2a) bs2) from hv2)
  clear hv2
  go_enter Try.func6, Try.ntmps6
  have HKw : Hid (Same w w) := Kept.refl _ _
  by_cases hb2 : (1048576 : Int) < (bs2.length : Int)
  · go_wp2
    go_ret
    exact ⟨rfl, by first | exact Kept.refl _ _ | exact (Kept.refl _ _).alloc _ | exact ((Kept.refl _ _).alloc _).alloc _⟩
  go_wp2_with fail
  refine (toGeo_any gp0 gf0 gl0 _).mono ?_
  rintro e w1 ⟨rfl, hk⟩
  have hkk : Same w w1 := ((Kept.refl _ _).alloc _).trans hk
  have hzw1 := hk.size
  rw [World.size_alloc] at hzw1
  have HA0w1 := (show Hid (Blk w1 (w.heap.size) 23 [.int .i64 gp0, .int .i64 gf0, .int .i64 gl0]) from (Blk.new w #[.int .i64 gp0, .int .i64 gf0, .int .i64 gl0] 23).same hk)
  have HKw1 := (show Hid (Same w w1) from HKw.out.trans hkk)
  clear hkk hk
  have cA0_0 : w1.cell? ⟨w.heap.size, 0, none⟩ = some (.int .i64 gp0) := HA0w1.out.cell 0
  have cA0_1 : w1.cell? ⟨w.heap.size, 1, none⟩ = some (.int .i64 gf0) := HA0w1.out.cell 1
  have cA0_2 : w1.cell? ⟨w.heap.size, 2, none⟩ = some (.int .i64 gl0) := HA0w1.out.cell 2
  have lA0 := HA0w1.out.lt
  go_wp2_with fail
  refine (toByteS_any _ bs2 _ (by omega) (HV2.out.same HKw1.out)).mono ?_
  rintro e w2 ⟨gC2, rfl, hf, ho, hk⟩
  have hf : ∀ b, (Value.slice (some ⟨gC2, 0, none⟩) bs2.length bs2.length).ownBlock = some b → _ ≤ b := fun b hb => by rw [← (Option.some.inj hb : gC2 = b)]; exact hf
  have HFC2 := (show Hid (∀ b, (Value.slice (some ⟨gC2, 0, none⟩) bs2.length bs2.length).ownBlock = some b → w1.heap.size ≤ b ∧ b < w2.heap.size) from fun b hb => ⟨hf b hb, (ho.lt b hb).2⟩)
  have HC2w2 := (show Hid (Own 0 5 .u8 w2 (.slice (some ⟨gC2, 0, none⟩) bs2.length bs2.length) bs2) from ho)
  clear hf ho
  have hkk : Same w1 w2 := hk
  have hzw2 := hkk.size
  have HA0w2 := (show Hid (Blk w2 (w.heap.size) 23 [.int .i64 gp0, .int .i64 gf0, .int .i64 gl0]) from HA0w1.out.same hkk)
  have HKw2 := (show Hid (Same w w2) from HKw1.out.trans hkk)
  clear hkk hk
  clear cA0_0 cA0_1 cA0_2 lA0
  have cA0_0 : w2.cell? ⟨w.heap.size, 0, none⟩ = some (.int .i64 gp0) := HA0w2.out.cell 0
  have cA0_1 : w2.cell? ⟨w.heap.size, 1, none⟩ = some (.int .i64 gf0) := HA0w2.out.cell 1
  have cA0_2 : w2.cell? ⟨w.heap.size, 2, none⟩ = some (.int .i64 gl0) := HA0w2.out.cell 2
  have lA0 := HA0w2.out.lt
  go_wp2_with fail
  refine (specPgOps_any gp0 gf0 gl0 s1 _ bs2 _ (by omega) (HC2w2.out.rd)).mono ?_
  rintro e w3 ⟨_, rfl, aW, nW, cW, qsW, rfl, hR, hf, ho, hk⟩
  have HR := (show Hid (datOpS qsW = pgOps gp0 gf0 gl0 s1 bs2) from hR)
  have HSM : Hid (∀ qs : List EOp, datOpS qs = datOpS qsW → qs.length ≤ 1048576 ∧ sizeOpS qs ≤ 16777216) := fun qs hd => by
    have hd := hd.trans HR.out
    have h2 := pgOps_small hd
    omega
  have HFW := (show Hid (∀ b, footR kOp (.slice aW nW cW) qsW b → w2.heap.size ≤ b ∧ b < w3.heap.size) from fun b hb => ⟨hf b hb, (ho.lt b hb).2⟩)
  have HWw3 := (show Hid (OwnR kOp 0 64 5 w3 (.slice aW nW cW) qsW) from ho)
  clear hf ho hR
  have hkk : Same w2 w3 := hk
  have hzw3 := hkk.size
  have HA0w3 := (show Hid (Blk w3 (w.heap.size) 23 [.int .i64 gp0, .int .i64 gf0, .int .i64 gl0]) from HA0w2.out.same hkk)
  have HC2w3 := (show Hid (Own 0 5 .u8 w3 (.slice (some ⟨gC2, 0, none⟩) bs2.length bs2.length) bs2) from HC2w2.out.same hkk)
  have HKw3 := (show Hid (Same w w3) from HKw2.out.trans hkk)
  clear hkk hk
  clear cA0_0 cA0_1 cA0_2 lA0
  have cA0_0 : w3.cell? ⟨w.heap.size, 0, none⟩ = some (.int .i64 gp0) := HA0w3.out.cell 0
  have cA0_1 : w3.cell? ⟨w.heap.size, 1, none⟩ = some (.int .i64 gf0) := HA0w3.out.cell 1
  have cA0_2 : w3.cell? ⟨w.heap.size, 2, none⟩ = some (.int .i64 gl0) := HA0w3.out.cell 2
  have lA0 := HA0w3.out.lt
  go_wp2_with fail
  refine (toByteS_any _ bs2 _ (by omega) (HV2.out.same HKw3.out)).mono ?_
  rintro e w4 ⟨gX2, rfl, hf, ho, hk⟩
  have hf : ∀ b, (Value.slice (some ⟨gX2, 0, none⟩) bs2.length bs2.length).ownBlock = some b → _ ≤ b := fun b hb => by rw [← (Option.some.inj hb : gX2 = b)]; exact hf
  have HFX2 := (show Hid (∀ b, (Value.slice (some ⟨gX2, 0, none⟩) bs2.length bs2.length).ownBlock = some b → w3.heap.size ≤ b ∧ b < w4.heap.size) from fun b hb => ⟨hf b hb, (ho.lt b hb).2⟩)
  have HX2w4 := (show Hid (Own 0 5 .u8 w4 (.slice (some ⟨gX2, 0, none⟩) bs2.length bs2.length) bs2) from ho)
  clear hf ho
  have hkk : Same w3 w4 := hk
  have hzw4 := hkk.size
  have HA0w4 := (show Hid (Blk w4 (w.heap.size) 23 [.int .i64 gp0, .int .i64 gf0, .int .i64 gl0]) from HA0w3.out.same hkk)
  have HWw4 := (show Hid (OwnR kOp 0 64 5 w4 (.slice aW nW cW) qsW) from HWw3.out.same hkk)
  have HKw4 := (show Hid (Same w w4) from HKw3.out.trans hkk)
  clear hkk hk
  clear cA0_0 cA0_1 cA0_2 lA0
  have cA0_0 : w4.cell? ⟨w.heap.size, 0, none⟩ = some (.int .i64 gp0) := HA0w4.out.cell 0
  have cA0_1 : w4.cell? ⟨w.heap.size, 1, none⟩ = some (.int .i64 gf0) := HA0w4.out.cell 1
  have cA0_2 : w4.cell? ⟨w.heap.size, 2, none⟩ = some (.int .i64 gl0) := HA0w4.out.cell 2
  have lA0 := HA0w4.out.lt
  go_wp2_with fail
  refine (toGeo_any gp0 gf0 gl0 _).mono ?_
  rintro e w5 ⟨rfl, hk⟩
  have hkk : Same w4 w5 := hk
  have hzw5 := hkk.size
  have HA0w5 := (show Hid (Blk w5 (w.heap.size) 23 [.int .i64 gp0, .int .i64 gf0, .int .i64 gl0]) from HA0w4.out.same hkk)
  have HWw5 := (show Hid (OwnR kOp 0 64 5 w5 (.slice aW nW cW) qsW) from HWw4.out.same hkk)
  have HX2w5 := (show Hid (Own 0 5 .u8 w5 (.slice (some ⟨gX2, 0, none⟩) bs2.length bs2.length) bs2) from HX2w4.out.same hkk)
  have HKw5 := (show Hid (Same w w5) from HKw4.out.trans hkk)
  clear hkk hk
  clear cA0_0 cA0_1 cA0_2 lA0
  have cA0_0 : w5.cell? ⟨w.heap.size, 0, none⟩ = some (.int .i64 gp0) := HA0w5.out.cell 0
  have cA0_1 : w5.cell? ⟨w.heap.size, 1, none⟩ = some (.int .i64 gf0) := HA0w5.out.cell 1
  have cA0_2 : w5.cell? ⟨w.heap.size, 2, none⟩ = some (.int .i64 gl0) := HA0w5.out.cell 2
  have lA0 := HA0w5.out.lt
  go_wp2_with fail
  refine (implPgOps_any gp0 gf0 gl0 s1 _ bs2 _ (by omega) (HX2w5.out.rd)).mono ?_
  rintro e w6 ⟨_, rfl, aG, nG, cG, qsG, rfl, hR, hf, ho, hk⟩
  have HQG : Hid (datOpS qsG = datOpS qsW) := hR.trans HR.out.symm
  have HFG := (show Hid (∀ b, footR kOp (.slice aG nG cG) qsG b → w5.heap.size ≤ b ∧ b < w6.heap.size) from fun b hb => ⟨hf b hb, (ho.lt b hb).2⟩)
  have HGw6 := (show Hid (OwnR kOp 0 64 5 w6 (.slice aG nG cG) qsG) from ho)
  clear hf ho hR
  have hkk : Same w5 w6 := hk
  have hzw6 := hkk.size
  have HA0w6 := (show Hid (Blk w6 (w.heap.size) 23 [.int .i64 gp0, .int .i64 gf0, .int .i64 gl0]) from HA0w5.out.same hkk)
  have HWw6 := (show Hid (OwnR kOp 0 64 5 w6 (.slice aW nW cW) qsW) from HWw5.out.same hkk)
  have HX2w6 := (show Hid (Own 0 5 .u8 w6 (.slice (some ⟨gX2, 0, none⟩) bs2.length bs2.length) bs2) from HX2w5.out.same hkk)
  have HKw6 := (show Hid (Same w w6) from HKw5.out.trans hkk)
  clear hkk hk
  clear cA0_0 cA0_1 cA0_2 lA0
  have cA0_0 : w6.cell? ⟨w.heap.size, 0, none⟩ = some (.int .i64 gp0) := HA0w6.out.cell 0
  have cA0_1 : w6.cell? ⟨w.heap.size, 1, none⟩ = some (.int .i64 gf0) := HA0w6.out.cell 1
  have cA0_2 : w6.cell? ⟨w.heap.size, 2, none⟩ = some (.int .i64 gl0) := HA0w6.out.cell 2
  have lA0 := HA0w6.out.lt
  go_wp2_with fail
  refine (eqOpS_own 0 _ _ qsG qsW _ (Nat.le_trans (HSM.out qsG HQG.out).1 (by omega)) HQG.out (fun p hp => by have h1 := (HSM.out qsG HQG.out).2; have h2 := sizeOpS_mem qsG p hp; omega) HGw6.out HWw6.out).mono ?_
  rintro e w7 ⟨rfl, hk⟩
  have hkk : Same w6 w7 := hk
  have hzw7 := hkk.size
  have HA0w7 := (show Hid (Blk w7 (w.heap.size) 23 [.int .i64 gp0, .int .i64 gf0, .int .i64 gl0]) from HA0w6.out.same hkk)
  have HWw7 := (show Hid (OwnR kOp 0 64 5 w7 (.slice aW nW cW) qsW) from HWw6.out.same hkk)
  have HX2w7 := (show Hid (Own 0 5 .u8 w7 (.slice (some ⟨gX2, 0, none⟩) bs2.length bs2.length) bs2) from HX2w6.out.same hkk)
  have HGw7 := (show Hid (OwnR kOp 0 64 5 w7 (.slice aG nG cG) qsG) from HGw6.out.same hkk)
  have HKw7 := (show Hid (Same w w7) from HKw6.out.trans hkk)
  clear hkk hk
  clear cA0_0 cA0_1 cA0_2 lA0
  have cA0_0 : w7.cell? ⟨w.heap.size, 0, none⟩ = some (.int .i64 gp0) := HA0w7.out.cell 0
  have cA0_1 : w7.cell? ⟨w.heap.size, 1, none⟩ = some (.int .i64 gf0) := HA0w7.out.cell 1
  have cA0_2 : w7.cell? ⟨w.heap.size, 2, none⟩ = some (.int .i64 gl0) := HA0w7.out.cell 2
  have lA0 := HA0w7.out.lt
  go_wp2_with fail
  refine (toByteS_any _ bs2 _ (by omega) (HV2.out.same HKw7.out)).mono ?_
  rintro e w8 ⟨gD2, rfl, hf, ho, hk⟩
  have hf : ∀ b, (Value.slice (some ⟨gD2, 0, none⟩) bs2.length bs2.length).ownBlock = some b → _ ≤ b := fun b hb => by rw [← (Option.some.inj hb : gD2 = b)]; exact hf
  have HFD2 := (show Hid (∀ b, (Value.slice (some ⟨gD2, 0, none⟩) bs2.length bs2.length).ownBlock = some b → w7.heap.size ≤ b ∧ b < w8.heap.size) from fun b hb => ⟨hf b hb, (ho.lt b hb).2⟩)
  have HD2w8 := (show Hid (Own 0 5 .u8 w8 (.slice (some ⟨gD2, 0, none⟩) bs2.length bs2.length) bs2) from ho)
  clear hf ho
  have hkk : Same w7 w8 := hk
  have hzw8 := hkk.size
  have HA0w8 := (show Hid (Blk w8 (w.heap.size) 23 [.int .i64 gp0, .int .i64 gf0, .int .i64 gl0]) from HA0w7.out.same hkk)
  have HWw8 := (show Hid (OwnR kOp 0 64 5 w8 (.slice aW nW cW) qsW) from HWw7.out.same hkk)
  have HX2w8 := (show Hid (Own 0 5 .u8 w8 (.slice (some ⟨gX2, 0, none⟩) bs2.length bs2.length) bs2) from HX2w7.out.same hkk)
  have HGw8 := (show Hid (OwnR kOp 0 64 5 w8 (.slice aG nG cG) qsG) from HGw7.out.same hkk)
  have HKw8 := (show Hid (Same w w8) from HKw7.out.trans hkk)
  clear hkk hk
  clear cA0_0 cA0_1 cA0_2 lA0
  have cA0_0 : w8.cell? ⟨w.heap.size, 0, none⟩ = some (.int .i64 gp0) := HA0w8.out.cell 0
  have cA0_1 : w8.cell? ⟨w.heap.size, 1, none⟩ = some (.int .i64 gf0) := HA0w8.out.cell 1
  have cA0_2 : w8.cell? ⟨w.heap.size, 2, none⟩ = some (.int .i64 gl0) := HA0w8.out.cell 2
  have lA0 := HA0w8.out.lt
  go_wp2_with fail
  refine (eqByteS_own 0 _ _ bs2 _ (by omega) HX2w8.out HD2w8.out).mono ?_
  rintro e w9 ⟨rfl, nn, hww⟩
  have hk : Same w8 w9 := by rw [hww]; exact (Kept.refl _ _).drewN _
  clear hww
  have hkk : Same w8 w9 := hk
  have hzw9 := hkk.size
  have HA0w9 := (show Hid (Blk w9 (w.heap.size) 23 [.int .i64 gp0, .int .i64 gf0, .int .i64 gl0]) from HA0w8.out.same hkk)
  have HWw9 := (show Hid (OwnR kOp 0 64 5 w9 (.slice aW nW cW) qsW) from HWw8.out.same hkk)
  have HX2w9 := (show Hid (Own 0 5 .u8 w9 (.slice (some ⟨gX2, 0, none⟩) bs2.length bs2.length) bs2) from HX2w8.out.same hkk)
  have HGw9 := (show Hid (OwnR kOp 0 64 5 w9 (.slice aG nG cG) qsG) from HGw8.out.same hkk)
  have HKw9 := (show Hid (Same w w9) from HKw8.out.trans hkk)
  clear hkk hk
  clear cA0_0 cA0_1 cA0_2 lA0
  have hE0 : (0 : Int) ≤ 1 := by omega
  have hE0b : (1 : Int) ≤ 1 := by omega
  have cA0_0 : w9.cell? ⟨w.heap.size, 0, none⟩ = some (.int .i64 gp0) := HA0w9.out.cell 0
  have cA0_1 : w9.cell? ⟨w.heap.size, 1, none⟩ = some (.int .i64 gf0) := HA0w9.out.cell 1
  have cA0_2 : w9.cell? ⟨w.heap.size, 2, none⟩ = some (.int .i64 gl0) := HA0w9.out.cell 2
  have lA0 := HA0w9.out.lt
  go_wp2_with fail
  refine (markByteS_own 0 _ bs2 1 _ (by omega) (by omega) (by omega) HX2w9.out).mono ?_
  rintro e w10 ⟨rfl, _, hk⟩
  obtain ⟨E1, hE⟩ : ∃ E : Int, 1 + (bs2.length : Int) = E := ⟨_, rfl⟩
  have hE1 : 0 ≤ E1 := by omega
  have hE1b : E1 ≤ 7000001 := by omega
  rw [hE]
  clear hE
  have hzw10 := hk.size
  have HA0w10 := (show Hid (Blk w10 (w.heap.size) 23 [.int .i64 gp0, .int .i64 gf0, .int .i64 gl0]) from HA0w9.out.kept hk (fun e => by have h1 := HFX2.out _ e; omega))
  have HWw10 := (show Hid (OwnR kOp 0 64 5 w10 (.slice aW nW cW) qsW) from HWw9.out.kept hk (fun b hb e => by have h1 := HFX2.out _ e; have h2 := HFW.out b hb; omega))
  have HGw10 := (show Hid (OwnR kOp 0 64 5 w10 (.slice aG nG cG) qsG) from HGw9.out.kept hk (fun b hb e => by have h1 := HFX2.out _ e; have h2 := HFG.out b hb; omega))
  have HKw10 := (show Hid (Same w w10) from HKw9.out.next hk (fun b hb e => by have h1 := HFX2.out _ e; omega))
  clear cA0_0 cA0_1 cA0_2 lA0
  clear hk
  have hEn : ¬ E1 < 0 := by omega
  have cA0_0 : w10.cell? ⟨w.heap.size, 0, none⟩ = some (.int .i64 gp0) := HA0w10.out.cell 0
  have cA0_1 : w10.cell? ⟨w.heap.size, 1, none⟩ = some (.int .i64 gf0) := HA0w10.out.cell 1
  have cA0_2 : w10.cell? ⟨w.heap.size, 2, none⟩ = some (.int .i64 gl0) := HA0w10.out.cell 2
  have lA0 := HA0w10.out.lt
  go_wp2_with fail
  refine (eqOpS_own 0 _ _ qsG qsW _ (Nat.le_trans (HSM.out qsG HQG.out).1 (by omega)) HQG.out (fun p hp => by have h1 := (HSM.out qsG HQG.out).2; have h2 := sizeOpS_mem qsG p hp; omega) HGw10.out HWw10.out).mono ?_
  rintro e w11 ⟨rfl, hk⟩
  have hkk : Same w10 w11 := hk
  have hzw11 := hkk.size
  have HA0w11 := (show Hid (Blk w11 (w.heap.size) 23 [.int .i64 gp0, .int .i64 gf0, .int .i64 gl0]) from HA0w10.out.same hkk)
  have HWw11 := (show Hid (OwnR kOp 0 64 5 w11 (.slice aW nW cW) qsW) from HWw10.out.same hkk)
  have HGw11 := (show Hid (OwnR kOp 0 64 5 w11 (.slice aG nG cG) qsG) from HGw10.out.same hkk)
  have HKw11 := (show Hid (Same w w11) from HKw10.out.trans hkk)
  clear hkk hk
  clear cA0_0 cA0_1 cA0_2 lA0
  have hgs := HSM.out qsG HQG.out
  obtain ⟨M, hM⟩ : ∃ M, endR mOp 1 qsG = M := ⟨_, rfl⟩
  have hM0 : 0 ≤ M := by rw [← hM, endOpS_size]; omega
  have hM1 : M ≤ 1125899906842624 := by rw [← hM, endOpS_size]; omega
  have HM : Hid (endR mOp 1 qsG = M) := hM
  clear hM
  have hM2 : ¬ M < 0 := by omega
  have cA0_0 : w11.cell? ⟨w.heap.size, 0, none⟩ = some (.int .i64 gp0) := HA0w11.out.cell 0
  have cA0_1 : w11.cell? ⟨w.heap.size, 1, none⟩ = some (.int .i64 gf0) := HA0w11.out.cell 1
  have cA0_2 : w11.cell? ⟨w.heap.size, 2, none⟩ = some (.int .i64 gl0) := HA0w11.out.cell 2
  have lA0 := HA0w11.out.lt
  go_wp2_with fail
  have hm := markOpS_own 0 (.slice aG nG cG) qsG 1 w11 (by omega) (by rw [HM.out]; exact hM1) (by omega) HGw11.out
  rw [HM.out] at hm
  refine hm.mono ?_
  clear hm
  rintro e w12 ⟨rfl, ho, hk⟩
  have hzw12 := hk.size
  have HA0w12 := (show Hid (Blk w12 (w.heap.size) 23 [.int .i64 gp0, .int .i64 gf0, .int .i64 gl0]) from HA0w11.out.kept hk (fun e => by have h1 := HFG.out _ e; omega))
  have HWw12 := (show Hid (OwnR kOp 0 64 5 w12 (.slice aW nW cW) qsW) from HWw11.out.kept hk (fun b hb e => by have h1 := HFG.out _ e; have h2 := HFW.out b hb; omega))
  have HKw12 := (show Hid (Same w w12) from HKw11.out.next hk (fun b hb e => by have h1 := HFG.out _ e; omega))
  have HUw12 := (show Hid (OwnR kOp 0 64 5 w12 (.slice aG nG cG) (markR mOp 1 qsG)) from ho)
  clear cA0_0 cA0_1 cA0_2 lA0
  clear hk ho
  have cA0_0 : w12.cell? ⟨w.heap.size, 0, none⟩ = some (.int .i64 gp0) := HA0w12.out.cell 0
  have cA0_1 : w12.cell? ⟨w.heap.size, 1, none⟩ = some (.int .i64 gf0) := HA0w12.out.cell 1
  have cA0_2 : w12.cell? ⟨w.heap.size, 2, none⟩ = some (.int .i64 gl0) := HA0w12.out.cell 2
  have lA0 := HA0w12.out.lt
  go_wp2_with fail
  have hm := heldOpS_own 0 (.slice aG nG cG) qsG 1 w12 (by omega) (by rw [HM.out]; exact hM1) (by omega) HUw12.out
  rw [HM.out] at hm
  refine hm.mono ?_
  clear hm
  rintro e w13 ⟨rfl, hww⟩
  have hk : Same w12 w13 := by rw [hww]; exact Kept.refl _ _
  clear hww
  have hkk : Same w12 w13 := hk
  have hzw13 := hkk.size
  have HA0w13 := (show Hid (Blk w13 (w.heap.size) 23 [.int .i64 gp0, .int .i64 gf0, .int .i64 gl0]) from HA0w12.out.same hkk)
  have HWw13 := (show Hid (OwnR kOp 0 64 5 w13 (.slice aW nW cW) qsW) from HWw12.out.same hkk)
  have HUw13 := (show Hid (OwnR kOp 0 64 5 w13 (.slice aG nG cG) (markR mOp 1 qsG)) from HUw12.out.same hkk)
  have HKw13 := (show Hid (Same w w13) from HKw12.out.trans hkk)
  clear hkk hk
  clear cA0_0 cA0_1 cA0_2 lA0
  have cA0_0 : w13.cell? ⟨w.heap.size, 0, none⟩ = some (.int .i64 gp0) := HA0w13.out.cell 0
  have cA0_1 : w13.cell? ⟨w.heap.size, 1, none⟩ = some (.int .i64 gf0) := HA0w13.out.cell 1
  have cA0_2 : w13.cell? ⟨w.heap.size, 2, none⟩ = some (.int .i64 gl0) := HA0w13.out.cell 2
  have lA0 := HA0w13.out.lt
  go_wp2_with fail
  refine (toGeo_any gp0 gf0 gl0 _).mono ?_
  rintro e w14 ⟨rfl, hk⟩
  have hkk : Same w13 w14 := hk
  have hzw14 := hkk.size
  have HA0w14 := (show Hid (Blk w14 (w.heap.size) 23 [.int .i64 gp0, .int .i64 gf0, .int .i64 gl0]) from HA0w13.out.same hkk)
  have HWw14 := (show Hid (OwnR kOp 0 64 5 w14 (.slice aW nW cW) qsW) from HWw13.out.same hkk)
  have HUw14 := (show Hid (OwnR kOp 0 64 5 w14 (.slice aG nG cG) (markR mOp 1 qsG)) from HUw13.out.same hkk)
  have HKw14 := (show Hid (Same w w14) from HKw13.out.trans hkk)
  clear hkk hk
  clear cA0_0 cA0_1 cA0_2 lA0
  have cA0_0 : w14.cell? ⟨w.heap.size, 0, none⟩ = some (.int .i64 gp0) := HA0w14.out.cell 0
  have cA0_1 : w14.cell? ⟨w.heap.size, 1, none⟩ = some (.int .i64 gf0) := HA0w14.out.cell 1
  have cA0_2 : w14.cell? ⟨w.heap.size, 2, none⟩ = some (.int .i64 gl0) := HA0w14.out.cell 2
  have lA0 := HA0w14.out.lt
  go_wp2_with fail
  refine (toByteS_any _ bs2 _ (by omega) (HV2.out.same HKw14.out)).mono ?_
  rintro e w15 ⟨gJ2, rfl, hf, ho, hk⟩
  have hf : ∀ b, (Value.slice (some ⟨gJ2, 0, none⟩) bs2.length bs2.length).ownBlock = some b → _ ≤ b := fun b hb => by rw [← (Option.some.inj hb : gJ2 = b)]; exact hf
  have HFJ2 := (show Hid (∀ b, (Value.slice (some ⟨gJ2, 0, none⟩) bs2.length bs2.length).ownBlock = some b → w14.heap.size ≤ b ∧ b < w15.heap.size) from fun b hb => ⟨hf b hb, (ho.lt b hb).2⟩)
  have HJ2w15 := (show Hid (Own 0 5 .u8 w15 (.slice (some ⟨gJ2, 0, none⟩) bs2.length bs2.length) bs2) from ho)
  clear hf ho
  have hkk : Same w14 w15 := hk
  have hzw15 := hkk.size
  have HA0w15 := (show Hid (Blk w15 (w.heap.size) 23 [.int .i64 gp0, .int .i64 gf0, .int .i64 gl0]) from HA0w14.out.same hkk)
  have HWw15 := (show Hid (OwnR kOp 0 64 5 w15 (.slice aW nW cW) qsW) from HWw14.out.same hkk)
  have HUw15 := (show Hid (OwnR kOp 0 64 5 w15 (.slice aG nG cG) (markR mOp 1 qsG)) from HUw14.out.same hkk)
  have HKw15 := (show Hid (Same w w15) from HKw14.out.trans hkk)
  clear hkk hk
  clear cA0_0 cA0_1 cA0_2 lA0
  have cA0_0 : w15.cell? ⟨w.heap.size, 0, none⟩ = some (.int .i64 gp0) := HA0w15.out.cell 0
  have cA0_1 : w15.cell? ⟨w.heap.size, 1, none⟩ = some (.int .i64 gf0) := HA0w15.out.cell 1
  have cA0_2 : w15.cell? ⟨w.heap.size, 2, none⟩ = some (.int .i64 gl0) := HA0w15.out.cell 2
  have lA0 := HA0w15.out.lt
  go_wp2_with fail
  refine (implPgOps_any gp0 gf0 gl0 s1 _ bs2 _ (by omega) (HJ2w15.out.rd)).mono ?_
  rintro e w16 ⟨_, rfl, aL, nL, cL, qsL, rfl, hR, hf, ho, hk⟩
  have HQL : Hid (datOpS qsL = datOpS qsW) := hR.trans HR.out.symm
  have HFL := (show Hid (∀ b, footR kOp (.slice aL nL cL) qsL b → w15.heap.size ≤ b ∧ b < w16.heap.size) from fun b hb => ⟨hf b hb, (ho.lt b hb).2⟩)
  have HLw16 := (show Hid (OwnR kOp 0 64 5 w16 (.slice aL nL cL) qsL) from ho)
  clear hf ho hR
  have hkk : Same w15 w16 := hk
  have hzw16 := hkk.size
  have HA0w16 := (show Hid (Blk w16 (w.heap.size) 23 [.int .i64 gp0, .int .i64 gf0, .int .i64 gl0]) from HA0w15.out.same hkk)
  have HWw16 := (show Hid (OwnR kOp 0 64 5 w16 (.slice aW nW cW) qsW) from HWw15.out.same hkk)
  have HUw16 := (show Hid (OwnR kOp 0 64 5 w16 (.slice aG nG cG) (markR mOp 1 qsG)) from HUw15.out.same hkk)
  have HJ2w16 := (show Hid (Own 0 5 .u8 w16 (.slice (some ⟨gJ2, 0, none⟩) bs2.length bs2.length) bs2) from HJ2w15.out.same hkk)
  have HKw16 := (show Hid (Same w w16) from HKw15.out.trans hkk)
  clear hkk hk
  clear cA0_0 cA0_1 cA0_2 lA0
  have cA0_0 : w16.cell? ⟨w.heap.size, 0, none⟩ = some (.int .i64 gp0) := HA0w16.out.cell 0
  have cA0_1 : w16.cell? ⟨w.heap.size, 1, none⟩ = some (.int .i64 gf0) := HA0w16.out.cell 1
  have cA0_2 : w16.cell? ⟨w.heap.size, 2, none⟩ = some (.int .i64 gl0) := HA0w16.out.cell 2
  have lA0 := HA0w16.out.lt
  go_wp2_with fail
  refine (eqOpS_own 0 _ _ qsL qsW _ (Nat.le_trans (HSM.out qsL HQL.out).1 (by omega)) HQL.out (fun p hp => by have h1 := (HSM.out qsL HQL.out).2; have h2 := sizeOpS_mem qsL p hp; omega) HLw16.out HWw16.out).mono ?_
  rintro e w17 ⟨rfl, hk⟩
  have hkk : Same w16 w17 := hk
  have hzw17 := hkk.size
  have HA0w17 := (show Hid (Blk w17 (w.heap.size) 23 [.int .i64 gp0, .int .i64 gf0, .int .i64 gl0]) from HA0w16.out.same hkk)
  have HWw17 := (show Hid (OwnR kOp 0 64 5 w17 (.slice aW nW cW) qsW) from HWw16.out.same hkk)
  have HUw17 := (show Hid (OwnR kOp 0 64 5 w17 (.slice aG nG cG) (markR mOp 1 qsG)) from HUw16.out.same hkk)
  have HLw17 := (show Hid (OwnR kOp 0 64 5 w17 (.slice aL nL cL) qsL) from HLw16.out.same hkk)
  have HKw17 := (show Hid (Same w w17) from HKw16.out.trans hkk)
  clear hkk hk
  clear cA0_0 cA0_1 cA0_2 lA0
  have cA0_0 : w17.cell? ⟨w.heap.size, 0, none⟩ = some (.int .i64 gp0) := HA0w17.out.cell 0
  have cA0_1 : w17.cell? ⟨w.heap.size, 1, none⟩ = some (.int .i64 gf0) := HA0w17.out.cell 1
  have cA0_2 : w17.cell? ⟨w.heap.size, 2, none⟩ = some (.int .i64 gl0) := HA0w17.out.cell 2
  have lA0 := HA0w17.out.lt
  go_wp2_with fail
  have hm := heldOpS_own 0 (.slice aG nG cG) qsG 1 w17 (by omega) (by rw [HM.out]; exact hM1) (by omega) HUw17.out
  rw [HM.out] at hm
  refine hm.mono ?_
  clear hm
  rintro e w18 ⟨rfl, hww⟩
  have hk : Same w17 w18 := by rw [hww]; exact Kept.refl _ _
  clear hww
  have hkk : Same w17 w18 := hk
  have hzw18 := hkk.size
  have HA0w18 := (show Hid (Blk w18 (w.heap.size) 23 [.int .i64 gp0, .int .i64 gf0, .int .i64 gl0]) from HA0w17.out.same hkk)
  have HUw18 := (show Hid (OwnR kOp 0 64 5 w18 (.slice aG nG cG) (markR mOp 1 qsG)) from HUw17.out.same hkk)
  have HKw18 := (show Hid (Same w w18) from HKw17.out.trans hkk)
  clear hkk hk
  clear cA0_0 cA0_1 cA0_2 lA0
  go_wp2
  go_ret
  exact ⟨rfl, HKw18.out⟩
end Go.Proofs.Ytmifgmgiplejiaa
