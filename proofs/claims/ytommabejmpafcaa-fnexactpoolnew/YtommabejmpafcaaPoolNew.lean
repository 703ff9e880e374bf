/-
  The law over PoolNew (by tools/lawgen.py).
-/
import Derived.Test.YtommabejmpafcaaPoolNewL
import Derived.Deep.DeepCutAuto
namespace Go.Proofs.Ytommabejmpafcaa
open Go.RowKit
set_option linter.unusedVariables false

set_option maxRecDepth 100000 in
set_option maxHeartbeats 16000000 in
theorem poolNew_law (s0 : Int) (w : World)  :
    Calls Try.prog 5 #[.int .i64 s0] w fun e w' => e = .returned (.bool true) ∧ Same w w' := by
  go_enter Try.func5, Try.ntmps5
  have HKw : Hid (Same w w) := Kept.refl _ _
  go_wp2_with fail
  refine (specPoolNew_any s0 _).mono ?_
  rintro e w1 ⟨aW, nW, cW, hdW, qsW, rfl, hR, hf, ho, hk⟩
  have HR := (show Hid ((hdW, datFrameS qsW) = newP s0) from hR)
  have HSM := (show Hid (SmallF (datFrameS qsW)) from newP_small HR.out)
  have HFW := (show Hid (∀ b, footR kFrame (.slice aW nW cW) qsW b → w.heap.size ≤ b ∧ b < w1.heap.size) from fun b hb => ⟨hf b hb, (ho.lt b hb).2⟩)
  have HWw1 := (show Hid (OwnR kFrame 0 36 5 w1 (.slice aW nW cW) qsW) from ho)
  clear hf ho hR
  have hkk : Same w w1 := hk
  have hzw1 := hkk.size
  have HKw1 := (show Hid (Same w w1) from HKw.out.trans hkk)
  clear hkk hk
  go_wp2_with fail
  refine (implPoolNew_any s0 _).mono ?_
  rintro e w2 ⟨aG, nG, cG, hdG, qsG, rfl, hR, hf, ho, hk⟩
  have hR2 := hR.trans HR.out.symm
  simp only [Prod.mk.injEq] at hR2
  obtain ⟨hR5, hR6⟩ := hR2
  have hR5 := hR5.symm
  subst hR5
  have HQG : Hid (datFrameS qsG = datFrameS qsW) := hR6
  clear hR6
  simp only [World.size_alloc] at hf
  have HFG := (show Hid (∀ b, footR kFrame (.slice aG nG cG) qsG b → w1.heap.size < b ∧ b < w2.heap.size) from fun b hb => ⟨by have := hf b hb; omega, (ho.lt b hb).2⟩)
  have HGw2 := (show Hid (OwnR kFrame 0 36 5 w2 (.slice aG nG cG) qsG) from ho)
  clear hf ho hR
  have hkk : Same w1 w2 := ((Kept.refl _ _).alloc _).trans hk
  have hzw2 := hk.size
  rw [World.size_alloc] at hzw2
  have HWw2 := (show Hid (OwnR kFrame 0 36 5 w2 (.slice aW nW cW) qsW) from HWw1.out.same hkk)
  have HZw2 := (show Hid (Blk w2 (w1.heap.size) 25 [(.slice aW nW cW), .int .i64 hdW]) from (Blk.new w1 #[(.slice aW nW cW), .int .i64 hdW] 25).same hk)
  have HKw2 := (show Hid (Same w w2) from HKw1.out.trans hkk)
  clear hkk hk
  have cZ_0 : w2.cell? ⟨w1.heap.size, 0, none⟩ = some ((.slice aW nW cW)) := HZw2.out.cell 0
  have cZ_1 : w2.cell? ⟨w1.heap.size, 1, none⟩ = some (.int .i64 hdW) := HZw2.out.cell 1
  have lZ := HZw2.out.lt
  go_wp2_with fail
  refine (eqPool_own 0 hdW _ _ qsG qsW _ (Nat.le_trans (HSM.out.of qsG HQG.out).1 (by omega)) HQG.out (fun p hp => Nat.le_trans ((HSM.out.of qsG HQG.out).2.1 p hp) (by omega)) (HGw2.out.same ((Kept.refl _ _).alloc _)) (HWw2.out.same ((Kept.refl _ _).alloc _))).mono ?_
  rintro e w3 ⟨rfl, hk⟩
  have hkk : Same w2 w3 := ((Kept.refl _ _).alloc _).trans hk
  have hzw3 := hk.size
  rw [World.size_alloc] at hzw3
  have HWw3 := (show Hid (OwnR kFrame 0 36 5 w3 (.slice aW nW cW) qsW) from HWw2.out.same hkk)
  have HZw3 := (show Hid (Blk w3 (w1.heap.size) 25 [(.slice aW nW cW), .int .i64 hdW]) from HZw2.out.same hkk)
  have HGw3 := (show Hid (OwnR kFrame 0 36 5 w3 (.slice aG nG cG) qsG) from HGw2.out.same hkk)
  have HYw3 := (show Hid (Blk w3 (w2.heap.size) 25 [(.slice aG nG cG), .int .i64 hdW]) from (Blk.new w2 #[(.slice aG nG cG), .int .i64 hdW] 25).same hk)
  have HKw3 := (show Hid (Same w w3) from HKw2.out.trans hkk)
  clear hkk hk
  clear cZ_0 cZ_1 lZ
  have hE0 : (0 : Int) ≤ 1 := by omega
  have hE0b : (1 : Int) ≤ 1 := by omega
  obtain ⟨hgl, _, hg0, hg1⟩ := HSM.out.of qsG HQG.out
  obtain ⟨M, hM⟩ : ∃ M, endR mFrame 1 qsG = M := ⟨_, rfl⟩
  rw [hM] at hg0 hg1
  have HM : Hid (endR mFrame 1 qsG = M) := hM
  clear hM
  have hM2 : ¬ M < 0 := by omega
  have cZ_0 : w3.cell? ⟨w1.heap.size, 0, none⟩ = some ((.slice aW nW cW)) := HZw3.out.cell 0
  have cZ_1 : w3.cell? ⟨w1.heap.size, 1, none⟩ = some (.int .i64 hdW) := HZw3.out.cell 1
  have lZ := HZw3.out.lt
  have cY_0 : w3.cell? ⟨w2.heap.size, 0, none⟩ = some ((.slice aG nG cG)) := HYw3.out.cell 0
  have cY_1 : w3.cell? ⟨w2.heap.size, 1, none⟩ = some (.int .i64 hdW) := HYw3.out.cell 1
  have lY := HYw3.out.lt
  go_wp2_with fail
  have hm := markPool_own hdW (.slice aG nG cG) qsG 1 w3 (by omega) (by rw [HM.out]; exact hg1) (by omega) HGw3.out
  rw [HM.out] at hm
  refine hm.mono ?_
  clear hm
  rintro e w4 ⟨rfl, ho, hk⟩
  have hzw4 := hk.size
  have HWw4 := (show Hid (OwnR kFrame 0 36 5 w4 (.slice aW nW cW) qsW) from HWw3.out.kept hk (fun b hb e => by have h1 := HFG.out _ e; have h2 := HFW.out b hb; omega))
  have HZw4 := (show Hid (Blk w4 (w1.heap.size) 25 [(.slice aW nW cW), .int .i64 hdW]) from HZw3.out.kept hk (fun e => by have h1 := HFG.out _ e; omega))
  have HYw4 := (show Hid (Blk w4 (w2.heap.size) 25 [(.slice aG nG cG), .int .i64 hdW]) from HYw3.out.kept hk (fun e => by have h1 := HFG.out _ e; omega))
  have HKw4 := (show Hid (Same w w4) from HKw3.out.next hk (fun b hb e => by have h1 := HFG.out _ e; omega))
  have HUw4 := (show Hid (OwnR kFrame 0 36 5 w4 (.slice aG nG cG) (markR mFrame 1 qsG)) from ho)
  clear cZ_0 cZ_1 lZ cY_0 cY_1 lY
  clear hk ho
  have cZ_0 : w4.cell? ⟨w1.heap.size, 0, none⟩ = some ((.slice aW nW cW)) := HZw4.out.cell 0
  have cZ_1 : w4.cell? ⟨w1.heap.size, 1, none⟩ = some (.int .i64 hdW) := HZw4.out.cell 1
  have lZ := HZw4.out.lt
  have cY_0 : w4.cell? ⟨w2.heap.size, 0, none⟩ = some ((.slice aG nG cG)) := HYw4.out.cell 0
  have cY_1 : w4.cell? ⟨w2.heap.size, 1, none⟩ = some (.int .i64 hdW) := HYw4.out.cell 1
  have lY := HYw4.out.lt
  go_wp2_with fail
  have hm := heldPool_own hdW (.slice aG nG cG) qsG 1 w4 (by omega) (by rw [HM.out]; exact hg1) (by omega) HUw4.out
  rw [HM.out] at hm
  refine hm.mono ?_
  clear hm
  rintro e w5 ⟨rfl, hk⟩
  have hkk : Same w4 w5 := hk
  have hzw5 := hkk.size
  have HWw5 := (show Hid (OwnR kFrame 0 36 5 w5 (.slice aW nW cW) qsW) from HWw4.out.same hkk)
  have HZw5 := (show Hid (Blk w5 (w1.heap.size) 25 [(.slice aW nW cW), .int .i64 hdW]) from HZw4.out.same hkk)
  have HYw5 := (show Hid (Blk w5 (w2.heap.size) 25 [(.slice aG nG cG), .int .i64 hdW]) from HYw4.out.same hkk)
  have HUw5 := (show Hid (OwnR kFrame 0 36 5 w5 (.slice aG nG cG) (markR mFrame 1 qsG)) from HUw4.out.same hkk)
  have HKw5 := (show Hid (Same w w5) from HKw4.out.trans hkk)
  clear hkk hk
  clear cZ_0 cZ_1 lZ cY_0 cY_1 lY
  have cZ_0 : w5.cell? ⟨w1.heap.size, 0, none⟩ = some ((.slice aW nW cW)) := HZw5.out.cell 0
  have cZ_1 : w5.cell? ⟨w1.heap.size, 1, none⟩ = some (.int .i64 hdW) := HZw5.out.cell 1
  have lZ := HZw5.out.lt
  have cY_0 : w5.cell? ⟨w2.heap.size, 0, none⟩ = some ((.slice aG nG cG)) := HYw5.out.cell 0
  have cY_1 : w5.cell? ⟨w2.heap.size, 1, none⟩ = some (.int .i64 hdW) := HYw5.out.cell 1
  have lY := HYw5.out.lt
  go_wp2_with fail
  refine (implPoolNew_any s0 _).mono ?_
  rintro e w6 ⟨aL, nL, cL, hdL, qsL, rfl, hR, hf, ho, hk⟩
  have hR2 := hR.trans HR.out.symm
  simp only [Prod.mk.injEq] at hR2
  obtain ⟨hR5, hR6⟩ := hR2
  have hR5 := hR5.symm
  subst hR5
  have HQL : Hid (datFrameS qsL = datFrameS qsW) := hR6
  clear hR6
  have HFL := (show Hid (∀ b, footR kFrame (.slice aL nL cL) qsL b → w5.heap.size ≤ b ∧ b < w6.heap.size) from fun b hb => ⟨hf b hb, (ho.lt b hb).2⟩)
  have HLw6 := (show Hid (OwnR kFrame 0 36 5 w6 (.slice aL nL cL) qsL) from ho)
  clear hf ho hR
  have hkk : Same w5 w6 := hk
  have hzw6 := hkk.size
  have HWw6 := (show Hid (OwnR kFrame 0 36 5 w6 (.slice aW nW cW) qsW) from HWw5.out.same hkk)
  have HZw6 := (show Hid (Blk w6 (w1.heap.size) 25 [(.slice aW nW cW), .int .i64 hdW]) from HZw5.out.same hkk)
  have HYw6 := (show Hid (Blk w6 (w2.heap.size) 25 [(.slice aG nG cG), .int .i64 hdW]) from HYw5.out.same hkk)
  have HUw6 := (show Hid (OwnR kFrame 0 36 5 w6 (.slice aG nG cG) (markR mFrame 1 qsG)) from HUw5.out.same hkk)
  have HKw6 := (show Hid (Same w w6) from HKw5.out.trans hkk)
  clear hkk hk
  clear cZ_0 cZ_1 lZ cY_0 cY_1 lY
  have cZ_0 : w6.cell? ⟨w1.heap.size, 0, none⟩ = some ((.slice aW nW cW)) := HZw6.out.cell 0
  have cZ_1 : w6.cell? ⟨w1.heap.size, 1, none⟩ = some (.int .i64 hdW) := HZw6.out.cell 1
  have lZ := HZw6.out.lt
  have cY_0 : w6.cell? ⟨w2.heap.size, 0, none⟩ = some ((.slice aG nG cG)) := HYw6.out.cell 0
  have cY_1 : w6.cell? ⟨w2.heap.size, 1, none⟩ = some (.int .i64 hdW) := HYw6.out.cell 1
  have lY := HYw6.out.lt
  go_wp2_with fail
  refine (eqPool_own 0 hdW _ _ qsL qsW _ (Nat.le_trans (HSM.out.of qsL HQL.out).1 (by omega)) HQL.out (fun p hp => Nat.le_trans ((HSM.out.of qsL HQL.out).2.1 p hp) (by omega)) (HLw6.out.same ((Kept.refl _ _).alloc _)) (HWw6.out.same ((Kept.refl _ _).alloc _))).mono ?_
  rintro e w7 ⟨rfl, hk⟩
  have hkk : Same w6 w7 := ((Kept.refl _ _).alloc _).trans hk
  have hzw7 := hk.size
  rw [World.size_alloc] at hzw7
  have HWw7 := (show Hid (OwnR kFrame 0 36 5 w7 (.slice aW nW cW) qsW) from HWw6.out.same hkk)
  have HZw7 := (show Hid (Blk w7 (w1.heap.size) 25 [(.slice aW nW cW), .int .i64 hdW]) from HZw6.out.same hkk)
  have HYw7 := (show Hid (Blk w7 (w2.heap.size) 25 [(.slice aG nG cG), .int .i64 hdW]) from HYw6.out.same hkk)
  have HUw7 := (show Hid (OwnR kFrame 0 36 5 w7 (.slice aG nG cG) (markR mFrame 1 qsG)) from HUw6.out.same hkk)
  have HLw7 := (show Hid (OwnR kFrame 0 36 5 w7 (.slice aL nL cL) qsL) from HLw6.out.same hkk)
  have HVw7 := (show Hid (Blk w7 (w6.heap.size) 25 [(.slice aL nL cL), .int .i64 hdW]) from (Blk.new w6 #[(.slice aL nL cL), .int .i64 hdW] 25).same hk)
  have HKw7 := (show Hid (Same w w7) from HKw6.out.trans hkk)
  clear hkk hk
  clear cZ_0 cZ_1 lZ cY_0 cY_1 lY
  have cY_0 : w7.cell? ⟨w2.heap.size, 0, none⟩ = some ((.slice aG nG cG)) := HYw7.out.cell 0
  have cY_1 : w7.cell? ⟨w2.heap.size, 1, none⟩ = some (.int .i64 hdW) := HYw7.out.cell 1
  have lY := HYw7.out.lt
  go_wp2_with fail
  have hm := heldPool_own hdW (.slice aG nG cG) qsG 1 w7 (by omega) (by rw [HM.out]; exact hg1) (by omega) HUw7.out
  rw [HM.out] at hm
  refine hm.mono ?_
  clear hm
  rintro e w8 ⟨rfl, hk⟩
  have hkk : Same w7 w8 := hk
  have hzw8 := hkk.size
  have HYw8 := (show Hid (Blk w8 (w2.heap.size) 25 [(.slice aG nG cG), .int .i64 hdW]) from HYw7.out.same hkk)
  have HUw8 := (show Hid (OwnR kFrame 0 36 5 w8 (.slice aG nG cG) (markR mFrame 1 qsG)) from HUw7.out.same hkk)
  have HKw8 := (show Hid (Same w w8) from HKw7.out.trans hkk)
  clear hkk hk
  clear cY_0 cY_1 lY
  go_wp2
  go_ret
  exact ⟨rfl, HKw8.out⟩
end Go.Proofs.Ytommabejmpafcaa
