import Derived.Test.YtmnhflanhchdeaaG02
import Derived.Test.YtmnhflanhchdeaaG00
import Derived.Deep.DeepCutAuto
import Derived.Deep.RegionWith
import Derived.Deep.DeepMust
namespace Go.Proofs.Ytmnhflanhchdeaa
set_option maxRecDepth 100000
set_option maxHeartbeats 16000000
open Go.RowKit
set_option linter.unusedVariables false
theorem logFault_law (x0 : StLog) (w : World) (hv0 : StLog.rd w x0) (hB0 : x0.isB) :
    Calls Try.prog 4 #[x0.val] w fun e w' => e = .returned (.bool true) ∧ Same w w' := by
  obtain ⟨p0sectors, p0epoch, p0stop, p0flushed, ⟨p0tail_e, p0tail_a, p0tail_c, p0tail_b⟩⟩ := x0
  have HV0 := (show Hid (StLog.rd w ⟨p0sectors, p0epoch, p0stop, p0flushed, ⟨p0tail_e, p0tail_a, p0tail_c, p0tail_b⟩⟩) from hv0)
  clear hv0
  have HB0 := (show Hid (StLog.isB ⟨p0sectors, p0epoch, p0stop, p0flushed, ⟨p0tail_e, p0tail_a, p0tail_c, p0tail_b⟩⟩) from hB0)
  clear hB0
  dsimp only [StLog.val, BS.v]
  go_enter Try.func4, Try.ntmps4
  have HKw : Hid (Same w w) := Kept.refl _ _
  go_wp2_with fail
  refine (szLog_any ⟨p0sectors, p0epoch, p0stop, p0flushed, ⟨p0tail_e, p0tail_a, p0tail_c, p0tail_b⟩⟩ _ _ (by omega) (by omega) (HV0.out.same ((Kept.refl _ _).alloc _))).mono ?_
  rintro e w1 ⟨sz0, rfl, hr, hk⟩
  have hkk : Same w w1 := ((Kept.refl _ _).alloc _).trans hk
  have hzw1 := hk.size
  rw [World.size_alloc] at hzw1
  have HA0w1 := (show Hid (Blk w1 (w.heap.size) 26 [.int .i64 p0sectors, .int .i64 p0epoch, .int .i64 p0stop, .int .i64 p0flushed, .slice p0tail_a p0tail_b.length p0tail_c]) from (Blk.new w #[.int .i64 p0sectors, .int .i64 p0epoch, .int .i64 p0stop, .int .i64 p0flushed, .slice p0tail_a p0tail_b.length p0tail_c] 26).same hk)
  have HKw1 := (show Hid (Same w w1) from HKw.out.trans hkk)
  clear hkk hk
  rcases hr with rfl | ⟨hr, hr0⟩
  · go_wp2
    go_ret
    exact ⟨rfl, HKw1.out⟩
  have hsz0 : StLog.szs ⟨p0sectors, p0epoch, p0stop, p0flushed, ⟨p0tail_e, p0tail_a, p0tail_c, p0tail_b⟩⟩ ≤ 1048576 := by omega
  clear hr
  have cA0_0 := HA0w1.out.c0
  have cA0_1 := HA0w1.out.c1
  have cA0_2 := HA0w1.out.c2
  have cA0_3 := HA0w1.out.c3
  have cA0_4 := HA0w1.out.c4
  have lA0 := HA0w1.out.lt
  go_wp2_with fail
  refine (toLog_any ⟨p0sectors, p0epoch, p0stop, p0flushed, ⟨p0tail_e, p0tail_a, p0tail_c, p0tail_b⟩⟩ _ (by omega) (HV0.out.same HKw1.out)).mono ?_
  rintro e w2 ⟨⟨C0sectors, C0epoch, C0stop, C0flushed, ⟨C0tail_e, C0tail_a, C0tail_c, C0tail_b⟩⟩, rfl, hd, hz, hf, ho, hk⟩
  have HCC0 := (show Hid (StLog.dat ⟨C0sectors, C0epoch, C0stop, C0flushed, ⟨C0tail_e, C0tail_a, C0tail_c, C0tail_b⟩⟩ = StLog.dat ⟨p0sectors, p0epoch, p0stop, p0flushed, ⟨p0tail_e, p0tail_a, p0tail_c, p0tail_b⟩⟩) from hd)
  have HZC0 := (show Hid (StLog.szs ⟨C0sectors, C0epoch, C0stop, C0flushed, ⟨C0tail_e, C0tail_a, C0tail_c, C0tail_b⟩⟩ = StLog.szs ⟨p0sectors, p0epoch, p0stop, p0flushed, ⟨p0tail_e, p0tail_a, p0tail_c, p0tail_b⟩⟩) from hz)
  clear hd hz
  dsimp only [StLog.val, BS.v]
  have HFC0 := (show Hid (∀ b, FootL (StLog.rows ⟨C0sectors, C0epoch, C0stop, C0flushed, ⟨C0tail_e, C0tail_a, C0tail_c, C0tail_b⟩⟩) b → w1.heap.size ≤ b ∧ b < w2.heap.size) from fun b hb => ⟨hf b hb, ho.lt b hb⟩)
  have HC0w2 := (show Hid (OwnL w2 (StLog.rows ⟨C0sectors, C0epoch, C0stop, C0flushed, ⟨C0tail_e, C0tail_a, C0tail_c, C0tail_b⟩⟩)) from ho)
  clear hf ho
  have hkk : Same w1 w2 := hk
  have hzw2 := hkk.size
  have HA0w2 := hid (HA0w1.out.same hkk)
  have HKw2 := (show Hid (Same w w2) from HKw1.out.trans hkk)
  clear hkk hk
  clear cA0_0 cA0_1 cA0_2 cA0_3 cA0_4 lA0
  have cA0_0 := HA0w2.out.c0
  have cA0_1 := HA0w2.out.c1
  have cA0_2 := HA0w2.out.c2
  have cA0_3 := HA0w2.out.c3
  have cA0_4 := HA0w2.out.c4
  have lA0 := HA0w2.out.lt
  go_wp2_with fail
  refine (specLogFault_any ⟨C0sectors, C0epoch, C0stop, C0flushed, ⟨C0tail_e, C0tail_a, C0tail_c, C0tail_b⟩⟩ _ (StLog.isB_dat HCC0.out HB0.out) (by have := HZC0.out; omega) (StLog.own_rd HC0w2.out)).mono ?_
  rintro e w3 ⟨rfl, hk⟩
  rw [HCC0.out]
  obtain ⟨r0, hR⟩ : ∃ r, logFd (StLog.dat ⟨p0sectors, p0epoch, p0stop, p0flushed, ⟨p0tail_e, p0tail_a, p0tail_c, p0tail_b⟩⟩) = r := ⟨_, rfl⟩
  have HR : Hid (logFd (StLog.dat ⟨p0sectors, p0epoch, p0stop, p0flushed, ⟨p0tail_e, p0tail_a, p0tail_c, p0tail_b⟩⟩) = r0) := hR
  clear hR
  rw [HR.out]
  have hkk : Same w2 w3 := hk
  have hzw3 := hkk.size
  have HA0w3 := hid (HA0w2.out.same hkk)
  have HC0w3 := hid (HC0w2.out.same hkk)
  have HKw3 := (show Hid (Same w w3) from HKw2.out.trans hkk)
  clear hkk hk
  clear cA0_0 cA0_1 cA0_2 cA0_3 cA0_4 lA0
  have cA0_0 := HA0w3.out.c0
  have cA0_1 := HA0w3.out.c1
  have cA0_2 := HA0w3.out.c2
  have cA0_3 := HA0w3.out.c3
  have cA0_4 := HA0w3.out.c4
  have lA0 := HA0w3.out.lt
  go_wp2_with fail
  refine (toLog_any ⟨p0sectors, p0epoch, p0stop, p0flushed, ⟨p0tail_e, p0tail_a, p0tail_c, p0tail_b⟩⟩ _ (by omega) (HV0.out.same HKw3.out)).mono ?_
  rintro e w4 ⟨⟨X0sectors, X0epoch, X0stop, X0flushed, ⟨X0tail_e, X0tail_a, X0tail_c, X0tail_b⟩⟩, rfl, hd, hz, hf, ho, hk⟩
  have HCX0 := (show Hid (StLog.dat ⟨X0sectors, X0epoch, X0stop, X0flushed, ⟨X0tail_e, X0tail_a, X0tail_c, X0tail_b⟩⟩ = StLog.dat ⟨p0sectors, p0epoch, p0stop, p0flushed, ⟨p0tail_e, p0tail_a, p0tail_c, p0tail_b⟩⟩) from hd)
  have HZX0 := (show Hid (StLog.szs ⟨X0sectors, X0epoch, X0stop, X0flushed, ⟨X0tail_e, X0tail_a, X0tail_c, X0tail_b⟩⟩ = StLog.szs ⟨p0sectors, p0epoch, p0stop, p0flushed, ⟨p0tail_e, p0tail_a, p0tail_c, p0tail_b⟩⟩) from hz)
  clear hd hz
  dsimp only [StLog.val, BS.v]
  have HFX0 := (show Hid (∀ b, FootL (StLog.rows ⟨X0sectors, X0epoch, X0stop, X0flushed, ⟨X0tail_e, X0tail_a, X0tail_c, X0tail_b⟩⟩) b → w3.heap.size ≤ b ∧ b < w4.heap.size) from fun b hb => ⟨hf b hb, ho.lt b hb⟩)
  have HX0w4 := (show Hid (OwnL w4 (StLog.rows ⟨X0sectors, X0epoch, X0stop, X0flushed, ⟨X0tail_e, X0tail_a, X0tail_c, X0tail_b⟩⟩)) from ho)
  clear hf ho
  have hkk : Same w3 w4 := hk
  have hzw4 := hkk.size
  have HA0w4 := hid (HA0w3.out.same hkk)
  have HKw4 := (show Hid (Same w w4) from HKw3.out.trans hkk)
  clear hkk hk
  clear cA0_0 cA0_1 cA0_2 cA0_3 cA0_4 lA0
  have cA0_0 := HA0w4.out.c0
  have cA0_1 := HA0w4.out.c1
  have cA0_2 := HA0w4.out.c2
  have cA0_3 := HA0w4.out.c3
  have cA0_4 := HA0w4.out.c4
  have lA0 := HA0w4.out.lt
  go_wp2_with fail
  refine (implLogFault_any ⟨X0sectors, X0epoch, X0stop, X0flushed, ⟨X0tail_e, X0tail_a, X0tail_c, X0tail_b⟩⟩ _ (StLog.isB_dat HCX0.out HB0.out) (by have := HZX0.out; omega) (StLog.own_rd (HX0w4.out.same ((Kept.refl _ _).alloc _)))).mono ?_
  rintro e w5 ⟨rfl, hk⟩
  rw [HCX0.out]
  rw [HR.out]
  have hkk : Same w4 w5 := ((Kept.refl _ _).alloc _).trans hk
  have hzw5 := hk.size
  rw [World.size_alloc] at hzw5
  have HA0w5 := hid (HA0w4.out.same hkk)
  have HX0w5 := hid (HX0w4.out.same hkk)
  have HT0w5 := (show Hid (Blk w5 (w4.heap.size) 29 [.int .i64 X0sectors, .int .i64 X0epoch, .int .i64 X0stop, .int .i64 X0flushed, .slice X0tail_a X0tail_b.length X0tail_c]) from (Blk.new w4 #[.int .i64 X0sectors, .int .i64 X0epoch, .int .i64 X0stop, .int .i64 X0flushed, .slice X0tail_a X0tail_b.length X0tail_c] 29).same hk)
  have HKw5 := (show Hid (Same w w5) from HKw4.out.trans hkk)
  clear hkk hk
  clear cA0_0 cA0_1 cA0_2 cA0_3 cA0_4 lA0
  have cA0_0 := HA0w5.out.c0
  have cA0_1 := HA0w5.out.c1
  have cA0_2 := HA0w5.out.c2
  have cA0_3 := HA0w5.out.c3
  have cA0_4 := HA0w5.out.c4
  have lA0 := HA0w5.out.lt
  have cT0_0 := HT0w5.out.c0
  have cT0_1 := HT0w5.out.c1
  have cT0_2 := HT0w5.out.c2
  have cT0_3 := HT0w5.out.c3
  have cT0_4 := HT0w5.out.c4
  have lT0 := HT0w5.out.lt
  go_wp2_with fail
  go_cut [26] (fun v wc => v = .bool false ∧ Hid (Same w5 wc))
  case first =>
    have HD1 : Hid (Same w w5.drew) := HKw5.out.drew
    have HD2 : Hid (Same w5 w5.drew) := (Kept.refl _ _).drew
    go_region_with (first | (go_at_call 11; refine (toLog_any ⟨p0sectors, p0epoch, p0stop, p0flushed, ⟨p0tail_e, p0tail_a, p0tail_c, p0tail_b⟩⟩ _ (by omega) (by exact HV0.out.same HD1.out)).mono ?_; rintro e wx7 ⟨⟨zsectors, zepoch, zstop, zflushed, ⟨ztail_e, ztail_a, ztail_c, ztail_b⟩⟩, rfl, hd7, _, hf7, ho7, hk7⟩; have HO7 := (show Hid (OwnL wx7 (StLog.rows ⟨zsectors, zepoch, zstop, zflushed, ⟨ztail_e, ztail_a, ztail_c, ztail_b⟩⟩)) from ho7); have HQ7 := (show Hid (StLog.dat ⟨zsectors, zepoch, zstop, zflushed, ⟨ztail_e, ztail_a, ztail_c, ztail_b⟩⟩ = StLog.dat ⟨p0sectors, p0epoch, p0stop, p0flushed, ⟨p0tail_e, p0tail_a, p0tail_c, p0tail_b⟩⟩) from hd7); have HK7 : Hid (Same w5 wx7) := HD2.out.trans hk7; clear ho7 hd7 hf7 hk7; dsimp only [StLog.val, BS.v]; have y0 : wx7.cell? ⟨w4.heap.size, 0, none⟩ = some (.int .i64 X0sectors) := (HT0w5.out.same HK7.out).cell 0; have y1 : wx7.cell? ⟨w4.heap.size, 1, none⟩ = some (.int .i64 X0epoch) := (HT0w5.out.same HK7.out).cell 1; have y2 : wx7.cell? ⟨w4.heap.size, 2, none⟩ = some (.int .i64 X0stop) := (HT0w5.out.same HK7.out).cell 2; have y3 : wx7.cell? ⟨w4.heap.size, 3, none⟩ = some (.int .i64 X0flushed) := (HT0w5.out.same HK7.out).cell 3; have y4 : wx7.cell? ⟨w4.heap.size, 4, none⟩ = some (.slice X0tail_a X0tail_b.length X0tail_c) := (HT0w5.out.same HK7.out).cell 4) | (go_at_call 13; refine (eqLog_own ⟨X0sectors, X0epoch, X0stop, X0flushed, ⟨X0tail_e, X0tail_a, X0tail_c, X0tail_b⟩⟩ ⟨zsectors, zepoch, zstop, zflushed, ⟨ztail_e, ztail_a, ztail_c, ztail_b⟩⟩ _ (by have h1 := StLog.size_rd (StLog.own_rd HX0w5.out); have h2 := HZX0.out; omega) (HCX0.out.trans HQ7.out.symm) (HX0w5.out.same HK7.out) HO7.out).mono ?_; rintro e wx8 ⟨rfl, hk8⟩))
    all_goals
      have HK8 : Hid (Same w5 wx8) := HK7.out.trans hk8
      clear hk8
      go_wp2_with fail
      go_meet
      case rel => exact ⟨rfl, HK8⟩
  case rest =>
  obtain ⟨rfl, HKC⟩ := hcut
  obtain ⟨w6, hwc⟩ : ∃ x, x = wc := ⟨_, rfl⟩
  subst hwc
  clear cA0_0 cA0_1 cA0_2 cA0_3 cA0_4 lA0 cT0_0 cT0_1 cT0_2 cT0_3 cT0_4 lT0
  have hkk : Same w5 w6 := HKC.out
  have hzw6 := hkk.size
  have HA0w6 := hid (HA0w5.out.same hkk)
  have HX0w6 := hid (HX0w5.out.same hkk)
  have HT0w6 := hid (HT0w5.out.same hkk)
  have HKw6 := (show Hid (Same w w6) from HKw5.out.trans hkk)
  clear hkk
  go_wp2
  go_ret
  exact ⟨rfl, HKw6.out⟩
end Go.Proofs.Ytmnhflanhchdeaa

namespace Go.Proofs.Ytmnhflanhchdeaa.fnExactLogFault
open Go.ChangeShapes Go.WideShapes Go.ChangeAt Go.RowKit
set_option linter.unusedVariables false
theorem own : ownKnob Try.prog.godebug = none := by kernel_rfl
theorem laidOut : laidOutB Try.prog = true := by kernel_rfl
set_option maxRecDepth 100000 in
theorem lifted (os : Os) (started : os.Started) (H : Type) (enc : TypeId × Value → H) :
    ReturnsInHanded {} Try.checked os 4 .any (Rows.fnExactLogFaultSpec.pre6 enc Try.prog Try.f4 Rows.fnExactLogFaultRow.domain false) (Rows.fnExactLogFaultSpec.post enc Try.prog Try.f4 false true false false) := by
  refine returnsInHanded_of_change (C := Try.checked) own started (by kernel_rfl) Try.func4
    (ChangeSpec.witness6 (enc := enc) (C := Try.checked) false ⟨#[], #[.agg #[.int .i64 0, .int .i64 0, .int .i64 0, .int .i64 0, .slice none 0 0]], []⟩ 8 (by kernel_rfl) (by kernel_rfl) (by kernel_rfl) (by kernel_rfl)) ?_
  intro W base args ds gs before hval0 hW hcnd _
  have hval : ∀ (j : Nat) t v, Try.f4.params[j]? = some t → args[j]? = some v → Value.okWide Try.prog W .any base t v := hval0
  have hW' := hW
  obtain ⟨p, q, hA0, hV, rfl, hfz, hnd⟩ := hW
  have hA : DataW.TrodAll enc Try.prog W 0 (fun _ => true) true Try.f4.params.toList args.toList ds p := hA0
  rw [Try.params4] at hA hval
  obtain ⟨v0, vs0, d0, ds0, p0, q0, hargs, rfl, rfl, h0, r0⟩ := trodAll_cons hA
  obtain ⟨rfl, rfl, rfl⟩ := trodAll_nil r0
  obtain rfl : args = #[v0] := by cases args; simp_all
  obtain ⟨rfl, rfl⟩ := trodVars_none hV
  have k0 := h0
  have lt0 : ∀ x ∈ p0, x.block < W.heap.size := by obtain ⟨m, hm⟩ := k0; exact DataW.trod_lt m _ _ _ hm
  obtain ⟨x0, rfl, rd0, bd0⟩ := open_log (hval 0 26 v0 rfl rfl) h0
  clear hA0 hval0
  refine (logFault_law x0 W rd0 bd0).mono fun e W' ⟨he, hk⟩ => ?_
  have bel : Below W.heap.size W W' := hk.below (Nat.le_refl _) (fun _ _ => id)
  subst he
  exact ⟨_, rfl, _, _, _, [], _, [], hW', trodAll_mk1 (shut_bool Try.underlying4 _), (trodAll_cons_mk (Below.trod laidOut (by kernel_rfl) (of_decide_eq_true (by kernel_rfl)) k0 bel lt0) trodAll_mk0), rfl, bel.frame _, fun h => by cases h⟩
theorem over : Rows.fnExactLogFaultRow.holds Try.pinned (OpenSpec.ofChange Rows.fnExactLogFaultSpec) :=
  OpenClaim.holds_of_wide 4 Try.f4 rfl rfl rfl rfl rfl rfl rfl ⟨rfl, rfl, rfl, rfl, rfl⟩ rfl rfl rfl rfl rfl (by kernel_rfl) Try.func4 (by kernel_rfl)
    (of_decide_eq_true (by kernel_rfl)) (by unfold Func.isWrapper; first | (rw [if_pos (by decide +kernel)]; kernel_rfl) | (rw [if_neg (by decide +kernel)]; exact ⟨rfl, rfl⟩))
    (fun os started H enc _ => lifted os started H enc)
end Go.Proofs.Ytmnhflanhchdeaa.fnExactLogFault
namespace Go.Proofs.Ytmnhflanhchdeaa
theorem logFault_proved : Rows.FnExactLogFaultSaid := fnExactLogFault.over
#print axioms logFault_proved
end Go.Proofs.Ytmnhflanhchdeaa
