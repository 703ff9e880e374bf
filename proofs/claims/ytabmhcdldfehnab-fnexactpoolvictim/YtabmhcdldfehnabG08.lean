import Derived.Test.YtabmhcdldfehnabG07
import Derived.Deep.DeepCutAuto
import Derived.Deep.RegionWith
import Derived.Deep.DeepMust
namespace Go.Proofs.Ytabmhcdldfehnab
set_option maxRecDepth 100000
set_option maxHeartbeats 8000000
open Go.RowKit
set_option linter.unusedVariables false
set_option linter.unusedSimpArgs false
theorem victim1_any (P hn g n cap : Nat) (bl : List Nat) (ps : List EFrame) (w : World) (h : FP w P (hn : Int) g n cap bl ps) (hh : hn < n) (h16 : n ≤ 16) :
    Calls Try.prog 27 #[.pointer (some ⟨P, 0, none⟩)] w fun e w' => ∃ (r cd hd : Int) (qs : List EFrame), e = .returned (.tuple #[.int .i64 r, .int .i64 cd]) ∧ FP w' P hd g n cap bl qs ∧ (∀ b, footS kFrame bl qs b → footS kFrame bl ps b) ∧ Kept (footFP P g bl ps) w w' ∧
      ((findFrom (-1) 0 ps ≠ -1 ∧ cd = 0 ∧ r = findFrom (-1) 0 ps ∧ hd = hn ∧ datFrameS qs = datFrameS ps) ∨ (findFrom (-1) 0 ps = -1 ∧ ((clk (n + n) (datFrameS ps) hn = none ∧ cd = 2) ∨ ∃ R, clk (n + n) (datFrameS ps) hn = some R ∧ cd = 0 ∧ r = (R.1 : Int) ∧ hd = (R.2.1 : Int) ∧ datFrameS qs = R.2.2))) := by
  have k0 := victim_any P hn g n cap bl ps w h hh h16
  clear h
  go_enter Try.func27, Try.ntmps27
  go_wp2_with fail
  refine k0.mono ?_
  rintro e w1 ⟨r, cd, hd, qs, rfl, hx⟩
  have H1 := hid hx
  clear hx k0
  go_wp2
  go_ret2
  exact ⟨r, cd, hd, qs, rfl, H1.out⟩
theorem enters_victim1 : Enters 27 := fun args wx => by simp [callFunc, go_sem, Try.func27, Try.f27]
def vicT (ps : List EFrame) (hand : Int) : Int × Int × Int × List (Int × List Int × Int × Bool × Int × Bool) :=
  if findFrom (-1) 0 ps ≠ -1 then (0, findFrom (-1) 0 ps, hand, datFrameS ps) else vicR (clk (ps.length + ps.length) (datFrameS ps) hand.toNat)
theorem victimP_turn (ps : List EFrame) (hand : Int) : victimP ps hand = turnHP (vicT ps hand) ps hand := by
  unfold victimP turnHP vicT
  by_cases h0 : poolF ps hand ≠ 0
  · rw [if_pos h0, if_pos h0]
  rw [if_neg h0, if_neg h0]
  by_cases h1 : findFrom (-1) 0 ps ≠ -1
  · simp only [if_pos h1]
    rw [if_neg (by simp)]
  simp only [if_neg h1]
  cases clk (ps.length + ps.length) (datFrameS ps) hand.toNat with
  | none => rfl
  | some R => rfl
theorem implPoolVictim_any (v : Value) (hand : Int) (ps : List EFrame) (w : World) (hv : RdR kFrame w v ps) :
    Calls Try.prog 15 #[.agg #[v, .int .i64 hand]] w fun e w' => ∃ cd fr a n c hd qs, e = .returned (.agg #[.int .i64 cd, .int .i64 fr, .slice a n c, .int .i64 hd]) ∧ (cd, fr, hd, datFrameS qs) = victimP ps hand ∧ (∀ b, footR kFrame (.slice a n c) qs b → w.heap.size ≤ b) ∧ OwnR kFrame 0 46 5 w' (.slice a n c) qs ∧ Same w w' := by
  obtain ⟨a, c, rfl⟩ := hv.form
  obtain ⟨wa, hwa⟩ : ∃ x, x = w.alloc (.cells #[.slice a ps.length c, .int .i64 hand] 28) := ⟨_, rfl⟩
  have hka : Same w wa := by rw [hwa]; exact (Kept.refl _ _).alloc _
  have hza : wa.heap.size = w.heap.size + 1 := by rw [hwa]; simp
  have b0 : Blk wa w.heap.size 28 [.slice a ps.length c, .int .i64 hand] := by rw [hwa]; exact Blk.newL w _ _
  have k0 := turnedH_any 27 #[] (.slice a ps.length c) hand ps (vicT ps hand) (wa.alloc (.cells #[.int .i64 0, .int .i64 0, .slice none 0 0, .int .i64 0] 30)) (hv.same (hka.alloc _)) enters_victim1 (fun wx P g n cap bl qs hf hn hd hq hk hb => by
    obtain ⟨_, _, hh0, hh1⟩ := poolF_len hq
    obtain ⟨h, rfl⟩ : ∃ h : Nat, hand = (h : Int) := ⟨hand.toNat, by omega⟩
    have hlq : qs.length = ps.length := dat_len hd
    have hnl : n = ps.length := by rw [hf.len, hlq]
    refine (victim1_any P h g n cap bl qs wx hf (by omega) hn).mono ?_
    rintro e w' ⟨r, cd, hd', rs, rfl, hf', hs', hk', hr⟩
    refine ⟨r, cd, hd', bl, rs, rfl, hf', ?_, fun b hb => .inl (hs' b hb), hk'⟩
    have hvt : vicT ps (h : Int) = if findFrom (-1) 0 qs ≠ -1 then (0, findFrom (-1) 0 qs, (h : Int), datFrameS qs) else vicR (clk (n + n) (datFrameS qs) h) := by
      unfold vicT
      rw [findFrom_dat hd, hd, hnl, Int.toNat_natCast]
    rcases hr with ⟨h1, rfl, h2, h3, h4⟩ | ⟨h1, ⟨h2, rfl⟩ | ⟨R, h2, rfl, h3, h4, h5⟩⟩
    · exact .inr ⟨rfl, by rw [hvt, if_pos h1, h2, h3, h4]⟩
    · exact .inl ⟨by simp, by rw [hvt, if_neg (by rw [h1]; simp), h2]; rfl⟩
    · exact .inr ⟨rfl, by rw [hvt, if_neg (by rw [h1]; simp), h2, h3, h4, h5]; rfl⟩)
  have bR := Blk.newL wa [.int .i64 0, .int .i64 0, .slice none 0 0, .int .i64 0] 30
  obtain ⟨g0, g1⟩ := b0.all2
  have l0 := b0.lt
  have hmf : ∀ (fn : Fn) (first cap : Array Value) (w : World), (Instr.makeFunc fn first cap).run Try.prog w = .ok (.func fn first cap) w := fun _ _ _ _ => rfl
  rw [hza] at bR
  have HKA := hid hka
  have HZ := hid hza
  clear hv b0 hka
  go_enter Try.func15, Try.ntmps15
  go_wp2_with fail
  rw [← hwa]
  clear hwa
  refine k0.mono ?_
  rintro e w1 ⟨cd, fr, a1, n1, c1, hd, qs, rfl, hR, hf, ho, hk1⟩
  have HR := (show Hid ((cd, fr, hd, datFrameS qs) = turnHP (vicT ps hand) ps hand) from hR)
  have HK1 := (show Hid (Same w w1) from (HKA.out.alloc _).trans hk1)
  have HB1 := hid (bR.same hk1)
  have HF : Hid (∀ b, footR kFrame (.slice a1 n1 c1) qs b → w.heap.size + 1 < b) := fun b hb => by have h := hf b hb; simp only [World.size_alloc] at h; omega
  have HO := (show Hid (OwnR kFrame 0 46 5 w1 (.slice a1 n1 c1) qs) from ho)
  clear hk1 bR k0 hR hf ho g0 g1 hza
  obtain ⟨z0, z1, z2, z3⟩ := HB1.out.all4
  have fz := HB1.out.frozen
  have lz := HB1.out.lt
  go_wp2
  refine bodyPost_ret (v := .agg #[.int .i64 cd, .int .i64 fr, .slice a1 n1 c1, .int .i64 hd]) (by simp [results, Try.results15, go_sem, z0, z1, z2, z3]) rfl ⟨cd, fr, a1, n1, c1, hd, qs, rfl, by rw [victimP_turn]; exact HR.out, fun b hb => by have := HF.out b hb; omega, HO.out.kept (R := fun b => b = w.heap.size + 1) ?_ (fun b hb e => by have := HF.out b hb; omega), ?_⟩
  · (iterate 4 refine Kept.setCell (R := fun b => b = w.heap.size + 1) ?_ (.inr rfl) _)
    exact Kept.refl _ _
  · (iterate 4 refine Kept.setCell ?_ (.inl (by show w.heap.size ≤ w.heap.size + 1; omega)) _)
    exact HK1.out
end Go.Proofs.Ytabmhcdldfehnab

namespace Go.Proofs.Ytabmhcdldfehnab
set_option maxRecDepth 100000
set_option maxHeartbeats 16000000
open Go.RowKit
set_option linter.unusedVariables false
theorem poolVictim_law (pv0 : Value) (ps0 : List EFrame) (hand0 : Int) (w : World) (hv0 : RdR kFrame w pv0 ps0) :
    Calls Try.prog 4 #[.agg #[pv0, .int .i64 hand0]] w fun e w' => e = .returned (.bool true) ∧ Same w w' := by
  obtain ⟨a0a, c0a, rfl⟩ := hv0.form
  have HV0 := (show Hid (RdR kFrame w (.slice a0a ps0.length c0a) ps0) from hv0)
  clear hv0
  go_enter Try.func4, Try.ntmps4
  have HKw : Hid (Same w w) := Kept.refl _ _
  go_wp2_with fail
  refine (szPool_any hand0 _ ps0 _ _ (by omega) (by omega) (HV0.out.same ((Kept.refl _ _).alloc _))).mono ?_
  rintro e w1 ⟨sz0, rfl, hr, hk⟩
  have hkk : Same w w1 := ((Kept.refl _ _).alloc _).trans hk
  have hzw1 := hk.size
  rw [World.size_alloc] at hzw1
  have HA0w1 := (show Hid (Blk w1 (w.heap.size) 24 [(.slice a0a ps0.length c0a), .int .i64 hand0]) from (Blk.new w #[(.slice a0a ps0.length c0a), .int .i64 hand0] 24).same hk)
  have HKw1 := (show Hid (Same w w1) from HKw.out.trans hkk)
  clear hkk hk
  rcases hr with rfl | ⟨hr, hr0⟩
  · go_wp2
    go_ret
    exact ⟨rfl, HKw1.out⟩
  have hp0 : ps0.length ≤ 1048576 := by omega
  have hsz0 : sizeFrameS ps0 ≤ 1048576 := by omega
  have HS0 : Hid (∀ p ∈ ps0, p.bs.length ≤ 1048576) := fun p hp => by have := sizeFrameS_mem ps0 p hp; omega
  have HT0 : Hid (∀ qs : List EFrame, datFrameS qs = datFrameS ps0 → qs.length ≤ 1048576 ∧ ∀ p ∈ qs, p.bs.length ≤ 1048576) := fun qs hq => ⟨by rw [← datFrameS_length, hq, datFrameS_length]; omega, fun p hp => by have := sizeFrameS_mem qs p hp; rw [datFrameS_size hq] at this; omega⟩
  clear hr
  have cA0_0 := HA0w1.out.c0
  have cA0_1 := HA0w1.out.c1
  have lA0 := HA0w1.out.lt
  go_wp2_with fail
  refine (toPool_any hand0 _ ps0 _ (by omega) (fun p hp => Nat.le_trans (HS0.out p hp) (by omega)) (HV0.out.same HKw1.out)).mono ?_
  rintro e w2 ⟨gC0, qsC0, rfl, hq, hf, ho, hk⟩
  have HQC0 : Hid (datFrameS qsC0 = datFrameS ps0) := hq
  have HFC0 := (show Hid (∀ b, footR kFrame (.slice (some ⟨gC0, 0, none⟩) ps0.length ps0.length) qsC0 b → w1.heap.size ≤ b ∧ b < w2.heap.size) from fun b hb => ⟨hf b hb, (ho.lt b hb).2⟩)
  have HC0w2 := (show Hid (OwnR kFrame 0 46 5 w2 (.slice (some ⟨gC0, 0, none⟩) ps0.length ps0.length) qsC0) from ho)
  clear hf ho hq
  have hkk : Same w1 w2 := hk
  have hzw2 := hkk.size
  have HA0w2 := hid (HA0w1.out.same hkk)
  have HKw2 := (show Hid (Same w w2) from HKw1.out.trans hkk)
  clear hkk hk
  clear cA0_0 cA0_1 lA0
  have cA0_0 := HA0w2.out.c0
  have cA0_1 := HA0w2.out.c1
  have lA0 := HA0w2.out.lt
  go_wp2_with fail
  refine (specPoolVictim_any _ hand0 qsC0 _ (HC0w2.out.rd)).mono ?_
  rintro e w3 ⟨cdW, frW, aW, nW, cW, hdW, qsW, rfl, hR, hf, ho, hk⟩
  rw [victimP_dat HQC0.out] at hR
  have HR := (show Hid ((cdW, frW, hdW, datFrameS qsW) = victimP ps0 hand0) from hR)
  have HSM := (show Hid (SmallF (datFrameS qsW)) from victimP_small HR.out)
  have HFW := (show Hid (∀ b, footR kFrame (.slice aW nW cW) qsW b → w2.heap.size ≤ b ∧ b < w3.heap.size) from fun b hb => ⟨hf b hb, (ho.lt b hb).2⟩)
  have HWw3 := (show Hid (OwnR kFrame 0 46 5 w3 (.slice aW nW cW) qsW) from ho)
  clear hf ho hR
  have hkk : Same w2 w3 := hk
  have hzw3 := hkk.size
  have HA0w3 := hid (HA0w2.out.same hkk)
  have HC0w3 := hid (HC0w2.out.same hkk)
  have HKw3 := (show Hid (Same w w3) from HKw2.out.trans hkk)
  clear hkk hk
  clear cA0_0 cA0_1 lA0
  have cA0_0 := HA0w3.out.c0
  have cA0_1 := HA0w3.out.c1
  have lA0 := HA0w3.out.lt
  go_wp2_with fail
  refine (toPool_any hand0 _ ps0 _ (by omega) (fun p hp => Nat.le_trans (HS0.out p hp) (by omega)) (HV0.out.same (HKw3.out.alloc _))).mono ?_
  rintro e w4 ⟨gX0, qsX0, rfl, hq, hf, ho, hk⟩
  have HQX0 : Hid (datFrameS qsX0 = datFrameS ps0) := hq
  simp only [World.size_alloc] at hf
  have HFX0 := (show Hid (∀ b, footR kFrame (.slice (some ⟨gX0, 0, none⟩) ps0.length ps0.length) qsX0 b → w3.heap.size < b ∧ b < w4.heap.size) from fun b hb => ⟨by have := hf b hb; omega, (ho.lt b hb).2⟩)
  have HX0w4 := (show Hid (OwnR kFrame 0 46 5 w4 (.slice (some ⟨gX0, 0, none⟩) ps0.length ps0.length) qsX0) from ho)
  clear hf ho hq
  have hkk : Same w3 w4 := ((Kept.refl _ _).alloc _).trans hk
  have hzw4 := hk.size
  rw [World.size_alloc] at hzw4
  have HA0w4 := hid (HA0w3.out.same hkk)
  have HWw4 := hid (HWw3.out.same hkk)
  have HZw4 := (show Hid (Blk w4 (w3.heap.size) 30 [.int .i64 cdW, .int .i64 frW, (.slice aW nW cW), .int .i64 hdW]) from (Blk.new w3 #[.int .i64 cdW, .int .i64 frW, (.slice aW nW cW), .int .i64 hdW] 30).same hk)
  have HKw4 := (show Hid (Same w w4) from HKw3.out.trans hkk)
  clear hkk hk
  clear cA0_0 cA0_1 lA0
  have cA0_0 := HA0w4.out.c0
  have cA0_1 := HA0w4.out.c1
  have lA0 := HA0w4.out.lt
  have cZ_0 := HZw4.out.c0
  have cZ_1 := HZw4.out.c1
  have cZ_2 := HZw4.out.c2
  have cZ_3 := HZw4.out.c3
  have lZ := HZw4.out.lt
  go_wp2_with fail
  refine (implPoolVictim_any _ hand0 qsX0 _ (HX0w4.out.rd.same ((Kept.refl _ _).alloc _))).mono ?_
  rintro e w5 ⟨cdG, frG, aG, nG, cG, hdG, qsG, rfl, hR, hf, ho, hk⟩
  rw [victimP_dat HQX0.out] at hR
  have hR2 := hR.trans HR.out.symm
  simp only [Prod.mk.injEq] at hR2
  obtain ⟨hR3, hR4, hR5, hR6⟩ := hR2
  have hR3 := hR3.symm
  have hR4 := hR4.symm
  have hR5 := hR5.symm
  subst hR3 hR4 hR5
  have HQG : Hid (datFrameS qsG = datFrameS qsW) := hR6
  clear hR6
  simp only [World.size_alloc] at hf
  have HFG := (show Hid (∀ b, footR kFrame (.slice aG nG cG) qsG b → w4.heap.size < b ∧ b < w5.heap.size) from fun b hb => ⟨by have := hf b hb; omega, (ho.lt b hb).2⟩)
  have HGw5 := (show Hid (OwnR kFrame 0 46 5 w5 (.slice aG nG cG) qsG) from ho)
  clear hf ho hR
  have hkk : Same w4 w5 := ((Kept.refl _ _).alloc _).trans hk
  have hzw5 := hk.size
  rw [World.size_alloc] at hzw5
  have HA0w5 := hid (HA0w4.out.same hkk)
  have HWw5 := hid (HWw4.out.same hkk)
  have HZw5 := hid (HZw4.out.same hkk)
  have HX0w5 := hid (HX0w4.out.same hkk)
  have HT0w5 := (show Hid (Blk w5 (w4.heap.size) 28 [(.slice (some ⟨gX0, 0, none⟩) ps0.length ps0.length), .int .i64 hand0]) from (Blk.new w4 #[(.slice (some ⟨gX0, 0, none⟩) ps0.length ps0.length), .int .i64 hand0] 28).same hk)
  have HKw5 := (show Hid (Same w w5) from HKw4.out.trans hkk)
  clear hkk hk
  clear cA0_0 cA0_1 lA0 cZ_0 cZ_1 cZ_2 cZ_3 lZ
  have cA0_0 := HA0w5.out.c0
  have cA0_1 := HA0w5.out.c1
  have lA0 := HA0w5.out.lt
  have cZ_0 := HZw5.out.c0
  have cZ_1 := HZw5.out.c1
  have cZ_2 := HZw5.out.c2
  have cZ_3 := HZw5.out.c3
  have lZ := HZw5.out.lt
  have cT0_0 := HT0w5.out.c0
  have cT0_1 := HT0w5.out.c1
  have lT0 := HT0w5.out.lt
  go_wp2_with fail
  refine (eqPoolResult_own 0 cdW frW hdW _ _ qsG qsW _ (Nat.le_trans (HSM.out.of qsG HQG.out).1 (by omega)) HQG.out (fun p hp => Nat.le_trans ((HSM.out.of qsG HQG.out).2.1 p hp) (by omega)) (HGw5.out.same ((Kept.refl _ _).alloc _)) (HWw5.out.same ((Kept.refl _ _).alloc _))).mono ?_
  rintro e w6 ⟨rfl, hk⟩
  have hkk : Same w5 w6 := ((Kept.refl _ _).alloc _).trans hk
  have hzw6 := hk.size
  rw [World.size_alloc] at hzw6
  have HA0w6 := hid (HA0w5.out.same hkk)
  have HWw6 := hid (HWw5.out.same hkk)
  have HZw6 := hid (HZw5.out.same hkk)
  have HX0w6 := hid (HX0w5.out.same hkk)
  have HT0w6 := hid (HT0w5.out.same hkk)
  have HGw6 := hid (HGw5.out.same hkk)
  have HYw6 := (show Hid (Blk w6 (w5.heap.size) 30 [.int .i64 cdW, .int .i64 frW, (.slice aG nG cG), .int .i64 hdW]) from (Blk.new w5 #[.int .i64 cdW, .int .i64 frW, (.slice aG nG cG), .int .i64 hdW] 30).same hk)
  have HKw6 := (show Hid (Same w w6) from HKw5.out.trans hkk)
  clear hkk hk
  clear cA0_0 cA0_1 lA0 cZ_0 cZ_1 cZ_2 cZ_3 lZ cT0_0 cT0_1 lT0
  have cA0_0 := HA0w6.out.c0
  have cA0_1 := HA0w6.out.c1
  have lA0 := HA0w6.out.lt
  have cZ_0 := HZw6.out.c0
  have cZ_1 := HZw6.out.c1
  have cZ_2 := HZw6.out.c2
  have cZ_3 := HZw6.out.c3
  have lZ := HZw6.out.lt
  have cT0_0 := HT0w6.out.c0
  have cT0_1 := HT0w6.out.c1
  have lT0 := HT0w6.out.lt
  have cY_0 := HYw6.out.c0
  have cY_1 := HYw6.out.c1
  have cY_2 := HYw6.out.c2
  have cY_3 := HYw6.out.c3
  have lY := HYw6.out.lt
  go_wp2_with fail
  go_cut [31] (fun v wc => v = .bool false ∧ Hid (Same w6 wc))
  case first =>
    have HD1 : Hid (Same w w6.drew) := HKw6.out.drew
    have HD2 : Hid (Same w6 w6.drew) := (Kept.refl _ _).drew
    go_region_with (first | (go_at_call 7; refine (toPool_any hand0 _ ps0 _ (by omega) (fun p hp => Nat.le_trans (HS0.out p hp) (by omega)) (by exact HV0.out.same HD1.out)).mono ?_; rintro e wx7 ⟨g3, qs7, rfl, hq3, hf3, ho3, hk7⟩; have HO7 := (show Hid (OwnR kFrame 0 46 5 wx7 (.slice (some ⟨g3, 0, none⟩) ps0.length ps0.length) qs7) from ho3); have HQ7 : Hid (datFrameS qs7 = datFrameS ps0) := hq3; have HK7 : Hid (Same w6 wx7) := HD2.out.trans hk7; clear ho3 hq3 hf3 hk7; have y0 : wx7.cell? ⟨w4.heap.size, 0, none⟩ = some ((.slice (some ⟨gX0, 0, none⟩) ps0.length ps0.length)) := (HT0w6.out.same HK7.out).cell 0; have y1 : wx7.cell? ⟨w4.heap.size, 1, none⟩ = some (.int .i64 hand0) := (HT0w6.out.same HK7.out).cell 1) | (go_at_call 10; refine (eqPool_own 0 hand0 _ _ qsX0 qs7 _ (by have h := (HT0.out qsX0 HQX0.out).1; omega) (HQX0.out.trans HQ7.out.symm) (fun p hp => Nat.le_trans ((HT0.out qsX0 HQX0.out).2 p hp) (by omega)) (HX0w6.out.same HK7.out) HO7.out).mono ?_; rintro e wx8 ⟨rfl, hk8⟩))
    all_goals
      have HK8 : Hid (Same w6 wx8) := HK7.out.trans hk8
      clear hk8
      go_wp2_with fail
      go_meet
      case rel => exact ⟨rfl, HK8⟩
  case rest =>
  obtain ⟨rfl, HKC⟩ := hcut
  obtain ⟨w7, hwc⟩ : ∃ x, x = wc := ⟨_, rfl⟩
  subst hwc
  clear cA0_0 cA0_1 lA0 cZ_0 cZ_1 cZ_2 cZ_3 lZ cT0_0 cT0_1 lT0 cY_0 cY_1 cY_2 cY_3 lY
  have hkk : Same w6 w7 := HKC.out
  have hzw7 := hkk.size
  have HA0w7 := hid (HA0w6.out.same hkk)
  have HWw7 := hid (HWw6.out.same hkk)
  have HZw7 := hid (HZw6.out.same hkk)
  have HX0w7 := hid (HX0w6.out.same hkk)
  have HT0w7 := hid (HT0w6.out.same hkk)
  have HGw7 := hid (HGw6.out.same hkk)
  have HYw7 := hid (HYw6.out.same hkk)
  have HKw7 := (show Hid (Same w w7) from HKw6.out.trans hkk)
  clear hkk
  have hE0 : (0 : Int) ≤ 1 := by omega
  have hE0b : (1 : Int) ≤ 1 := by omega
  have hqlX0 := (HT0.out qsX0 HQX0.out).1
  obtain ⟨E1, hE⟩ : ∃ E, endR mFrame 1 qsX0 = E := ⟨_, rfl⟩
  have hE1 : 0 ≤ E1 := by rw [← hE, endFrameS_size]; omega
  have hE1b : E1 ≤ 7000001 := by rw [← hE, endFrameS_size, datFrameS_size HQX0.out]; omega
  have HE1 : Hid (endR mFrame 1 qsX0 = E1) := hE
  clear hE
  have cA0_0 := HA0w7.out.c0
  have cA0_1 := HA0w7.out.c1
  have lA0 := HA0w7.out.lt
  have cZ_0 := HZw7.out.c0
  have cZ_1 := HZw7.out.c1
  have cZ_2 := HZw7.out.c2
  have cZ_3 := HZw7.out.c3
  have lZ := HZw7.out.lt
  have cT0_0 := HT0w7.out.c0
  have cT0_1 := HT0w7.out.c1
  have lT0 := HT0w7.out.lt
  have cY_0 := HYw7.out.c0
  have cY_1 := HYw7.out.c1
  have cY_2 := HYw7.out.c2
  have cY_3 := HYw7.out.c3
  have lY := HYw7.out.lt
  go_wp2_with fail
  have hm := markPool_own hand0 (.slice (some ⟨gX0, 0, none⟩) ps0.length ps0.length) qsX0 1 w7 (by omega) (by rw [HE1.out]; omega) (by omega) HX0w7.out
  rw [HE1.out] at hm
  refine hm.mono ?_
  clear hm
  rintro e w8 ⟨rfl, _, hk⟩
  have hzw8 := hk.size
  have HA0w8 := (show Hid (Blk w8 (w.heap.size) 24 [(.slice a0a ps0.length c0a), .int .i64 hand0]) from HA0w7.out.kept hk (fun e => by have h1 := HFX0.out _ e; omega))
  have HWw8 := (show Hid (OwnR kFrame 0 46 5 w8 (.slice aW nW cW) qsW) from HWw7.out.kept hk (fun b hb e => by have h1 := HFX0.out _ e; have h2 := HFW.out b hb; omega))
  have HZw8 := (show Hid (Blk w8 (w3.heap.size) 30 [.int .i64 cdW, .int .i64 frW, (.slice aW nW cW), .int .i64 hdW]) from HZw7.out.kept hk (fun e => by have h1 := HFX0.out _ e; omega))
  have HT0w8 := (show Hid (Blk w8 (w4.heap.size) 28 [(.slice (some ⟨gX0, 0, none⟩) ps0.length ps0.length), .int .i64 hand0]) from HT0w7.out.kept hk (fun e => by have h1 := HFX0.out _ e; omega))
  have HGw8 := (show Hid (OwnR kFrame 0 46 5 w8 (.slice aG nG cG) qsG) from HGw7.out.kept hk (fun b hb e => by have h1 := HFX0.out _ e; have h2 := HFG.out b hb; omega))
  have HYw8 := (show Hid (Blk w8 (w5.heap.size) 30 [.int .i64 cdW, .int .i64 frW, (.slice aG nG cG), .int .i64 hdW]) from HYw7.out.kept hk (fun e => by have h1 := HFX0.out _ e; omega))
  have HKw8 := (show Hid (Same w w8) from HKw7.out.next hk (fun b hb e => by have h1 := HFX0.out _ e; omega))
  clear cA0_0 cA0_1 lA0 cZ_0 cZ_1 cZ_2 cZ_3 lZ cT0_0 cT0_1 lT0 cY_0 cY_1 cY_2 cY_3 lY
  clear hk
  have hEn : ¬ E1 < 0 := by omega
  have cA0_0 := HA0w8.out.c0
  have cA0_1 := HA0w8.out.c1
  have lA0 := HA0w8.out.lt
  have cZ_0 := HZw8.out.c0
  have cZ_1 := HZw8.out.c1
  have cZ_2 := HZw8.out.c2
  have cZ_3 := HZw8.out.c3
  have lZ := HZw8.out.lt
  have cY_0 := HYw8.out.c0
  have cY_1 := HYw8.out.c1
  have cY_2 := HYw8.out.c2
  have cY_3 := HYw8.out.c3
  have lY := HYw8.out.lt
  go_wp2_with fail
  refine (eqPoolResult_own 0 cdW frW hdW _ _ qsG qsW _ (Nat.le_trans (HSM.out.of qsG HQG.out).1 (by omega)) HQG.out (fun p hp => Nat.le_trans ((HSM.out.of qsG HQG.out).2.1 p hp) (by omega)) HGw8.out HWw8.out).mono ?_
  rintro e w9 ⟨rfl, hk⟩
  have hkk : Same w8 w9 := hk
  have hzw9 := hkk.size
  have HA0w9 := hid (HA0w8.out.same hkk)
  have HWw9 := hid (HWw8.out.same hkk)
  have HZw9 := hid (HZw8.out.same hkk)
  have HGw9 := hid (HGw8.out.same hkk)
  have HYw9 := hid (HYw8.out.same hkk)
  have HKw9 := (show Hid (Same w w9) from HKw8.out.trans hkk)
  clear hkk hk
  clear cA0_0 cA0_1 lA0 cZ_0 cZ_1 cZ_2 cZ_3 lZ cY_0 cY_1 cY_2 cY_3 lY
  obtain ⟨hgl, _, hg0, hg1⟩ := HSM.out.of qsG HQG.out
  obtain ⟨M, hM⟩ : ∃ M, endR mFrame 1 qsG = M := ⟨_, rfl⟩
  rw [hM] at hg0 hg1
  have HM : Hid (endR mFrame 1 qsG = M) := hM
  clear hM
  have hM2 : ¬ M < 0 := by omega
  have cA0_0 := HA0w9.out.c0
  have cA0_1 := HA0w9.out.c1
  have lA0 := HA0w9.out.lt
  have cZ_0 := HZw9.out.c0
  have cZ_1 := HZw9.out.c1
  have cZ_2 := HZw9.out.c2
  have cZ_3 := HZw9.out.c3
  have lZ := HZw9.out.lt
  have cY_0 := HYw9.out.c0
  have cY_1 := HYw9.out.c1
  have cY_2 := HYw9.out.c2
  have cY_3 := HYw9.out.c3
  have lY := HYw9.out.lt
  go_wp2_with fail
  have hm := markPoolResult_own cdW frW hdW (.slice aG nG cG) qsG 1 w9 (by omega) (by rw [HM.out]; exact hg1) (by omega) HGw9.out
  rw [HM.out] at hm
  refine hm.mono ?_
  clear hm
  rintro e w10 ⟨rfl, ho, hk⟩
  have hzw10 := hk.size
  have HA0w10 := (show Hid (Blk w10 (w.heap.size) 24 [(.slice a0a ps0.length c0a), .int .i64 hand0]) from HA0w9.out.kept hk (fun e => by have h1 := HFG.out _ e; omega))
  have HWw10 := (show Hid (OwnR kFrame 0 46 5 w10 (.slice aW nW cW) qsW) from HWw9.out.kept hk (fun b hb e => by have h1 := HFG.out _ e; have h2 := HFW.out b hb; omega))
  have HZw10 := (show Hid (Blk w10 (w3.heap.size) 30 [.int .i64 cdW, .int .i64 frW, (.slice aW nW cW), .int .i64 hdW]) from HZw9.out.kept hk (fun e => by have h1 := HFG.out _ e; omega))
  have HYw10 := (show Hid (Blk w10 (w5.heap.size) 30 [.int .i64 cdW, .int .i64 frW, (.slice aG nG cG), .int .i64 hdW]) from HYw9.out.kept hk (fun e => by have h1 := HFG.out _ e; omega))
  have HKw10 := (show Hid (Same w w10) from HKw9.out.next hk (fun b hb e => by have h1 := HFG.out _ e; omega))
  have HUw10 := (show Hid (OwnR kFrame 0 46 5 w10 (.slice aG nG cG) (markR mFrame 1 qsG)) from ho)
  clear cA0_0 cA0_1 lA0 cZ_0 cZ_1 cZ_2 cZ_3 lZ cY_0 cY_1 cY_2 cY_3 lY
  clear hk ho
  have cA0_0 := HA0w10.out.c0
  have cA0_1 := HA0w10.out.c1
  have lA0 := HA0w10.out.lt
  have cZ_0 := HZw10.out.c0
  have cZ_1 := HZw10.out.c1
  have cZ_2 := HZw10.out.c2
  have cZ_3 := HZw10.out.c3
  have lZ := HZw10.out.lt
  have cY_0 := HYw10.out.c0
  have cY_1 := HYw10.out.c1
  have cY_2 := HYw10.out.c2
  have cY_3 := HYw10.out.c3
  have lY := HYw10.out.lt
  go_wp2_with fail
  have hm := heldPoolResult_own cdW frW hdW (.slice aG nG cG) qsG 1 w10 (by omega) (by rw [HM.out]; exact hg1) (by omega) HUw10.out
  rw [HM.out] at hm
  refine hm.mono ?_
  clear hm
  rintro e w11 ⟨rfl, hk⟩
  have hkk : Same w10 w11 := hk
  have hzw11 := hkk.size
  have HA0w11 := hid (HA0w10.out.same hkk)
  have HWw11 := hid (HWw10.out.same hkk)
  have HZw11 := hid (HZw10.out.same hkk)
  have HYw11 := hid (HYw10.out.same hkk)
  have HUw11 := hid (HUw10.out.same hkk)
  have HKw11 := (show Hid (Same w w11) from HKw10.out.trans hkk)
  clear hkk hk
  clear cA0_0 cA0_1 lA0 cZ_0 cZ_1 cZ_2 cZ_3 lZ cY_0 cY_1 cY_2 cY_3 lY
  have cA0_0 := HA0w11.out.c0
  have cA0_1 := HA0w11.out.c1
  have lA0 := HA0w11.out.lt
  have cZ_0 := HZw11.out.c0
  have cZ_1 := HZw11.out.c1
  have cZ_2 := HZw11.out.c2
  have cZ_3 := HZw11.out.c3
  have lZ := HZw11.out.lt
  have cY_0 := HYw11.out.c0
  have cY_1 := HYw11.out.c1
  have cY_2 := HYw11.out.c2
  have cY_3 := HYw11.out.c3
  have lY := HYw11.out.lt
  go_wp2_with fail
  refine (toPool_any hand0 _ ps0 _ (by omega) (fun p hp => Nat.le_trans (HS0.out p hp) (by omega)) (HV0.out.same HKw11.out)).mono ?_
  rintro e w12 ⟨gJ0, qsJ0, rfl, hq, hf, ho, hk⟩
  have HQJ0 : Hid (datFrameS qsJ0 = datFrameS ps0) := hq
  have HFJ0 := (show Hid (∀ b, footR kFrame (.slice (some ⟨gJ0, 0, none⟩) ps0.length ps0.length) qsJ0 b → w11.heap.size ≤ b ∧ b < w12.heap.size) from fun b hb => ⟨hf b hb, (ho.lt b hb).2⟩)
  have HJ0w12 := (show Hid (OwnR kFrame 0 46 5 w12 (.slice (some ⟨gJ0, 0, none⟩) ps0.length ps0.length) qsJ0) from ho)
  clear hf ho hq
  have hkk : Same w11 w12 := hk
  have hzw12 := hkk.size
  have HA0w12 := hid (HA0w11.out.same hkk)
  have HWw12 := hid (HWw11.out.same hkk)
  have HZw12 := hid (HZw11.out.same hkk)
  have HYw12 := hid (HYw11.out.same hkk)
  have HUw12 := hid (HUw11.out.same hkk)
  have HKw12 := (show Hid (Same w w12) from HKw11.out.trans hkk)
  clear hkk hk
  clear cA0_0 cA0_1 lA0 cZ_0 cZ_1 cZ_2 cZ_3 lZ cY_0 cY_1 cY_2 cY_3 lY
  have cA0_0 := HA0w12.out.c0
  have cA0_1 := HA0w12.out.c1
  have lA0 := HA0w12.out.lt
  have cZ_0 := HZw12.out.c0
  have cZ_1 := HZw12.out.c1
  have cZ_2 := HZw12.out.c2
  have cZ_3 := HZw12.out.c3
  have lZ := HZw12.out.lt
  have cY_0 := HYw12.out.c0
  have cY_1 := HYw12.out.c1
  have cY_2 := HYw12.out.c2
  have cY_3 := HYw12.out.c3
  have lY := HYw12.out.lt
  go_wp2_with fail
  refine (implPoolVictim_any _ hand0 qsJ0 _ (HJ0w12.out.rd)).mono ?_
  rintro e w13 ⟨cdL, frL, aL, nL, cL, hdL, qsL, rfl, hR, hf, ho, hk⟩
  rw [victimP_dat HQJ0.out] at hR
  have hR2 := hR.trans HR.out.symm
  simp only [Prod.mk.injEq] at hR2
  obtain ⟨hR3, hR4, hR5, hR6⟩ := hR2
  have hR3 := hR3.symm
  have hR4 := hR4.symm
  have hR5 := hR5.symm
  subst hR3 hR4 hR5
  have HQL : Hid (datFrameS qsL = datFrameS qsW) := hR6
  clear hR6
  have HFL := (show Hid (∀ b, footR kFrame (.slice aL nL cL) qsL b → w12.heap.size ≤ b ∧ b < w13.heap.size) from fun b hb => ⟨hf b hb, (ho.lt b hb).2⟩)
  have HLw13 := (show Hid (OwnR kFrame 0 46 5 w13 (.slice aL nL cL) qsL) from ho)
  clear hf ho hR
  have hkk : Same w12 w13 := hk
  have hzw13 := hkk.size
  have HA0w13 := hid (HA0w12.out.same hkk)
  have HWw13 := hid (HWw12.out.same hkk)
  have HZw13 := hid (HZw12.out.same hkk)
  have HYw13 := hid (HYw12.out.same hkk)
  have HUw13 := hid (HUw12.out.same hkk)
  have HJ0w13 := hid (HJ0w12.out.same hkk)
  have HKw13 := (show Hid (Same w w13) from HKw12.out.trans hkk)
  clear hkk hk
  clear cA0_0 cA0_1 lA0 cZ_0 cZ_1 cZ_2 cZ_3 lZ cY_0 cY_1 cY_2 cY_3 lY
  have cA0_0 := HA0w13.out.c0
  have cA0_1 := HA0w13.out.c1
  have lA0 := HA0w13.out.lt
  have cZ_0 := HZw13.out.c0
  have cZ_1 := HZw13.out.c1
  have cZ_2 := HZw13.out.c2
  have cZ_3 := HZw13.out.c3
  have lZ := HZw13.out.lt
  have cY_0 := HYw13.out.c0
  have cY_1 := HYw13.out.c1
  have cY_2 := HYw13.out.c2
  have cY_3 := HYw13.out.c3
  have lY := HYw13.out.lt
  go_wp2_with fail
  refine (eqPoolResult_own 0 cdW frW hdW _ _ qsL qsW _ (Nat.le_trans (HSM.out.of qsL HQL.out).1 (by omega)) HQL.out (fun p hp => Nat.le_trans ((HSM.out.of qsL HQL.out).2.1 p hp) (by omega)) (HLw13.out.same ((Kept.refl _ _).alloc _)) (HWw13.out.same ((Kept.refl _ _).alloc _))).mono ?_
  rintro e w14 ⟨rfl, hk⟩
  have hkk : Same w13 w14 := ((Kept.refl _ _).alloc _).trans hk
  have hzw14 := hk.size
  rw [World.size_alloc] at hzw14
  have HA0w14 := hid (HA0w13.out.same hkk)
  have HWw14 := hid (HWw13.out.same hkk)
  have HZw14 := hid (HZw13.out.same hkk)
  have HYw14 := hid (HYw13.out.same hkk)
  have HUw14 := hid (HUw13.out.same hkk)
  have HLw14 := hid (HLw13.out.same hkk)
  have HVw14 := (show Hid (Blk w14 (w13.heap.size) 30 [.int .i64 cdW, .int .i64 frW, (.slice aL nL cL), .int .i64 hdW]) from (Blk.new w13 #[.int .i64 cdW, .int .i64 frW, (.slice aL nL cL), .int .i64 hdW] 30).same hk)
  have HKw14 := (show Hid (Same w w14) from HKw13.out.trans hkk)
  clear hkk hk
  clear cA0_0 cA0_1 lA0 cZ_0 cZ_1 cZ_2 cZ_3 lZ cY_0 cY_1 cY_2 cY_3 lY
  have cA0_0 := HA0w14.out.c0
  have cA0_1 := HA0w14.out.c1
  have lA0 := HA0w14.out.lt
  have cY_0 := HYw14.out.c0
  have cY_1 := HYw14.out.c1
  have cY_2 := HYw14.out.c2
  have cY_3 := HYw14.out.c3
  have lY := HYw14.out.lt
  go_wp2_with fail
  have hm := heldPoolResult_own cdW frW hdW (.slice aG nG cG) qsG 1 w14 (by omega) (by rw [HM.out]; exact hg1) (by omega) HUw14.out
  rw [HM.out] at hm
  refine hm.mono ?_
  clear hm
  rintro e w15 ⟨rfl, hk⟩
  have hkk : Same w14 w15 := hk
  have hzw15 := hkk.size
  have HA0w15 := hid (HA0w14.out.same hkk)
  have HYw15 := hid (HYw14.out.same hkk)
  have HUw15 := hid (HUw14.out.same hkk)
  have HKw15 := (show Hid (Same w w15) from HKw14.out.trans hkk)
  clear hkk hk
  clear cA0_0 cA0_1 lA0 cY_0 cY_1 cY_2 cY_3 lY
  go_wp2
  go_ret
  exact ⟨rfl, HKw15.out⟩
end Go.Proofs.Ytabmhcdldfehnab
