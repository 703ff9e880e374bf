import Derived.Test.YtfhdkbibcndmjaaG22
import Derived.Test.YtfhdkbibcndmjaaRunI
import Derived.Test.YtfhdkbibcndmjaaG01
import Derived.Test.YtfhdkbibcndmjaaOpen
import Derived.Deep.DeepCutAuto
namespace Go.Proofs.Ytfhdkbibcndmjaa
set_option maxRecDepth 100000
set_option maxHeartbeats 16000000
open Go.RowKit
set_option linter.unusedVariables false
theorem sizeP_512 (qs : List PW) (h : ∀ p ∈ qs, p.bs.length = 512) : sizeP qs = 512 * qs.length := by
  induction qs with
  | nil => rfl
  | cons q qs ih =>
    have h1 := h q (by simp)
    have h2 := ih (fun p hp => h p (by simp [hp]))
    simp only [sizeP, List.length_cons]
    omega
theorem IsRun.small {limit : Int} {dur r : List Int} {ops : List (Int × Int × List Int)} {ps qs : List PW} (h : IsRun limit dur (dataP ps) ops r (dataP qs)) (hd : dur.length ≤ 1048576) (hp : ps.length ≤ 1048576) (hsz : sizeP ps ≤ 1048576) : r.length ≤ 1048576 ∧ qs.length ≤ 2097152 ∧ sizeP qs ≤ 8388608 := by
  by_cases hv : Valid dur.length (dataP ps)
  · have h1 := h.yes hv
    have h2 := runD_valid hv ops (usedO limit ops.length) (usedO_le _ _)
    rw [← h1] at h2
    dsimp only at h2
    obtain ⟨e1, e2⟩ := h2
    have h3 : qs.length ≤ 8192 := by have := e2.1.2.2.2; rw [dataP_length] at this; exact this
    have h4 : ∀ p ∈ qs, p.bs.length = 512 := fun p hp => by
      have := (e2.2 (p.sec, p.bs) (by unfold dataP; exact List.mem_map_of_mem (f := fun q : PW => (q.sec, q.bs)) hp)).2.2
      exact this
    have h5 := sizeP_512 qs h4
    omega
  · obtain ⟨e1, e2⟩ := h.no hv
    have h3 : qs.length = ps.length := by rw [← dataP_length, e2, dataP_length]
    rw [e1, dataP_sizeP e2]
    omega
theorem runOps_law (dv0 pv0 : Value) (dur0 : List Int) (ps0 : List PW) (v1 : Value) (os1 : List EOp) (s2 : Int) (w : World) (hv0 : RdD w dv0 pv0 dur0 ps0) (hv1 : RdR kOp w v1 os1) :
    Calls Try.prog 6 #[.agg #[dv0, pv0], v1, .int .i64 s2] w fun e w' => e = .returned (.bool true) ∧ Same w w' := by
  obtain ⟨a0a, c0a, rfl⟩ := hv0.dur.form
  obtain ⟨a0b, c0b, rfl⟩ := hv0.pend.form
  have HV0 := (show Hid (RdD w (.slice a0a dur0.length c0a) (.slice a0b ps0.length c0b) dur0 ps0) from hv0)
  clear hv0
  obtain ⟨a1a, c1a, rfl⟩ := hv1.form
  have hm1 := hv1.max
  unfold maxLen at hm1
  have HV1 := (show Hid (RdR kOp w (.slice a1a os1.length c1a) os1) from hv1)
  clear hv1
  go_enter Try.func6, Try.ntmps6
  have HKw : Hid (Same w w) := Kept.refl _ _
  go_wp2_with fail
  refine (szDisk_any _ _ dur0 ps0 _ _ (by omega) (by omega) (HV0.out.same ((Kept.refl _ _).alloc _))).mono ?_
  rintro e w1 ⟨sz0, rfl, hr, hk⟩
  have hkk : Same w w1 := ((Kept.refl _ _).alloc _).trans hk
  have hzw1 := hk.size
  rw [World.size_alloc] at hzw1
  have HA0w1 := (show Hid (Box w1 (w.heap.size) (.slice a0a dur0.length c0a) (.slice a0b ps0.length c0b)) from (Box.new _ _ _ _).same hk)
  have HKw1 := (show Hid (Same w w1) from HKw.out.trans hkk)
  clear hkk hk
  rcases hr with rfl | ⟨hr, hr0⟩
  · go_wp2
    go_ret
    exact ⟨rfl, HKw1.out⟩
  have hd0 : dur0.length ≤ 1048576 := by omega
  have hp0 : ps0.length ≤ 1048576 := by omega
  have hsz0 : sizeP ps0 ≤ 1048576 := by omega
  have HS0 : Hid (∀ p ∈ ps0, p.bs.length ≤ 1048576) := fun p hp => by have := sizeP_mem ps0 p hp; omega
  have HT0 : Hid (∀ qs : List PW, dataP qs = dataP ps0 → qs.length ≤ 1073741824 ∧ ∀ p ∈ qs, p.bs.length ≤ 1099511627776) := fun qs hq => ⟨by rw [← dataP_length, hq, dataP_length]; omega, fun p hp => by have := sizeP_mem qs p hp; rw [dataP_sizeP hq] at this; omega⟩
  have hsb0 : sz0 ≤ 1048576 := by omega
  clear hr
  obtain ⟨A01, A02⟩ := HA0w1.out
  have lA0 := HA0w1.out.lt
  go_wp2_with fail
  refine (szOpS_any _ os1 sz0 _ hr0 hsb0 (HV1.out.same HKw1.out)).mono ?_
  rintro e w2 ⟨sz1, rfl, hro, hk⟩
  have hkk : Same w1 w2 := hk
  have hzw2 := hkk.size
  have HA0w2 := hid (HA0w1.out.same hkk)
  have HKw2 := (show Hid (Same w w2) from HKw1.out.trans hkk)
  clear hkk hk
  clear A01 A02 lA0
  rcases hro with rfl | ⟨hro, hro0⟩
  · go_wp2
    go_ret
    exact ⟨rfl, HKw2.out⟩
  have hp1 : os1.length ≤ 1048576 := by omega
  have hsz1 : sizeOpS os1 ≤ 1048576 := by omega
  have HS1 : Hid (∀ p ∈ os1, p.bs.length ≤ 1048576) := fun p hp => by have := sizeOpS_mem os1 p hp; omega
  have HT1 : Hid (∀ qs : List EOp, datOpS qs = datOpS os1 → qs.length ≤ 1048576 ∧ ∀ p ∈ qs, p.bs.length ≤ 1048576) := fun qs hq => ⟨by rw [← datOpS_length, hq, datOpS_length]; omega, fun p hp => by have := sizeOpS_mem qs p hp; rw [datOpS_size hq] at this; omega⟩
  clear hro
  obtain ⟨A01, A02⟩ := HA0w2.out
  have lA0 := HA0w2.out.lt
  go_wp2_with fail
  refine (toDisk_any _ _ dur0 ps0 _ (by omega) (by omega) (fun p hp => Nat.le_trans (HS0.out p hp) (by omega)) (HV0.out.same HKw2.out)).mono ?_
  rintro e w3 ⟨gC0, gC0', qsC0, rfl, hq, hf, ho, hk⟩
  have HQC0 : Hid (dataP qsC0 = dataP ps0) := hq
  have HFC0 := (show Hid (∀ b, footD (.slice (some ⟨gC0, 0, none⟩) dur0.length dur0.length) (.slice (some ⟨gC0', 0, none⟩) ps0.length ps0.length) qsC0 b → w2.heap.size ≤ b ∧ b < w3.heap.size) from fun b hb => ⟨hf b hb, (ho.lt b hb).2⟩)
  have HC0w3 := (show Hid (OwnD 0 40 5 w3 (.slice (some ⟨gC0, 0, none⟩) dur0.length dur0.length) (.slice (some ⟨gC0', 0, none⟩) ps0.length ps0.length) dur0 qsC0) from ho)
  clear hf ho hq
  have hkk : Same w2 w3 := hk
  have hzw3 := hkk.size
  have HA0w3 := hid (HA0w2.out.same hkk)
  have HKw3 := (show Hid (Same w w3) from HKw2.out.trans hkk)
  clear hkk hk
  clear A01 A02 lA0
  obtain ⟨A01, A02⟩ := HA0w3.out
  have lA0 := HA0w3.out.lt
  go_wp2_with fail
  refine (toOpS_any _ os1 _ (by omega) (fun p hp => Nat.le_trans (HS1.out p hp) (by omega)) (HV1.out.same HKw3.out)).mono ?_
  rintro e w4 ⟨gC1, qsC1, rfl, hq, hf, ho, hk⟩
  have HQC1 : Hid (datOpS qsC1 = datOpS os1) := hq
  have HFC1 := (show Hid (∀ b, footR kOp (.slice (some ⟨gC1, 0, none⟩) os1.length os1.length) qsC1 b → w3.heap.size ≤ b ∧ b < w4.heap.size) from fun b hb => ⟨hf b hb, (ho.lt b hb).2⟩)
  have HC1w4 := (show Hid (OwnR kOp 0 76 5 w4 (.slice (some ⟨gC1, 0, none⟩) os1.length os1.length) qsC1) from ho)
  clear hf ho hq
  have hkk : Same w3 w4 := hk
  have hzw4 := hkk.size
  have HA0w4 := hid (HA0w3.out.same hkk)
  have HC0w4 := hid (HC0w3.out.same hkk)
  have HKw4 := (show Hid (Same w w4) from HKw3.out.trans hkk)
  clear hkk hk
  clear A01 A02 lA0
  obtain ⟨A01, A02⟩ := HA0w4.out
  have lA0 := HA0w4.out.lt
  go_wp2_with fail
  refine (specRunOps_any _ _ dur0 qsC0 _ qsC1 s2 _ (by omega) (HT0.out qsC0 HQC0.out).1 (HT0.out qsC0 HQC0.out).2 (HC0w4.out.rd) (fun p hp => Nat.le_trans ((HT1.out qsC1 HQC1.out).2 p hp) (by omega)) (HC1w4.out.rd)).mono ?_
  rintro e w5 ⟨aW, nW, cW, aW', nW', cW', rW, qsW, rfl, hR, hf, ho, hk⟩
  rw [HQC0.out] at hR
  rw [HQC1.out] at hR ⊢
  obtain ⟨dn0, hdn⟩ : ∃ x, allO s2 (datOpS os1).length = x := ⟨_, rfl⟩
  obtain ⟨us0, hus⟩ : ∃ x, usedO s2 (datOpS os1).length = x := ⟨_, rfl⟩
  have HDN : Hid (allO s2 (datOpS os1).length = dn0) := hdn
  have HUS : Hid (usedO s2 (datOpS os1).length = us0) := hus
  clear hdn hus
  rw [HDN.out, HUS.out]
  have HR := (show Hid (IsRun s2 dur0 (dataP ps0) (datOpS os1) rW (dataP qsW)) from hR)
  obtain ⟨hrl, hql, hqs⟩ := IsRun.small hR hd0 hp0 hsz0
  have hqWl : qsW.length ≤ 2097152 := hql
  have HSQW : Hid (∀ p ∈ qsW, p.bs.length ≤ 1125899906842624) := fun p hp => by have := sizeP_mem qsW p hp; omega
  have HFW := (show Hid (∀ b, footD (.slice aW nW cW) (.slice aW' nW' cW') qsW b → w4.heap.size ≤ b ∧ b < w5.heap.size) from fun b hb => ⟨hf b hb, (ho.lt b hb).2⟩)
  have HWw5 := (show Hid (OwnD 0 40 5 w5 (.slice aW nW cW) (.slice aW' nW' cW') rW qsW) from ho)
  clear hf ho hR
  have hkk : Same w4 w5 := hk
  have hzw5 := hkk.size
  have HA0w5 := hid (HA0w4.out.same hkk)
  have HC0w5 := hid (HC0w4.out.same hkk)
  have HC1w5 := hid (HC1w4.out.same hkk)
  have HKw5 := (show Hid (Same w w5) from HKw4.out.trans hkk)
  clear hkk hk
  clear A01 A02 lA0
  obtain ⟨A01, A02⟩ := HA0w5.out
  have lA0 := HA0w5.out.lt
  go_wp2_with fail
  refine (toDisk_any _ _ dur0 ps0 _ (by omega) (by omega) (fun p hp => Nat.le_trans (HS0.out p hp) (by omega)) (HV0.out.same (HKw5.out.alloc _))).mono ?_
  rintro e w6 ⟨gX0, gX0', qsX0, rfl, hq, hf, ho, hk⟩
  have HQX0 : Hid (dataP qsX0 = dataP ps0) := hq
  simp only [World.size_alloc] at hf
  have HFX0 := (show Hid (∀ b, footD (.slice (some ⟨gX0, 0, none⟩) dur0.length dur0.length) (.slice (some ⟨gX0', 0, none⟩) ps0.length ps0.length) qsX0 b → w5.heap.size < b ∧ b < w6.heap.size) from fun b hb => ⟨by have := hf b hb; omega, (ho.lt b hb).2⟩)
  have HX0w6 := (show Hid (OwnD 0 40 5 w6 (.slice (some ⟨gX0, 0, none⟩) dur0.length dur0.length) (.slice (some ⟨gX0', 0, none⟩) ps0.length ps0.length) dur0 qsX0) from ho)
  clear hf ho hq
  have hkk : Same w5 w6 := ((Kept.refl _ _).alloc _).trans hk
  have hzw6 := hk.size
  rw [World.size_alloc] at hzw6
  have HA0w6 := hid (HA0w5.out.same hkk)
  have HWw6 := hid (HWw5.out.same hkk)
  have HZw6 := (show Hid (Blk w6 (w5.heap.size) 31 [.bool dn0, .int .i64 us0, (.slice aW nW cW), (.slice aW' nW' cW')]) from (Blk.new w5 #[.bool dn0, .int .i64 us0, (.slice aW nW cW), (.slice aW' nW' cW')] 31).same hk)
  have HKw6 := (show Hid (Same w w6) from HKw5.out.trans hkk)
  clear hkk hk
  clear A01 A02 lA0
  obtain ⟨A01, A02⟩ := HA0w6.out
  have lA0 := HA0w6.out.lt
  have cZ_0 := HZw6.out.c0
  have cZ_1 := HZw6.out.c1
  have cZ_2 := HZw6.out.c2
  have cZ_3 := HZw6.out.c3
  have lZ := HZw6.out.lt
  go_wp2_with fail
  refine (toOpS_any _ os1 _ (by omega) (fun p hp => Nat.le_trans (HS1.out p hp) (by omega)) (HV1.out.same (HKw6.out.alloc _))).mono ?_
  rintro e w7 ⟨gX1, qsX1, rfl, hq, hf, ho, hk⟩
  have HQX1 : Hid (datOpS qsX1 = datOpS os1) := hq
  simp only [World.size_alloc] at hf
  have HFX1 := (show Hid (∀ b, footR kOp (.slice (some ⟨gX1, 0, none⟩) os1.length os1.length) qsX1 b → w6.heap.size < b ∧ b < w7.heap.size) from fun b hb => ⟨by have := hf b hb; omega, (ho.lt b hb).2⟩)
  have HX1w7 := (show Hid (OwnR kOp 0 76 5 w7 (.slice (some ⟨gX1, 0, none⟩) os1.length os1.length) qsX1) from ho)
  clear hf ho hq
  have hkk : Same w6 w7 := ((Kept.refl _ _).alloc _).trans hk
  have hzw7 := hk.size
  rw [World.size_alloc] at hzw7
  have HA0w7 := hid (HA0w6.out.same hkk)
  have HWw7 := hid (HWw6.out.same hkk)
  have HZw7 := hid (HZw6.out.same hkk)
  have HX0w7 := hid (HX0w6.out.same hkk)
  have HT0w7 := (show Hid (Box w7 (w6.heap.size) (.slice (some ⟨gX0, 0, none⟩) dur0.length dur0.length) (.slice (some ⟨gX0', 0, none⟩) ps0.length ps0.length)) from (Box.new _ _ _ _).same hk)
  have HKw7 := (show Hid (Same w w7) from HKw6.out.trans hkk)
  clear hkk hk
  clear A01 A02 lA0
  clear cZ_0 cZ_1 cZ_2 cZ_3 lZ
  obtain ⟨A01, A02⟩ := HA0w7.out
  have lA0 := HA0w7.out.lt
  obtain ⟨T01, T02⟩ := HT0w7.out
  have lT0 := HT0w7.out.lt
  have cZ_0 := HZw7.out.c0
  have cZ_1 := HZw7.out.c1
  have cZ_2 := HZw7.out.c2
  have cZ_3 := HZw7.out.c3
  have lZ := HZw7.out.lt
  go_wp2_with fail
  refine (implRunOps_any _ _ dur0 qsX0 _ qsX1 s2 _ (by omega) (HT0.out qsX0 HQX0.out).1 (HT0.out qsX0 HQX0.out).2 (HX0w7.out.rd) ⟨gX1, 0, os1.length, by rw [(show qsX1.length = os1.length from by rw [← datOpS_length, HQX1.out, datOpS_length])], by rw [(show qsX1.length = os1.length from by rw [← datOpS_length, HQX1.out, datOpS_length])]; exact Nat.le_refl _⟩ (HX1w7.out.rd)).mono ?_
  rintro e w8 ⟨aG, nG, cG, aG', nG', cG', rG, qsG, rfl, hR, hf, ho, hk⟩
  rw [HQX0.out] at hR
  rw [HQX1.out] at hR ⊢
  rw [HDN.out, HUS.out]
  obtain ⟨hrr, hq⟩ := hR.one HR.out
  replace hrr := hrr.symm
  subst hrr
  have HQG : Hid (dataP qsG = dataP qsW) := hq
  have hqGl : qsG.length ≤ 2097152 := by rw [← dataP_length, HQG.out, dataP_length]; exact hql
  have HSQG : Hid (∀ p ∈ qsG, p.bs.length ≤ 1125899906842624) := fun p hp => by have := sizeP_mem qsG p hp; rw [dataP_sizeP HQG.out] at this; omega
  clear hq
  have HFG := (show Hid (∀ b, footD (.slice aG nG cG) (.slice aG' nG' cG') qsG b → w7.heap.size ≤ b ∧ b < w8.heap.size) from fun b hb => ⟨hf b hb, (ho.lt b hb).2⟩)
  have HGw8 := (show Hid (OwnD 0 40 5 w8 (.slice aG nG cG) (.slice aG' nG' cG') rW qsG) from ho)
  clear hf ho hR
  have hkk : Same w7 w8 := hk
  have hzw8 := hkk.size
  have HA0w8 := hid (HA0w7.out.same hkk)
  have HWw8 := hid (HWw7.out.same hkk)
  have HZw8 := hid (HZw7.out.same hkk)
  have HX0w8 := hid (HX0w7.out.same hkk)
  have HT0w8 := hid (HT0w7.out.same hkk)
  have HX1w8 := hid (HX1w7.out.same hkk)
  have HKw8 := (show Hid (Same w w8) from HKw7.out.trans hkk)
  clear hkk hk
  clear A01 A02 lA0 T01 T02 lT0
  clear cZ_0 cZ_1 cZ_2 cZ_3 lZ
  obtain ⟨A01, A02⟩ := HA0w8.out
  have lA0 := HA0w8.out.lt
  obtain ⟨T01, T02⟩ := HT0w8.out
  have lT0 := HT0w8.out.lt
  have cZ_0 := HZw8.out.c0
  have cZ_1 := HZw8.out.c1
  have cZ_2 := HZw8.out.c2
  have cZ_3 := HZw8.out.c3
  have lZ := HZw8.out.lt
  go_wp2_with fail
  refine (eqOpsResult_own 0 dn0 us0 _ _ _ _ rW qsG qsW _ (by omega) (by omega) HQG.out HSQG.out (HGw8.out.same ((Kept.refl _ _).alloc _)) (HWw8.out.same ((Kept.refl _ _).alloc _))).mono ?_
  rintro e w9 ⟨rfl, hk⟩
  have hkk : Same w8 w9 := ((Kept.refl _ _).alloc _).trans hk
  have hzw9 := hk.size
  rw [World.size_alloc] at hzw9
  have HA0w9 := hid (HA0w8.out.same hkk)
  have HWw9 := hid (HWw8.out.same hkk)
  have HZw9 := hid (HZw8.out.same hkk)
  have HX0w9 := hid (HX0w8.out.same hkk)
  have HT0w9 := hid (HT0w8.out.same hkk)
  have HX1w9 := hid (HX1w8.out.same hkk)
  have HGw9 := hid (HGw8.out.same hkk)
  have HYw9 := (show Hid (Blk w9 (w8.heap.size) 31 [.bool dn0, .int .i64 us0, (.slice aG nG cG), (.slice aG' nG' cG')]) from (Blk.new w8 #[.bool dn0, .int .i64 us0, (.slice aG nG cG), (.slice aG' nG' cG')] 31).same hk)
  have HKw9 := (show Hid (Same w w9) from HKw8.out.trans hkk)
  clear hkk hk
  clear A01 A02 lA0 T01 T02 lT0
  clear cZ_0 cZ_1 cZ_2 cZ_3 lZ
  obtain ⟨A01, A02⟩ := HA0w9.out
  have lA0 := HA0w9.out.lt
  obtain ⟨T01, T02⟩ := HT0w9.out
  have lT0 := HT0w9.out.lt
  have cZ_0 := HZw9.out.c0
  have cZ_1 := HZw9.out.c1
  have cZ_2 := HZw9.out.c2
  have cZ_3 := HZw9.out.c3
  have lZ := HZw9.out.lt
  have cY_0 := HYw9.out.c0
  have cY_1 := HYw9.out.c1
  have cY_2 := HYw9.out.c2
  have cY_3 := HYw9.out.c3
  have lY := HYw9.out.lt
  go_wp2_with fail
  go_cut [48] (fun v wc => v = .bool false ∧ Hid (Same w9 wc))
  case first =>
    have HD1 : Hid (Same w w9.drew) := HKw9.out.drew
    have HD2 : Hid (Same w9 w9.drew) := (Kept.refl _ _).drew
    go_region_with (first | (go_at_call 21; refine (toDisk_any _ _ dur0 ps0 _ (by omega) (by omega) (fun p hp => Nat.le_trans (HS0.out p hp) (by omega)) (by exact HV0.out.same HD1.out)).mono ?_; rintro e wx7 ⟨g3, g3', qs7, rfl, hq3, hf3, ho3, hk7⟩; obtain ⟨y1, y2⟩ := HT0w9.out.same (HD2.out.trans hk7); have HO7 := (show Hid (OwnD 0 40 5 wx7 (.slice (some ⟨g3, 0, none⟩) dur0.length dur0.length) (.slice (some ⟨g3', 0, none⟩) ps0.length ps0.length) dur0 qs7) from ho3); have HQ7 : Hid (dataP qs7 = dataP ps0) := hq3; have HK7 : Hid (Same w9 wx7) := HD2.out.trans hk7; clear ho3 hq3 hf3 hk7) | (go_at_call 24; refine (eqDisk_own 0 _ _ _ _ dur0 qsX0 qs7 _ (by omega) (by have h := (HT0.out qsX0 HQX0.out).1; omega) (HQX0.out.trans HQ7.out.symm) (fun p hp => Nat.le_trans ((HT0.out qsX0 HQX0.out).2 p hp) (by omega)) (HX0w9.out.same HK7.out) HO7.out).mono ?_; rintro e wx8 ⟨rfl, hk8⟩))
    all_goals
      have HK8 : Hid (Same w9 wx8) := HK7.out.trans hk8
      clear hk8
      go_wp2_with fail
      go_meet
      case rel => exact ⟨rfl, HK8⟩
  case rest =>
  obtain ⟨rfl, HKC⟩ := hcut
  obtain ⟨w10, hwc⟩ : ∃ x, x = wc := ⟨_, rfl⟩
  subst hwc
  clear A01 A02 lA0 T01 T02 lT0
  clear cZ_0 cZ_1 cZ_2 cZ_3 lZ cY_0 cY_1 cY_2 cY_3 lY
  have hkk : Same w9 w10 := HKC.out
  have hzw10 := hkk.size
  have HA0w10 := hid (HA0w9.out.same hkk)
  have HWw10 := hid (HWw9.out.same hkk)
  have HZw10 := hid (HZw9.out.same hkk)
  have HX0w10 := hid (HX0w9.out.same hkk)
  have HT0w10 := hid (HT0w9.out.same hkk)
  have HX1w10 := hid (HX1w9.out.same hkk)
  have HGw10 := hid (HGw9.out.same hkk)
  have HYw10 := hid (HYw9.out.same hkk)
  have HKw10 := (show Hid (Same w w10) from HKw9.out.trans hkk)
  clear hkk
  obtain ⟨A01, A02⟩ := HA0w10.out
  have lA0 := HA0w10.out.lt
  obtain ⟨T01, T02⟩ := HT0w10.out
  have lT0 := HT0w10.out.lt
  have cZ_0 := HZw10.out.c0
  have cZ_1 := HZw10.out.c1
  have cZ_2 := HZw10.out.c2
  have cZ_3 := HZw10.out.c3
  have lZ := HZw10.out.lt
  have cY_0 := HYw10.out.c0
  have cY_1 := HYw10.out.c1
  have cY_2 := HYw10.out.c2
  have cY_3 := HYw10.out.c3
  have lY := HYw10.out.lt
  go_wp2_with fail
  refine (toOpS_any _ os1 _ (by omega) (fun p hp => Nat.le_trans (HS1.out p hp) (by omega)) (HV1.out.same HKw10.out)).mono ?_
  rintro e w11 ⟨gD1, qsD1, rfl, hq, hf, ho, hk⟩
  have HQD1 : Hid (datOpS qsD1 = datOpS os1) := hq
  have HFD1 := (show Hid (∀ b, footR kOp (.slice (some ⟨gD1, 0, none⟩) os1.length os1.length) qsD1 b → w10.heap.size ≤ b ∧ b < w11.heap.size) from fun b hb => ⟨hf b hb, (ho.lt b hb).2⟩)
  have HD1w11 := (show Hid (OwnR kOp 0 76 5 w11 (.slice (some ⟨gD1, 0, none⟩) os1.length os1.length) qsD1) from ho)
  clear hf ho hq
  have hkk : Same w10 w11 := hk
  have hzw11 := hkk.size
  have HA0w11 := hid (HA0w10.out.same hkk)
  have HWw11 := hid (HWw10.out.same hkk)
  have HZw11 := hid (HZw10.out.same hkk)
  have HX0w11 := hid (HX0w10.out.same hkk)
  have HT0w11 := hid (HT0w10.out.same hkk)
  have HX1w11 := hid (HX1w10.out.same hkk)
  have HGw11 := hid (HGw10.out.same hkk)
  have HYw11 := hid (HYw10.out.same hkk)
  have HKw11 := (show Hid (Same w w11) from HKw10.out.trans hkk)
  clear hkk hk
  clear A01 A02 lA0 T01 T02 lT0
  clear cZ_0 cZ_1 cZ_2 cZ_3 lZ cY_0 cY_1 cY_2 cY_3 lY
  obtain ⟨A01, A02⟩ := HA0w11.out
  have lA0 := HA0w11.out.lt
  obtain ⟨T01, T02⟩ := HT0w11.out
  have lT0 := HT0w11.out.lt
  have cZ_0 := HZw11.out.c0
  have cZ_1 := HZw11.out.c1
  have cZ_2 := HZw11.out.c2
  have cZ_3 := HZw11.out.c3
  have lZ := HZw11.out.lt
  have cY_0 := HYw11.out.c0
  have cY_1 := HYw11.out.c1
  have cY_2 := HYw11.out.c2
  have cY_3 := HYw11.out.c3
  have lY := HYw11.out.lt
  go_wp2_with fail
  refine (eqOpS_own 0 _ _ qsX1 qsD1 _ (by have h := (HT1.out qsX1 HQX1.out).1; omega) (HQX1.out.trans HQD1.out.symm) (fun p hp => Nat.le_trans ((HT1.out qsX1 HQX1.out).2 p hp) (by omega)) HX1w11.out HD1w11.out).mono ?_
  rintro e w12 ⟨rfl, hk⟩
  have hkk : Same w11 w12 := hk
  have hzw12 := hkk.size
  have HA0w12 := hid (HA0w11.out.same hkk)
  have HWw12 := hid (HWw11.out.same hkk)
  have HZw12 := hid (HZw11.out.same hkk)
  have HX0w12 := hid (HX0w11.out.same hkk)
  have HT0w12 := hid (HT0w11.out.same hkk)
  have HX1w12 := hid (HX1w11.out.same hkk)
  have HGw12 := hid (HGw11.out.same hkk)
  have HYw12 := hid (HYw11.out.same hkk)
  have HKw12 := (show Hid (Same w w12) from HKw11.out.trans hkk)
  clear hkk hk
  clear A01 A02 lA0 T01 T02 lT0
  clear cZ_0 cZ_1 cZ_2 cZ_3 lZ cY_0 cY_1 cY_2 cY_3 lY
  have hE0 : (0 : Int) ≤ 1 := by omega
  have hE0b : (1 : Int) ≤ 1 := by omega
  have hqlX0 : qsX0.length = ps0.length := by rw [← dataP_length, HQX0.out, dataP_length]
  obtain ⟨E1, hE⟩ : ∃ E, endP (1 + (dur0.length : Int)) qsX0 = E := ⟨_, rfl⟩
  have hE1 : 0 ≤ E1 := by rw [← hE, endP_size]; omega
  have hE1b : E1 ≤ 7000001 := by rw [← hE, endP_size, dataP_sizeP HQX0.out]; omega
  have HE1 : Hid (endP (1 + (dur0.length : Int)) qsX0 = E1) := hE
  clear hE
  obtain ⟨A01, A02⟩ := HA0w12.out
  have lA0 := HA0w12.out.lt
  obtain ⟨T01, T02⟩ := HT0w12.out
  have lT0 := HT0w12.out.lt
  have cZ_0 := HZw12.out.c0
  have cZ_1 := HZw12.out.c1
  have cZ_2 := HZw12.out.c2
  have cZ_3 := HZw12.out.c3
  have lZ := HZw12.out.lt
  have cY_0 := HYw12.out.c0
  have cY_1 := HYw12.out.c1
  have cY_2 := HYw12.out.c2
  have cY_3 := HYw12.out.c3
  have lY := HYw12.out.lt
  go_wp2_with fail
  have hm := markDisk_own 0 (.slice (some ⟨gX0, 0, none⟩) dur0.length dur0.length) (.slice (some ⟨gX0', 0, none⟩) ps0.length ps0.length) dur0 qsX0 1 w12 (by omega) (by rw [HE1.out]; omega) (by omega) HX0w12.out
  rw [HE1.out] at hm
  refine hm.mono ?_
  clear hm
  rintro e w13 ⟨rfl, _, hk⟩
  have hzw13 := hk.size
  have HA0w13 := (show Hid (Box w13 (w.heap.size) (.slice a0a dur0.length c0a) (.slice a0b ps0.length c0b)) from HA0w12.out.kept hk (fun e => by have h1 := HFX0.out _ e; omega))
  have HWw13 := (show Hid (OwnD 0 40 5 w13 (.slice aW nW cW) (.slice aW' nW' cW') rW qsW) from HWw12.out.kept hk (fun b hb e => by have h1 := HFX0.out _ e; have h2 := HFW.out b hb; omega))
  have HZw13 := (show Hid (Blk w13 (w5.heap.size) 31 [.bool dn0, .int .i64 us0, (.slice aW nW cW), (.slice aW' nW' cW')]) from HZw12.out.kept hk (fun e => by have h1 := HFX0.out _ e; omega))
  have HT0w13 := (show Hid (Box w13 (w6.heap.size) (.slice (some ⟨gX0, 0, none⟩) dur0.length dur0.length) (.slice (some ⟨gX0', 0, none⟩) ps0.length ps0.length)) from HT0w12.out.kept hk (fun e => by have h1 := HFX0.out _ e; omega))
  have HX1w13 := (show Hid (OwnR kOp 0 76 5 w13 (.slice (some ⟨gX1, 0, none⟩) os1.length os1.length) qsX1) from HX1w12.out.kept hk (fun b hb e => by have h1 := HFX0.out _ e; have h2 := HFX1.out b hb; omega))
  have HGw13 := (show Hid (OwnD 0 40 5 w13 (.slice aG nG cG) (.slice aG' nG' cG') rW qsG) from HGw12.out.kept hk (fun b hb e => by have h1 := HFX0.out _ e; have h2 := HFG.out b hb; omega))
  have HYw13 := (show Hid (Blk w13 (w8.heap.size) 31 [.bool dn0, .int .i64 us0, (.slice aG nG cG), (.slice aG' nG' cG')]) from HYw12.out.kept hk (fun e => by have h1 := HFX0.out _ e; omega))
  have HKw13 := (show Hid (Same w w13) from HKw12.out.next hk (fun b hb e => by have h1 := HFX0.out _ e; omega))
  clear A01 A02 lA0 T01 T02 lT0
  clear cZ_0 cZ_1 cZ_2 cZ_3 lZ cY_0 cY_1 cY_2 cY_3 lY
  clear hk
  have hqlX1 := (HT1.out qsX1 HQX1.out).1
  obtain ⟨E2, hE⟩ : ∃ E, endR mOp E1 qsX1 = E := ⟨_, rfl⟩
  have hE2 : 0 ≤ E2 := by rw [← hE, endOpS_size]; omega
  have hE2b : E2 ≤ 14000001 := by rw [← hE, endOpS_size, datOpS_size HQX1.out]; omega
  have HE2 : Hid (endR mOp E1 qsX1 = E2) := hE
  clear hE
  obtain ⟨A01, A02⟩ := HA0w13.out
  have lA0 := HA0w13.out.lt
  obtain ⟨T01, T02⟩ := HT0w13.out
  have lT0 := HT0w13.out.lt
  have cZ_0 := HZw13.out.c0
  have cZ_1 := HZw13.out.c1
  have cZ_2 := HZw13.out.c2
  have cZ_3 := HZw13.out.c3
  have lZ := HZw13.out.lt
  have cY_0 := HYw13.out.c0
  have cY_1 := HYw13.out.c1
  have cY_2 := HYw13.out.c2
  have cY_3 := HYw13.out.c3
  have lY := HYw13.out.lt
  go_wp2_with fail
  have hm := markOpS_own 0 (.slice (some ⟨gX1, 0, none⟩) os1.length os1.length) qsX1 E1 w13 (by omega) (by rw [HE2.out]; omega) (by omega) HX1w13.out
  rw [HE2.out] at hm
  refine hm.mono ?_
  clear hm
  rintro e w14 ⟨rfl, _, hk⟩
  have hzw14 := hk.size
  have HA0w14 := (show Hid (Box w14 (w.heap.size) (.slice a0a dur0.length c0a) (.slice a0b ps0.length c0b)) from HA0w13.out.kept hk (fun e => by have h1 := HFX1.out _ e; omega))
  have HWw14 := (show Hid (OwnD 0 40 5 w14 (.slice aW nW cW) (.slice aW' nW' cW') rW qsW) from HWw13.out.kept hk (fun b hb e => by have h1 := HFX1.out _ e; have h2 := HFW.out b hb; omega))
  have HZw14 := (show Hid (Blk w14 (w5.heap.size) 31 [.bool dn0, .int .i64 us0, (.slice aW nW cW), (.slice aW' nW' cW')]) from HZw13.out.kept hk (fun e => by have h1 := HFX1.out _ e; omega))
  have HT0w14 := (show Hid (Box w14 (w6.heap.size) (.slice (some ⟨gX0, 0, none⟩) dur0.length dur0.length) (.slice (some ⟨gX0', 0, none⟩) ps0.length ps0.length)) from HT0w13.out.kept hk (fun e => by have h1 := HFX1.out _ e; omega))
  have HGw14 := (show Hid (OwnD 0 40 5 w14 (.slice aG nG cG) (.slice aG' nG' cG') rW qsG) from HGw13.out.kept hk (fun b hb e => by have h1 := HFX1.out _ e; have h2 := HFG.out b hb; omega))
  have HYw14 := (show Hid (Blk w14 (w8.heap.size) 31 [.bool dn0, .int .i64 us0, (.slice aG nG cG), (.slice aG' nG' cG')]) from HYw13.out.kept hk (fun e => by have h1 := HFX1.out _ e; omega))
  have HKw14 := (show Hid (Same w w14) from HKw13.out.next hk (fun b hb e => by have h1 := HFX1.out _ e; omega))
  clear A01 A02 lA0 T01 T02 lT0
  clear cZ_0 cZ_1 cZ_2 cZ_3 lZ cY_0 cY_1 cY_2 cY_3 lY
  clear hk
  have hEn : ¬ E2 < 0 := by omega
  obtain ⟨A01, A02⟩ := HA0w14.out
  have lA0 := HA0w14.out.lt
  have cZ_0 := HZw14.out.c0
  have cZ_1 := HZw14.out.c1
  have cZ_2 := HZw14.out.c2
  have cZ_3 := HZw14.out.c3
  have lZ := HZw14.out.lt
  have cY_0 := HYw14.out.c0
  have cY_1 := HYw14.out.c1
  have cY_2 := HYw14.out.c2
  have cY_3 := HYw14.out.c3
  have lY := HYw14.out.lt
  go_wp2_with fail
  refine (eqOpsResult_own 0 dn0 us0 _ _ _ _ rW qsG qsW _ (by omega) (by omega) HQG.out HSQG.out HGw14.out HWw14.out).mono ?_
  rintro e w15 ⟨rfl, hk⟩
  have hkk : Same w14 w15 := hk
  have hzw15 := hkk.size
  have HA0w15 := hid (HA0w14.out.same hkk)
  have HWw15 := hid (HWw14.out.same hkk)
  have HZw15 := hid (HZw14.out.same hkk)
  have HGw15 := hid (HGw14.out.same hkk)
  have HYw15 := hid (HYw14.out.same hkk)
  have HKw15 := (show Hid (Same w w15) from HKw14.out.trans hkk)
  clear hkk hk
  clear A01 A02 lA0
  clear cZ_0 cZ_1 cZ_2 cZ_3 lZ cY_0 cY_1 cY_2 cY_3 lY
  obtain ⟨M, hM⟩ : ∃ M, endP (1 + (rW.length : Int)) qsG = M := ⟨_, rfl⟩
  have hM0 : 0 ≤ M := by rw [← hM, endP_size]; omega
  have hM1 : M ≤ 1125899906842624 := by rw [← hM, endP_size, dataP_sizeP HQG.out]; omega
  have HM : Hid (endP (1 + (rW.length : Int)) qsG = M) := hM
  clear hM
  have hM2 : ¬ M < 0 := by omega
  obtain ⟨A01, A02⟩ := HA0w15.out
  have lA0 := HA0w15.out.lt
  have cZ_0 := HZw15.out.c0
  have cZ_1 := HZw15.out.c1
  have cZ_2 := HZw15.out.c2
  have cZ_3 := HZw15.out.c3
  have lZ := HZw15.out.lt
  have cY_0 := HYw15.out.c0
  have cY_1 := HYw15.out.c1
  have cY_2 := HYw15.out.c2
  have cY_3 := HYw15.out.c3
  have lY := HYw15.out.lt
  go_wp2_with fail
  have hm := markOpsResult_own 0 dn0 us0 (.slice aG nG cG) (.slice aG' nG' cG') rW qsG 1 w15 (by omega) (by rw [HM.out]; exact hM1) (by omega) HGw15.out
  rw [HM.out] at hm
  refine hm.mono ?_
  clear hm
  rintro e w16 ⟨rfl, ho, hk⟩
  have hzw16 := hk.size
  have HA0w16 := (show Hid (Box w16 (w.heap.size) (.slice a0a dur0.length c0a) (.slice a0b ps0.length c0b)) from HA0w15.out.kept hk (fun e => by have h1 := HFG.out _ e; omega))
  have HWw16 := (show Hid (OwnD 0 40 5 w16 (.slice aW nW cW) (.slice aW' nW' cW') rW qsW) from HWw15.out.kept hk (fun b hb e => by have h1 := HFG.out _ e; have h2 := HFW.out b hb; omega))
  have HZw16 := (show Hid (Blk w16 (w5.heap.size) 31 [.bool dn0, .int .i64 us0, (.slice aW nW cW), (.slice aW' nW' cW')]) from HZw15.out.kept hk (fun e => by have h1 := HFG.out _ e; omega))
  have HYw16 := (show Hid (Blk w16 (w8.heap.size) 31 [.bool dn0, .int .i64 us0, (.slice aG nG cG), (.slice aG' nG' cG')]) from HYw15.out.kept hk (fun e => by have h1 := HFG.out _ e; omega))
  have HKw16 := (show Hid (Same w w16) from HKw15.out.next hk (fun b hb e => by have h1 := HFG.out _ e; omega))
  have HUw16 := (show Hid (OwnD 0 40 5 w16 (.slice aG nG cG) (.slice aG' nG' cG') (marks 1 rW.length) (markP (1 + (rW.length : Int)) qsG)) from ho)
  clear A01 A02 lA0
  clear cZ_0 cZ_1 cZ_2 cZ_3 lZ cY_0 cY_1 cY_2 cY_3 lY
  clear hk ho
  obtain ⟨A01, A02⟩ := HA0w16.out
  have lA0 := HA0w16.out.lt
  have cZ_0 := HZw16.out.c0
  have cZ_1 := HZw16.out.c1
  have cZ_2 := HZw16.out.c2
  have cZ_3 := HZw16.out.c3
  have lZ := HZw16.out.lt
  have cY_0 := HYw16.out.c0
  have cY_1 := HYw16.out.c1
  have cY_2 := HYw16.out.c2
  have cY_3 := HYw16.out.c3
  have lY := HYw16.out.lt
  go_wp2_with fail
  have hm := heldOpsResult_own 0 dn0 us0 (.slice aG nG cG) (.slice aG' nG' cG') rW qsG 1 w16 (by omega) (by rw [HM.out]; exact hM1) (by omega) HUw16.out
  rw [HM.out] at hm
  refine hm.mono ?_
  clear hm
  rintro e w17 ⟨rfl, hk⟩
  have hkk : Same w16 w17 := hk
  have hzw17 := hkk.size
  have HA0w17 := hid (HA0w16.out.same hkk)
  have HWw17 := hid (HWw16.out.same hkk)
  have HZw17 := hid (HZw16.out.same hkk)
  have HYw17 := hid (HYw16.out.same hkk)
  have HUw17 := hid (HUw16.out.same hkk)
  have HKw17 := (show Hid (Same w w17) from HKw16.out.trans hkk)
  clear hkk hk
  clear A01 A02 lA0
  clear cZ_0 cZ_1 cZ_2 cZ_3 lZ cY_0 cY_1 cY_2 cY_3 lY
  obtain ⟨A01, A02⟩ := HA0w17.out
  have lA0 := HA0w17.out.lt
  have cZ_0 := HZw17.out.c0
  have cZ_1 := HZw17.out.c1
  have cZ_2 := HZw17.out.c2
  have cZ_3 := HZw17.out.c3
  have lZ := HZw17.out.lt
  have cY_0 := HYw17.out.c0
  have cY_1 := HYw17.out.c1
  have cY_2 := HYw17.out.c2
  have cY_3 := HYw17.out.c3
  have lY := HYw17.out.lt
  go_wp2_with fail
  refine (toDisk_any _ _ dur0 ps0 _ (by omega) (by omega) (fun p hp => Nat.le_trans (HS0.out p hp) (by omega)) (HV0.out.same HKw17.out)).mono ?_
  rintro e w18 ⟨gJ0, gJ0', qsJ0, rfl, hq, hf, ho, hk⟩
  have HQJ0 : Hid (dataP qsJ0 = dataP ps0) := hq
  have HFJ0 := (show Hid (∀ b, footD (.slice (some ⟨gJ0, 0, none⟩) dur0.length dur0.length) (.slice (some ⟨gJ0', 0, none⟩) ps0.length ps0.length) qsJ0 b → w17.heap.size ≤ b ∧ b < w18.heap.size) from fun b hb => ⟨hf b hb, (ho.lt b hb).2⟩)
  have HJ0w18 := (show Hid (OwnD 0 40 5 w18 (.slice (some ⟨gJ0, 0, none⟩) dur0.length dur0.length) (.slice (some ⟨gJ0', 0, none⟩) ps0.length ps0.length) dur0 qsJ0) from ho)
  clear hf ho hq
  have hkk : Same w17 w18 := hk
  have hzw18 := hkk.size
  have HA0w18 := hid (HA0w17.out.same hkk)
  have HWw18 := hid (HWw17.out.same hkk)
  have HZw18 := hid (HZw17.out.same hkk)
  have HYw18 := hid (HYw17.out.same hkk)
  have HUw18 := hid (HUw17.out.same hkk)
  have HKw18 := (show Hid (Same w w18) from HKw17.out.trans hkk)
  clear hkk hk
  clear A01 A02 lA0
  clear cZ_0 cZ_1 cZ_2 cZ_3 lZ cY_0 cY_1 cY_2 cY_3 lY
  obtain ⟨A01, A02⟩ := HA0w18.out
  have lA0 := HA0w18.out.lt
  have cZ_0 := HZw18.out.c0
  have cZ_1 := HZw18.out.c1
  have cZ_2 := HZw18.out.c2
  have cZ_3 := HZw18.out.c3
  have lZ := HZw18.out.lt
  have cY_0 := HYw18.out.c0
  have cY_1 := HYw18.out.c1
  have cY_2 := HYw18.out.c2
  have cY_3 := HYw18.out.c3
  have lY := HYw18.out.lt
  go_wp2_with fail
  refine (toOpS_any _ os1 _ (by omega) (fun p hp => Nat.le_trans (HS1.out p hp) (by omega)) (HV1.out.same HKw18.out)).mono ?_
  rintro e w19 ⟨gJ1, qsJ1, rfl, hq, hf, ho, hk⟩
  have HQJ1 : Hid (datOpS qsJ1 = datOpS os1) := hq
  have HFJ1 := (show Hid (∀ b, footR kOp (.slice (some ⟨gJ1, 0, none⟩) os1.length os1.length) qsJ1 b → w18.heap.size ≤ b ∧ b < w19.heap.size) from fun b hb => ⟨hf b hb, (ho.lt b hb).2⟩)
  have HJ1w19 := (show Hid (OwnR kOp 0 76 5 w19 (.slice (some ⟨gJ1, 0, none⟩) os1.length os1.length) qsJ1) from ho)
  clear hf ho hq
  have hkk : Same w18 w19 := hk
  have hzw19 := hkk.size
  have HA0w19 := hid (HA0w18.out.same hkk)
  have HWw19 := hid (HWw18.out.same hkk)
  have HZw19 := hid (HZw18.out.same hkk)
  have HYw19 := hid (HYw18.out.same hkk)
  have HUw19 := hid (HUw18.out.same hkk)
  have HJ0w19 := hid (HJ0w18.out.same hkk)
  have HKw19 := (show Hid (Same w w19) from HKw18.out.trans hkk)
  clear hkk hk
  clear A01 A02 lA0
  clear cZ_0 cZ_1 cZ_2 cZ_3 lZ cY_0 cY_1 cY_2 cY_3 lY
  obtain ⟨A01, A02⟩ := HA0w19.out
  have lA0 := HA0w19.out.lt
  have cZ_0 := HZw19.out.c0
  have cZ_1 := HZw19.out.c1
  have cZ_2 := HZw19.out.c2
  have cZ_3 := HZw19.out.c3
  have lZ := HZw19.out.lt
  have cY_0 := HYw19.out.c0
  have cY_1 := HYw19.out.c1
  have cY_2 := HYw19.out.c2
  have cY_3 := HYw19.out.c3
  have lY := HYw19.out.lt
  go_wp2_with fail
  refine (implRunOps_any _ _ dur0 qsJ0 _ qsJ1 s2 _ (by omega) (HT0.out qsJ0 HQJ0.out).1 (HT0.out qsJ0 HQJ0.out).2 (HJ0w19.out.rd) ⟨gJ1, 0, os1.length, by rw [(show qsJ1.length = os1.length from by rw [← datOpS_length, HQJ1.out, datOpS_length])], by rw [(show qsJ1.length = os1.length from by rw [← datOpS_length, HQJ1.out, datOpS_length])]; exact Nat.le_refl _⟩ (HJ1w19.out.rd)).mono ?_
  rintro e w20 ⟨aL, nL, cL, aL', nL', cL', rL, qsL, rfl, hR, hf, ho, hk⟩
  rw [HQJ0.out] at hR
  rw [HQJ1.out] at hR ⊢
  rw [HDN.out, HUS.out]
  obtain ⟨hrr, hq⟩ := hR.one HR.out
  replace hrr := hrr.symm
  subst hrr
  have HQL : Hid (dataP qsL = dataP qsW) := hq
  have hqLl : qsL.length ≤ 2097152 := by rw [← dataP_length, HQL.out, dataP_length]; exact hql
  have HSQL : Hid (∀ p ∈ qsL, p.bs.length ≤ 1125899906842624) := fun p hp => by have := sizeP_mem qsL p hp; rw [dataP_sizeP HQL.out] at this; omega
  clear hq
  have HFL := (show Hid (∀ b, footD (.slice aL nL cL) (.slice aL' nL' cL') qsL b → w19.heap.size ≤ b ∧ b < w20.heap.size) from fun b hb => ⟨hf b hb, (ho.lt b hb).2⟩)
  have HLw20 := (show Hid (OwnD 0 40 5 w20 (.slice aL nL cL) (.slice aL' nL' cL') rW qsL) from ho)
  clear hf ho hR
  have hkk : Same w19 w20 := hk
  have hzw20 := hkk.size
  have HA0w20 := hid (HA0w19.out.same hkk)
  have HWw20 := hid (HWw19.out.same hkk)
  have HZw20 := hid (HZw19.out.same hkk)
  have HYw20 := hid (HYw19.out.same hkk)
  have HUw20 := hid (HUw19.out.same hkk)
  have HJ0w20 := hid (HJ0w19.out.same hkk)
  have HJ1w20 := hid (HJ1w19.out.same hkk)
  have HKw20 := (show Hid (Same w w20) from HKw19.out.trans hkk)
  clear hkk hk
  clear A01 A02 lA0
  clear cZ_0 cZ_1 cZ_2 cZ_3 lZ cY_0 cY_1 cY_2 cY_3 lY
  obtain ⟨A01, A02⟩ := HA0w20.out
  have lA0 := HA0w20.out.lt
  have cZ_0 := HZw20.out.c0
  have cZ_1 := HZw20.out.c1
  have cZ_2 := HZw20.out.c2
  have cZ_3 := HZw20.out.c3
  have lZ := HZw20.out.lt
  have cY_0 := HYw20.out.c0
  have cY_1 := HYw20.out.c1
  have cY_2 := HYw20.out.c2
  have cY_3 := HYw20.out.c3
  have lY := HYw20.out.lt
  go_wp2_with fail
  refine (eqOpsResult_own 0 dn0 us0 _ _ _ _ rW qsL qsW _ (by omega) (by omega) HQL.out HSQL.out (HLw20.out.same ((Kept.refl _ _).alloc _)) (HWw20.out.same ((Kept.refl _ _).alloc _))).mono ?_
  rintro e w21 ⟨rfl, hk⟩
  have hkk : Same w20 w21 := ((Kept.refl _ _).alloc _).trans hk
  have hzw21 := hk.size
  rw [World.size_alloc] at hzw21
  have HA0w21 := hid (HA0w20.out.same hkk)
  have HWw21 := hid (HWw20.out.same hkk)
  have HZw21 := hid (HZw20.out.same hkk)
  have HYw21 := hid (HYw20.out.same hkk)
  have HUw21 := hid (HUw20.out.same hkk)
  have HLw21 := hid (HLw20.out.same hkk)
  have HVw21 := (show Hid (Blk w21 (w20.heap.size) 31 [.bool dn0, .int .i64 us0, (.slice aL nL cL), (.slice aL' nL' cL')]) from (Blk.new w20 #[.bool dn0, .int .i64 us0, (.slice aL nL cL), (.slice aL' nL' cL')] 31).same hk)
  have HKw21 := (show Hid (Same w w21) from HKw20.out.trans hkk)
  clear hkk hk
  clear A01 A02 lA0
  clear cZ_0 cZ_1 cZ_2 cZ_3 lZ cY_0 cY_1 cY_2 cY_3 lY
  obtain ⟨A01, A02⟩ := HA0w21.out
  have lA0 := HA0w21.out.lt
  have cY_0 := HYw21.out.c0
  have cY_1 := HYw21.out.c1
  have cY_2 := HYw21.out.c2
  have cY_3 := HYw21.out.c3
  have lY := HYw21.out.lt
  go_wp2_with fail
  have hm := heldOpsResult_own 0 dn0 us0 (.slice aG nG cG) (.slice aG' nG' cG') rW qsG 1 w21 (by omega) (by rw [HM.out]; exact hM1) (by omega) HUw21.out
  rw [HM.out] at hm
  refine hm.mono ?_
  clear hm
  rintro e w22 ⟨rfl, hk⟩
  have hkk : Same w21 w22 := hk
  have hzw22 := hkk.size
  have HA0w22 := hid (HA0w21.out.same hkk)
  have HYw22 := hid (HYw21.out.same hkk)
  have HUw22 := hid (HUw21.out.same hkk)
  have HKw22 := (show Hid (Same w w22) from HKw21.out.trans hkk)
  clear hkk hk
  clear A01 A02 lA0
  clear cY_0 cY_1 cY_2 cY_3 lY
  go_wp2
  go_ret
  exact ⟨rfl, HKw22.out⟩
end Go.Proofs.Ytfhdkbibcndmjaa

namespace Go.Proofs.Ytfhdkbibcndmjaa.fnExactRunOps
open Go.ChangeShapes Go.WideShapes Go.ChangeAt Go.RowKit
set_option linter.unusedVariables false
theorem own : ownKnob Try.prog.godebug = none := by kernel_rfl
theorem laidOut : laidOutB Try.prog = true := by kernel_rfl
set_option maxRecDepth 100000 in
theorem lifted (os : Os) (started : os.Started) (H : Type) (enc : TypeId × Value → H) :
    ReturnsInHanded {} Try.checked os 6 .any (Rows.fnExactRunOpsSpec.pre6 enc Try.prog Try.f6 Rows.fnExactRunOpsRow.domain false) (Rows.fnExactRunOpsSpec.post enc Try.prog Try.f6 false true false false) := by
  refine returnsInHanded_of_change (C := Try.checked) own started (by kernel_rfl) Try.func6
    (ChangeSpec.witness6 (enc := enc) (C := Try.checked) false ⟨#[], #[.agg #[.slice none 0 0, .slice none 0 0], .slice none 0 0, .int .i64 0], []⟩ 8 (by kernel_rfl) (by kernel_rfl) (by kernel_rfl) (by kernel_rfl)) ?_
  intro W base args ds gs before hval0 hW hcnd _
  have hval : ∀ (j : Nat) t v, Try.f6.params[j]? = some t → args[j]? = some v → Value.okWide Try.prog W .any base t v := hval0
  have hW' := hW
  obtain ⟨p, q, hA0, hV, rfl, hfz, hnd⟩ := hW
  have hA : DataW.TrodAll enc Try.prog W 0 (fun _ => true) true Try.f6.params.toList args.toList ds p := hA0
  rw [Try.params6] at hA hval
  obtain ⟨v0, vs0, d0, ds0, p0, q0, hargs, rfl, rfl, h0, r0⟩ := trodAll_cons hA
  obtain ⟨v1, vs1, d1, ds1, p1, q1, rfl, rfl, rfl, h1, r1⟩ := trodAll_cons r0
  obtain ⟨v2, vs2, d2, ds2, p2, q2, rfl, rfl, rfl, h2, r2⟩ := trodAll_cons r1
  obtain ⟨rfl, rfl, rfl⟩ := trodAll_nil r2
  obtain rfl : args = #[v0, v1, v2] := by cases args; simp_all
  obtain ⟨rfl, rfl⟩ := trodVars_none hV
  have k0 := h0
  have lt0 : ∀ x ∈ p0, x.block < W.heap.size := by obtain ⟨m, hm⟩ := k0; exact DataW.trod_lt m _ _ _ hm
  obtain ⟨dv0, pv0, dur0, ps0, rfl, rd0⟩ := open_disk (hval 0 45 v0 rfl rfl) h0
  have k1 := h1
  have lt1 : ∀ x ∈ p1, x.block < W.heap.size := by obtain ⟨m, hm⟩ := k1; exact DataW.trod_lt m _ _ _ hm
  obtain ⟨x1, rd1⟩ := open_ops (hval 1 57 v1 rfl rfl) h1
  obtain ⟨a2, rfl, rfl, rfl, w2⟩ := open_int Try.underlying2 (hval 2 2 v2 rfl rfl) h2
  clear hA0 hval0
  refine (runOps_law dv0 pv0 dur0 ps0 v1 x1 a2 W rd0 rd1).mono fun e W' ⟨he, hk⟩ => ?_
  have bel : Below W.heap.size W W' := hk.below (Nat.le_refl _) (fun _ _ => id)
  subst he
  exact ⟨_, rfl, _, _, _, [], _, [], hW', trodAll_mk1 (shut_bool Try.underlying4 _), (trodAll_cons_mk (Below.trod laidOut (by kernel_rfl) (of_decide_eq_true (by kernel_rfl)) k0 bel lt0) (trodAll_cons_mk (Below.trod laidOut (by kernel_rfl) (of_decide_eq_true (by kernel_rfl)) k1 bel lt1) (trodAll_cons_mk (shut_int Try.underlying2 w2) trodAll_mk0))), rfl, bel.frame _, fun h => by cases h⟩
theorem over : Rows.fnExactRunOpsRow.holds Try.pinned (OpenSpec.ofChange Rows.fnExactRunOpsSpec) :=
  OpenClaim.holds_of_wide 6 Try.f6 rfl rfl rfl rfl rfl rfl rfl ⟨rfl, rfl, rfl, rfl, rfl⟩ rfl rfl rfl rfl rfl (by kernel_rfl) Try.func6 (by kernel_rfl)
    (of_decide_eq_true (by kernel_rfl)) (by unfold Func.isWrapper; first | (rw [if_pos (by decide +kernel)]; kernel_rfl) | (rw [if_neg (by decide +kernel)]; exact ⟨rfl, rfl⟩))
    (fun os started H enc _ => lifted os started H enc)
end Go.Proofs.Ytfhdkbibcndmjaa.fnExactRunOps
namespace Go.Proofs.Ytfhdkbibcndmjaa
theorem runOps_proved : Rows.FnExactRunOpsSaid := fnExactRunOps.over
#print axioms runOps_proved
end Go.Proofs.Ytfhdkbibcndmjaa
