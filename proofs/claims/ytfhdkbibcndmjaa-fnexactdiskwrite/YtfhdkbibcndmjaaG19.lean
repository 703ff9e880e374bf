import Derived.Test.YtfhdkbibcndmjaaG06
import Derived.Test.YtfhdkbibcndmjaaAnsSmall
import Derived.Test.YtfhdkbibcndmjaaOpen
import Derived.Deep.DeepCutAuto
namespace Go.Proofs.Ytfhdkbibcndmjaa
set_option maxRecDepth 100000
set_option maxHeartbeats 16000000
open Go.RowKit
set_option linter.unusedVariables false
theorem IsWrite.small {s : Int} {bs dur r : List Int} {ps qs : List PW} (h : IsWrite s bs dur (dataP ps) r (dataP qs)) (hd : dur.length ≤ 1048576) (hp : ps.length ≤ 1048576) (hsz : sizeP ps ≤ 1048576) : r.length ≤ 1048576 ∧ qs.length ≤ 2097152 ∧ sizeP qs ≤ 2097152 := by
  refine Ans.small h (fun hv => Nat.le_of_eq (roomD_valid hv.1).1) (fun hv => ?_) hd hp hsz
  by_cases hf : (dataP ps).length = 8192
  · refine ⟨[⟨s, .slice none 0 0, bs⟩], ?_, by simp, ?_⟩
    · unfold putD roomD; rw [if_pos hf]; rfl
    · have := hv.2.2.2; simp [sizeP]; omega
  · refine ⟨ps ++ [⟨s, .slice none 0 0, bs⟩], ?_, by simp; omega, ?_⟩
    · unfold putD roomD; rw [if_neg hf]; simp [dataP]
    · have := hv.2.2.2; rw [sizeP_append]; simp [sizeP]; omega
theorem diskWrite_law (dv0 pv0 : Value) (dur0 : List Int) (ps0 : List PW) (s1 : Int) (v2 : Value) (bs2 : List Int) (w : World) (hv0 : RdD w dv0 pv0 dur0 ps0) (hv2 : Rd .u8 w v2 bs2) :
    Calls Try.prog 4 #[.agg #[dv0, pv0], .int .i64 s1, v2] w fun e w' => e = .returned (.bool true) ∧ Same w w' := by
  obtain ⟨a0a, c0a, rfl⟩ := hv0.dur.form
  obtain ⟨a0b, c0b, rfl⟩ := hv0.pend.form
  have HV0 := (show Hid (RdD w (.slice a0a dur0.length c0a) (.slice a0b ps0.length c0b) dur0 ps0) from hv0)
  clear hv0
  obtain ⟨a2a, c2a, rfl⟩ := hv2.form
  have hm2 := hv2.1
  unfold maxLen at hm2
  have HV2 := (show Hid (Rd .u8 w (.slice a2a bs2.length c2a) bs2) from hv2)
  clear hv2
  go_enter Try.func4, Try.ntmps4
  have HKw : Hid (Same w w) := Kept.refl _ _
  by_cases hb2 : (1048576 : Int) < (bs2.length : Int)
  · go_wp2
    go_ret
    exact ⟨rfl, by first | exact Kept.refl _ _ | exact (Kept.refl _ _).alloc _ | exact ((Kept.refl _ _).alloc _).alloc _⟩
  go_wp2_with fail
  refine (szDisk_any _ _ dur0 ps0 _ _ (by omega) (by omega) (HV0.out.same ((Kept.refl _ _).alloc _))).mono ?_
  rintro e w1 ⟨sz0, rfl, hr, hk⟩
  have hkk : Same w w1 := ((Kept.refl _ _).alloc _).trans hk
  have hzw1 := hk.size
  rw [World.size_alloc] at hzw1
  have HA0w1 := (show Hid (Box w1 (w.heap.size) (.slice a0a dur0.length c0a) (.slice a0b ps0.length c0b)) from (Box.new _ _ _ _).same hk)
  have HKw1 := (show Hid (Same w w1) from HKw.out.trans hkk)
  clear hkk hk
  rcases hr with rfl | ⟨hr, hr0⟩
  · go_wp2
    go_ret
    exact ⟨rfl, HKw1.out⟩
  have hd0 : dur0.length ≤ 1048576 := by omega
  have hp0 : ps0.length ≤ 1048576 := by omega
  have hsz0 : sizeP ps0 ≤ 1048576 := by omega
  have HS0 : Hid (∀ p ∈ ps0, p.bs.length ≤ 1048576) := fun p hp => by have := sizeP_mem ps0 p hp; omega
  have HT0 : Hid (∀ qs : List PW, dataP qs = dataP ps0 → qs.length ≤ 1073741824 ∧ ∀ p ∈ qs, p.bs.length ≤ 1099511627776) := fun qs hq => ⟨by rw [← dataP_length, hq, dataP_length]; omega, fun p hp => by have := sizeP_mem qs p hp; rw [dataP_sizeP hq] at this; omega⟩
  clear hr
  obtain ⟨A01, A02⟩ := HA0w1.out
  have lA0 := HA0w1.out.lt
  go_wp2_with fail
  refine (toDisk_any _ _ dur0 ps0 _ (by omega) (by omega) (fun p hp => Nat.le_trans (HS0.out p hp) (by omega)) (HV0.out.same HKw1.out)).mono ?_
  rintro e w2 ⟨gC0, gC0', qsC0, rfl, hq, hf, ho, hk⟩
  have HQC0 : Hid (dataP qsC0 = dataP ps0) := hq
  have HFC0 := (show Hid (∀ b, footD (.slice (some ⟨gC0, 0, none⟩) dur0.length dur0.length) (.slice (some ⟨gC0', 0, none⟩) ps0.length ps0.length) qsC0 b → w1.heap.size ≤ b ∧ b < w2.heap.size) from fun b hb => ⟨hf b hb, (ho.lt b hb).2⟩)
  have HC0w2 := (show Hid (OwnD 0 40 5 w2 (.slice (some ⟨gC0, 0, none⟩) dur0.length dur0.length) (.slice (some ⟨gC0', 0, none⟩) ps0.length ps0.length) dur0 qsC0) from ho)
  clear hf ho hq
  have hkk : Same w1 w2 := hk
  have hzw2 := hkk.size
  have HA0w2 := hid (HA0w1.out.same hkk)
  have HKw2 := (show Hid (Same w w2) from HKw1.out.trans hkk)
  clear hkk hk
  clear A01 A02 lA0
  obtain ⟨A01, A02⟩ := HA0w2.out
  have lA0 := HA0w2.out.lt
  go_wp2_with fail
  refine (toByteS_any _ bs2 _ (by omega) (HV2.out.same HKw2.out)).mono ?_
  rintro e w3 ⟨gC2, rfl, hf, ho, hk⟩
  have hf : ∀ b, (Value.slice (some ⟨gC2, 0, none⟩) bs2.length bs2.length).ownBlock = some b → _ ≤ b := fun b hb => by rw [← (Option.some.inj hb : gC2 = b)]; exact hf
  have HFC2 := (show Hid (∀ b, (Value.slice (some ⟨gC2, 0, none⟩) bs2.length bs2.length).ownBlock = some b → w2.heap.size ≤ b ∧ b < w3.heap.size) from fun b hb => ⟨hf b hb, (ho.lt b hb).2⟩)
  have HC2w3 := (show Hid (Own 0 5 .u8 w3 (.slice (some ⟨gC2, 0, none⟩) bs2.length bs2.length) bs2) from ho)
  clear hf ho
  have hkk : Same w2 w3 := hk
  have hzw3 := hkk.size
  have HA0w3 := hid (HA0w2.out.same hkk)
  have HC0w3 := hid (HC0w2.out.same hkk)
  have HKw3 := (show Hid (Same w w3) from HKw2.out.trans hkk)
  clear hkk hk
  clear A01 A02 lA0
  obtain ⟨A01, A02⟩ := HA0w3.out
  have lA0 := HA0w3.out.lt
  go_wp2_with fail
  refine (specWrite_any _ _ dur0 qsC0 s1 _ bs2 _ (by omega) (HT0.out qsC0 HQC0.out).1 (HT0.out qsC0 HQC0.out).2 (HC0w3.out.rd) (by omega) (HC2w3.out.rd)).mono ?_
  rintro e w4 ⟨aW, nW, cW, aW', nW', cW', rW, qsW, rfl, hR, hf, ho, hk⟩
  rw [HQC0.out] at hR
  have HR := (show Hid (IsWrite s1 bs2 dur0 (dataP ps0) rW (dataP qsW)) from hR)
  obtain ⟨hrl, hql, hqs⟩ := IsWrite.small hR hd0 hp0 hsz0
  have hqWl : qsW.length ≤ 2097152 := hql
  have HSQW : Hid (∀ p ∈ qsW, p.bs.length ≤ 1125899906842624) := fun p hp => by have := sizeP_mem qsW p hp; omega
  have HFW := (show Hid (∀ b, footD (.slice aW nW cW) (.slice aW' nW' cW') qsW b → w3.heap.size ≤ b ∧ b < w4.heap.size) from fun b hb => ⟨hf b hb, (ho.lt b hb).2⟩)
  have HWw4 := (show Hid (OwnD 0 40 5 w4 (.slice aW nW cW) (.slice aW' nW' cW') rW qsW) from ho)
  clear hf ho hR
  have hkk : Same w3 w4 := hk
  have hzw4 := hkk.size
  have HA0w4 := hid (HA0w3.out.same hkk)
  have HC0w4 := hid (HC0w3.out.same hkk)
  have HC2w4 := hid (HC2w3.out.same hkk)
  have HKw4 := (show Hid (Same w w4) from HKw3.out.trans hkk)
  clear hkk hk
  clear A01 A02 lA0
  obtain ⟨A01, A02⟩ := HA0w4.out
  have lA0 := HA0w4.out.lt
  go_wp2_with fail
  refine (toDisk_any _ _ dur0 ps0 _ (by omega) (by omega) (fun p hp => Nat.le_trans (HS0.out p hp) (by omega)) (HV0.out.same (HKw4.out.alloc _))).mono ?_
  rintro e w5 ⟨gX0, gX0', qsX0, rfl, hq, hf, ho, hk⟩
  have HQX0 : Hid (dataP qsX0 = dataP ps0) := hq
  simp only [World.size_alloc] at hf
  have HFX0 := (show Hid (∀ b, footD (.slice (some ⟨gX0, 0, none⟩) dur0.length dur0.length) (.slice (some ⟨gX0', 0, none⟩) ps0.length ps0.length) qsX0 b → w4.heap.size < b ∧ b < w5.heap.size) from fun b hb => ⟨by have := hf b hb; omega, (ho.lt b hb).2⟩)
  have HX0w5 := (show Hid (OwnD 0 40 5 w5 (.slice (some ⟨gX0, 0, none⟩) dur0.length dur0.length) (.slice (some ⟨gX0', 0, none⟩) ps0.length ps0.length) dur0 qsX0) from ho)
  clear hf ho hq
  have hkk : Same w4 w5 := ((Kept.refl _ _).alloc _).trans hk
  have hzw5 := hk.size
  rw [World.size_alloc] at hzw5
  have HA0w5 := hid (HA0w4.out.same hkk)
  have HWw5 := hid (HWw4.out.same hkk)
  have HZw5 := (show Hid (Box w5 (w4.heap.size) (.slice aW nW cW) (.slice aW' nW' cW')) from (Box.new _ _ _ _).same hk)
  have HKw5 := (show Hid (Same w w5) from HKw4.out.trans hkk)
  clear hkk hk
  clear A01 A02 lA0
  obtain ⟨A01, A02⟩ := HA0w5.out
  have lA0 := HA0w5.out.lt
  obtain ⟨Z1, Z2⟩ := HZw5.out
  have lZ := HZw5.out.lt
  go_wp2_with fail
  refine (toByteS_any _ bs2 _ (by omega) (HV2.out.same (HKw5.out.alloc _))).mono ?_
  rintro e w6 ⟨gX2, rfl, hf, ho, hk⟩
  have hf : ∀ b, (Value.slice (some ⟨gX2, 0, none⟩) bs2.length bs2.length).ownBlock = some b → _ ≤ b := fun b hb => by rw [← (Option.some.inj hb : gX2 = b)]; exact hf
  simp only [World.size_alloc] at hf
  have HFX2 := (show Hid (∀ b, (Value.slice (some ⟨gX2, 0, none⟩) bs2.length bs2.length).ownBlock = some b → w5.heap.size < b ∧ b < w6.heap.size) from fun b hb => ⟨by have := hf b hb; omega, (ho.lt b hb).2⟩)
  have HX2w6 := (show Hid (Own 0 5 .u8 w6 (.slice (some ⟨gX2, 0, none⟩) bs2.length bs2.length) bs2) from ho)
  clear hf ho
  have hkk : Same w5 w6 := ((Kept.refl _ _).alloc _).trans hk
  have hzw6 := hk.size
  rw [World.size_alloc] at hzw6
  have HA0w6 := hid (HA0w5.out.same hkk)
  have HWw6 := hid (HWw5.out.same hkk)
  have HZw6 := hid (HZw5.out.same hkk)
  have HX0w6 := hid (HX0w5.out.same hkk)
  have HT0w6 := (show Hid (Box w6 (w5.heap.size) (.slice (some ⟨gX0, 0, none⟩) dur0.length dur0.length) (.slice (some ⟨gX0', 0, none⟩) ps0.length ps0.length)) from (Box.new _ _ _ _).same hk)
  have HKw6 := (show Hid (Same w w6) from HKw5.out.trans hkk)
  clear hkk hk
  clear A01 A02 lA0 Z1 Z2 lZ
  obtain ⟨A01, A02⟩ := HA0w6.out
  have lA0 := HA0w6.out.lt
  obtain ⟨Z1, Z2⟩ := HZw6.out
  have lZ := HZw6.out.lt
  obtain ⟨T01, T02⟩ := HT0w6.out
  have lT0 := HT0w6.out.lt
  go_wp2_with fail
  refine (implWrite_any _ _ dur0 qsX0 s1 _ bs2 _ (by omega) (HT0.out qsX0 HQX0.out).1 (HT0.out qsX0 HQX0.out).2 (HX0w6.out.rd) (by omega) (HX2w6.out.rd)).mono ?_
  rintro e w7 ⟨aG, nG, cG, aG', nG', cG', rG, qsG, rfl, hR, hf, ho, hk⟩
  rw [HQX0.out] at hR
  obtain ⟨hrr, hq⟩ := hR.one HR.out
  replace hrr := hrr.symm
  subst hrr
  have HQG : Hid (dataP qsG = dataP qsW) := hq
  have hqGl : qsG.length ≤ 2097152 := by rw [← dataP_length, HQG.out, dataP_length]; exact hql
  have HSQG : Hid (∀ p ∈ qsG, p.bs.length ≤ 1125899906842624) := fun p hp => by have := sizeP_mem qsG p hp; rw [dataP_sizeP HQG.out] at this; omega
  clear hq
  have HFG := (show Hid (∀ b, footD (.slice aG nG cG) (.slice aG' nG' cG') qsG b → w6.heap.size ≤ b ∧ b < w7.heap.size) from fun b hb => ⟨hf b hb, (ho.lt b hb).2⟩)
  have HGw7 := (show Hid (OwnD 0 40 5 w7 (.slice aG nG cG) (.slice aG' nG' cG') rW qsG) from ho)
  clear hf ho hR
  have hkk : Same w6 w7 := hk
  have hzw7 := hkk.size
  have HA0w7 := hid (HA0w6.out.same hkk)
  have HWw7 := hid (HWw6.out.same hkk)
  have HZw7 := hid (HZw6.out.same hkk)
  have HX0w7 := hid (HX0w6.out.same hkk)
  have HT0w7 := hid (HT0w6.out.same hkk)
  have HX2w7 := hid (HX2w6.out.same hkk)
  have HKw7 := (show Hid (Same w w7) from HKw6.out.trans hkk)
  clear hkk hk
  clear A01 A02 lA0 Z1 Z2 lZ T01 T02 lT0
  obtain ⟨A01, A02⟩ := HA0w7.out
  have lA0 := HA0w7.out.lt
  obtain ⟨Z1, Z2⟩ := HZw7.out
  have lZ := HZw7.out.lt
  obtain ⟨T01, T02⟩ := HT0w7.out
  have lT0 := HT0w7.out.lt
  go_wp2_with fail
  refine (eqDisk_own 0 _ _ _ _ rW qsG qsW _ (by omega) (by omega) HQG.out HSQG.out (HGw7.out.same ((Kept.refl _ _).alloc _)) (HWw7.out.same ((Kept.refl _ _).alloc _))).mono ?_
  rintro e w8 ⟨rfl, hk⟩
  have hkk : Same w7 w8 := ((Kept.refl _ _).alloc _).trans hk
  have hzw8 := hk.size
  rw [World.size_alloc] at hzw8
  have HA0w8 := hid (HA0w7.out.same hkk)
  have HWw8 := hid (HWw7.out.same hkk)
  have HZw8 := hid (HZw7.out.same hkk)
  have HX0w8 := hid (HX0w7.out.same hkk)
  have HT0w8 := hid (HT0w7.out.same hkk)
  have HX2w8 := hid (HX2w7.out.same hkk)
  have HGw8 := hid (HGw7.out.same hkk)
  have HYw8 := (show Hid (Box w8 (w7.heap.size) (.slice aG nG cG) (.slice aG' nG' cG')) from (Box.new _ _ _ _).same hk)
  have HKw8 := (show Hid (Same w w8) from HKw7.out.trans hkk)
  clear hkk hk
  clear A01 A02 lA0 Z1 Z2 lZ T01 T02 lT0
  obtain ⟨A01, A02⟩ := HA0w8.out
  have lA0 := HA0w8.out.lt
  obtain ⟨Z1, Z2⟩ := HZw8.out
  have lZ := HZw8.out.lt
  obtain ⟨T01, T02⟩ := HT0w8.out
  have lT0 := HT0w8.out.lt
  obtain ⟨Y1, Y2⟩ := HYw8.out
  have lY := HYw8.out.lt
  go_wp2_with fail
  go_cut [46] (fun v wc => v = .bool false ∧ Hid (Same w8 wc))
  case first =>
    have HD1 : Hid (Same w w8.drew) := HKw8.out.drew
    have HD2 : Hid (Same w8 w8.drew) := (Kept.refl _ _).drew
    go_region_with (first | (go_at_call 21; refine (toDisk_any _ _ dur0 ps0 _ (by omega) (by omega) (fun p hp => Nat.le_trans (HS0.out p hp) (by omega)) (by exact HV0.out.same HD1.out)).mono ?_; rintro e wx7 ⟨g3, g3', qs7, rfl, hq3, hf3, ho3, hk7⟩; obtain ⟨y1, y2⟩ := HT0w8.out.same (HD2.out.trans hk7); have HO7 := (show Hid (OwnD 0 40 5 wx7 (.slice (some ⟨g3, 0, none⟩) dur0.length dur0.length) (.slice (some ⟨g3', 0, none⟩) ps0.length ps0.length) dur0 qs7) from ho3); have HQ7 : Hid (dataP qs7 = dataP ps0) := hq3; have HK7 : Hid (Same w8 wx7) := HD2.out.trans hk7; clear ho3 hq3 hf3 hk7) | (go_at_call 24; refine (eqDisk_own 0 _ _ _ _ dur0 qsX0 qs7 _ (by omega) (by have h := (HT0.out qsX0 HQX0.out).1; omega) (HQX0.out.trans HQ7.out.symm) (fun p hp => Nat.le_trans ((HT0.out qsX0 HQX0.out).2 p hp) (by omega)) (HX0w8.out.same HK7.out) HO7.out).mono ?_; rintro e wx8 ⟨rfl, hk8⟩))
    all_goals
      have HK8 : Hid (Same w8 wx8) := HK7.out.trans hk8
      clear hk8
      go_wp2_with fail
      go_meet
      case rel => exact ⟨rfl, HK8⟩
  case rest =>
  obtain ⟨rfl, HKC⟩ := hcut
  obtain ⟨w9, hwc⟩ : ∃ x, x = wc := ⟨_, rfl⟩
  subst hwc
  clear A01 A02 lA0 Z1 Z2 lZ T01 T02 lT0 Y1 Y2 lY
  have hkk : Same w8 w9 := HKC.out
  have hzw9 := hkk.size
  have HA0w9 := hid (HA0w8.out.same hkk)
  have HWw9 := hid (HWw8.out.same hkk)
  have HZw9 := hid (HZw8.out.same hkk)
  have HX0w9 := hid (HX0w8.out.same hkk)
  have HT0w9 := hid (HT0w8.out.same hkk)
  have HX2w9 := hid (HX2w8.out.same hkk)
  have HGw9 := hid (HGw8.out.same hkk)
  have HYw9 := hid (HYw8.out.same hkk)
  have HKw9 := (show Hid (Same w w9) from HKw8.out.trans hkk)
  clear hkk
  obtain ⟨A01, A02⟩ := HA0w9.out
  have lA0 := HA0w9.out.lt
  obtain ⟨Z1, Z2⟩ := HZw9.out
  have lZ := HZw9.out.lt
  obtain ⟨T01, T02⟩ := HT0w9.out
  have lT0 := HT0w9.out.lt
  obtain ⟨Y1, Y2⟩ := HYw9.out
  have lY := HYw9.out.lt
  go_wp2_with fail
  refine (toByteS_any _ bs2 _ (by omega) (HV2.out.same HKw9.out)).mono ?_
  rintro e w10 ⟨gD2, rfl, hf, ho, hk⟩
  have hf : ∀ b, (Value.slice (some ⟨gD2, 0, none⟩) bs2.length bs2.length).ownBlock = some b → _ ≤ b := fun b hb => by rw [← (Option.some.inj hb : gD2 = b)]; exact hf
  have HFD2 := (show Hid (∀ b, (Value.slice (some ⟨gD2, 0, none⟩) bs2.length bs2.length).ownBlock = some b → w9.heap.size ≤ b ∧ b < w10.heap.size) from fun b hb => ⟨hf b hb, (ho.lt b hb).2⟩)
  have HD2w10 := (show Hid (Own 0 5 .u8 w10 (.slice (some ⟨gD2, 0, none⟩) bs2.length bs2.length) bs2) from ho)
  clear hf ho
  have hkk : Same w9 w10 := hk
  have hzw10 := hkk.size
  have HA0w10 := hid (HA0w9.out.same hkk)
  have HWw10 := hid (HWw9.out.same hkk)
  have HZw10 := hid (HZw9.out.same hkk)
  have HX0w10 := hid (HX0w9.out.same hkk)
  have HT0w10 := hid (HT0w9.out.same hkk)
  have HX2w10 := hid (HX2w9.out.same hkk)
  have HGw10 := hid (HGw9.out.same hkk)
  have HYw10 := hid (HYw9.out.same hkk)
  have HKw10 := (show Hid (Same w w10) from HKw9.out.trans hkk)
  clear hkk hk
  clear A01 A02 lA0 Z1 Z2 lZ T01 T02 lT0 Y1 Y2 lY
  obtain ⟨A01, A02⟩ := HA0w10.out
  have lA0 := HA0w10.out.lt
  obtain ⟨Z1, Z2⟩ := HZw10.out
  have lZ := HZw10.out.lt
  obtain ⟨T01, T02⟩ := HT0w10.out
  have lT0 := HT0w10.out.lt
  obtain ⟨Y1, Y2⟩ := HYw10.out
  have lY := HYw10.out.lt
  go_wp2_with fail
  refine (eqByteS_own 0 _ _ bs2 _ (by omega) HX2w10.out HD2w10.out).mono ?_
  rintro e w11 ⟨rfl, nn, hww⟩
  have hk : Same w10 w11 := by rw [hww]; exact (Kept.refl _ _).drewN _
  clear hww
  have hkk : Same w10 w11 := hk
  have hzw11 := hkk.size
  have HA0w11 := hid (HA0w10.out.same hkk)
  have HWw11 := hid (HWw10.out.same hkk)
  have HZw11 := hid (HZw10.out.same hkk)
  have HX0w11 := hid (HX0w10.out.same hkk)
  have HT0w11 := hid (HT0w10.out.same hkk)
  have HX2w11 := hid (HX2w10.out.same hkk)
  have HGw11 := hid (HGw10.out.same hkk)
  have HYw11 := hid (HYw10.out.same hkk)
  have HKw11 := (show Hid (Same w w11) from HKw10.out.trans hkk)
  clear hkk hk
  clear A01 A02 lA0 Z1 Z2 lZ T01 T02 lT0 Y1 Y2 lY
  have hE0 : (0 : Int) ≤ 1 := by omega
  have hE0b : (1 : Int) ≤ 1 := by omega
  have hqlX0 : qsX0.length = ps0.length := by rw [← dataP_length, HQX0.out, dataP_length]
  obtain ⟨E1, hE⟩ : ∃ E, endP (1 + (dur0.length : Int)) qsX0 = E := ⟨_, rfl⟩
  have hE1 : 0 ≤ E1 := by rw [← hE, endP_size]; omega
  have hE1b : E1 ≤ 5000001 := by rw [← hE, endP_size, dataP_sizeP HQX0.out]; omega
  have HE1 : Hid (endP (1 + (dur0.length : Int)) qsX0 = E1) := hE
  clear hE
  obtain ⟨A01, A02⟩ := HA0w11.out
  have lA0 := HA0w11.out.lt
  obtain ⟨Z1, Z2⟩ := HZw11.out
  have lZ := HZw11.out.lt
  obtain ⟨T01, T02⟩ := HT0w11.out
  have lT0 := HT0w11.out.lt
  obtain ⟨Y1, Y2⟩ := HYw11.out
  have lY := HYw11.out.lt
  go_wp2_with fail
  have hm := markDisk_own 0 (.slice (some ⟨gX0, 0, none⟩) dur0.length dur0.length) (.slice (some ⟨gX0', 0, none⟩) ps0.length ps0.length) dur0 qsX0 1 w11 (by omega) (by rw [HE1.out]; omega) (by omega) HX0w11.out
  rw [HE1.out] at hm
  refine hm.mono ?_
  clear hm
  rintro e w12 ⟨rfl, _, hk⟩
  have hzw12 := hk.size
  have HA0w12 := (show Hid (Box w12 (w.heap.size) (.slice a0a dur0.length c0a) (.slice a0b ps0.length c0b)) from HA0w11.out.kept hk (fun e => by have h1 := HFX0.out _ e; omega))
  have HWw12 := (show Hid (OwnD 0 40 5 w12 (.slice aW nW cW) (.slice aW' nW' cW') rW qsW) from HWw11.out.kept hk (fun b hb e => by have h1 := HFX0.out _ e; have h2 := HFW.out b hb; omega))
  have HZw12 := (show Hid (Box w12 (w4.heap.size) (.slice aW nW cW) (.slice aW' nW' cW')) from HZw11.out.kept hk (fun e => by have h1 := HFX0.out _ e; omega))
  have HT0w12 := (show Hid (Box w12 (w5.heap.size) (.slice (some ⟨gX0, 0, none⟩) dur0.length dur0.length) (.slice (some ⟨gX0', 0, none⟩) ps0.length ps0.length)) from HT0w11.out.kept hk (fun e => by have h1 := HFX0.out _ e; omega))
  have HX2w12 := (show Hid (Own 0 5 .u8 w12 (.slice (some ⟨gX2, 0, none⟩) bs2.length bs2.length) bs2) from HX2w11.out.kept hk (fun b hb e => by have h1 := HFX0.out _ e; have h2 := HFX2.out b hb; omega))
  have HGw12 := (show Hid (OwnD 0 40 5 w12 (.slice aG nG cG) (.slice aG' nG' cG') rW qsG) from HGw11.out.kept hk (fun b hb e => by have h1 := HFX0.out _ e; have h2 := HFG.out b hb; omega))
  have HYw12 := (show Hid (Box w12 (w7.heap.size) (.slice aG nG cG) (.slice aG' nG' cG')) from HYw11.out.kept hk (fun e => by have h1 := HFX0.out _ e; omega))
  have HKw12 := (show Hid (Same w w12) from HKw11.out.next hk (fun b hb e => by have h1 := HFX0.out _ e; omega))
  clear A01 A02 lA0 Z1 Z2 lZ T01 T02 lT0 Y1 Y2 lY
  clear hk
  obtain ⟨A01, A02⟩ := HA0w12.out
  have lA0 := HA0w12.out.lt
  obtain ⟨Z1, Z2⟩ := HZw12.out
  have lZ := HZw12.out.lt
  obtain ⟨T01, T02⟩ := HT0w12.out
  have lT0 := HT0w12.out.lt
  obtain ⟨Y1, Y2⟩ := HYw12.out
  have lY := HYw12.out.lt
  go_wp2_with fail
  refine (markByteS_own 0 _ bs2 E1 _ (by omega) (by omega) (by omega) HX2w12.out).mono ?_
  rintro e w13 ⟨rfl, _, hk⟩
  obtain ⟨E2, hE⟩ : ∃ E : Int, E1 + (bs2.length : Int) = E := ⟨_, rfl⟩
  have hE2 : 0 ≤ E2 := by omega
  have hE2b : E2 ≤ 10000001 := by omega
  rw [hE]
  clear hE
  have hzw13 := hk.size
  have HA0w13 := (show Hid (Box w13 (w.heap.size) (.slice a0a dur0.length c0a) (.slice a0b ps0.length c0b)) from HA0w12.out.kept hk (fun e => by have h1 := HFX2.out _ e; omega))
  have HWw13 := (show Hid (OwnD 0 40 5 w13 (.slice aW nW cW) (.slice aW' nW' cW') rW qsW) from HWw12.out.kept hk (fun b hb e => by have h1 := HFX2.out _ e; have h2 := HFW.out b hb; omega))
  have HZw13 := (show Hid (Box w13 (w4.heap.size) (.slice aW nW cW) (.slice aW' nW' cW')) from HZw12.out.kept hk (fun e => by have h1 := HFX2.out _ e; omega))
  have HT0w13 := (show Hid (Box w13 (w5.heap.size) (.slice (some ⟨gX0, 0, none⟩) dur0.length dur0.length) (.slice (some ⟨gX0', 0, none⟩) ps0.length ps0.length)) from HT0w12.out.kept hk (fun e => by have h1 := HFX2.out _ e; omega))
  have HGw13 := (show Hid (OwnD 0 40 5 w13 (.slice aG nG cG) (.slice aG' nG' cG') rW qsG) from HGw12.out.kept hk (fun b hb e => by have h1 := HFX2.out _ e; have h2 := HFG.out b hb; omega))
  have HYw13 := (show Hid (Box w13 (w7.heap.size) (.slice aG nG cG) (.slice aG' nG' cG')) from HYw12.out.kept hk (fun e => by have h1 := HFX2.out _ e; omega))
  have HKw13 := (show Hid (Same w w13) from HKw12.out.next hk (fun b hb e => by have h1 := HFX2.out _ e; omega))
  clear A01 A02 lA0 Z1 Z2 lZ T01 T02 lT0 Y1 Y2 lY
  clear hk
  have hEn : ¬ E2 < 0 := by omega
  obtain ⟨A01, A02⟩ := HA0w13.out
  have lA0 := HA0w13.out.lt
  obtain ⟨Z1, Z2⟩ := HZw13.out
  have lZ := HZw13.out.lt
  obtain ⟨Y1, Y2⟩ := HYw13.out
  have lY := HYw13.out.lt
  go_wp2_with fail
  refine (eqDisk_own 0 _ _ _ _ rW qsG qsW _ (by omega) (by omega) HQG.out HSQG.out HGw13.out HWw13.out).mono ?_
  rintro e w14 ⟨rfl, hk⟩
  have hkk : Same w13 w14 := hk
  have hzw14 := hkk.size
  have HA0w14 := hid (HA0w13.out.same hkk)
  have HWw14 := hid (HWw13.out.same hkk)
  have HZw14 := hid (HZw13.out.same hkk)
  have HGw14 := hid (HGw13.out.same hkk)
  have HYw14 := hid (HYw13.out.same hkk)
  have HKw14 := (show Hid (Same w w14) from HKw13.out.trans hkk)
  clear hkk hk
  clear A01 A02 lA0 Z1 Z2 lZ Y1 Y2 lY
  obtain ⟨M, hM⟩ : ∃ M, endP (1 + (rW.length : Int)) qsG = M := ⟨_, rfl⟩
  have hM0 : 0 ≤ M := by rw [← hM, endP_size]; omega
  have hM1 : M ≤ 1125899906842624 := by rw [← hM, endP_size, dataP_sizeP HQG.out]; omega
  have HM : Hid (endP (1 + (rW.length : Int)) qsG = M) := hM
  clear hM
  have hM2 : ¬ M < 0 := by omega
  obtain ⟨A01, A02⟩ := HA0w14.out
  have lA0 := HA0w14.out.lt
  obtain ⟨Z1, Z2⟩ := HZw14.out
  have lZ := HZw14.out.lt
  obtain ⟨Y1, Y2⟩ := HYw14.out
  have lY := HYw14.out.lt
  go_wp2_with fail
  have hm := markDisk_own 0 (.slice aG nG cG) (.slice aG' nG' cG') rW qsG 1 w14 (by omega) (by rw [HM.out]; exact hM1) (by omega) HGw14.out
  rw [HM.out] at hm
  refine hm.mono ?_
  clear hm
  rintro e w15 ⟨rfl, ho, hk⟩
  have hzw15 := hk.size
  have HA0w15 := (show Hid (Box w15 (w.heap.size) (.slice a0a dur0.length c0a) (.slice a0b ps0.length c0b)) from HA0w14.out.kept hk (fun e => by have h1 := HFG.out _ e; omega))
  have HWw15 := (show Hid (OwnD 0 40 5 w15 (.slice aW nW cW) (.slice aW' nW' cW') rW qsW) from HWw14.out.kept hk (fun b hb e => by have h1 := HFG.out _ e; have h2 := HFW.out b hb; omega))
  have HZw15 := (show Hid (Box w15 (w4.heap.size) (.slice aW nW cW) (.slice aW' nW' cW')) from HZw14.out.kept hk (fun e => by have h1 := HFG.out _ e; omega))
  have HYw15 := (show Hid (Box w15 (w7.heap.size) (.slice aG nG cG) (.slice aG' nG' cG')) from HYw14.out.kept hk (fun e => by have h1 := HFG.out _ e; omega))
  have HKw15 := (show Hid (Same w w15) from HKw14.out.next hk (fun b hb e => by have h1 := HFG.out _ e; omega))
  have HUw15 := (show Hid (OwnD 0 40 5 w15 (.slice aG nG cG) (.slice aG' nG' cG') (marks 1 rW.length) (markP (1 + (rW.length : Int)) qsG)) from ho)
  clear A01 A02 lA0 Z1 Z2 lZ Y1 Y2 lY
  clear hk ho
  obtain ⟨A01, A02⟩ := HA0w15.out
  have lA0 := HA0w15.out.lt
  obtain ⟨Z1, Z2⟩ := HZw15.out
  have lZ := HZw15.out.lt
  obtain ⟨Y1, Y2⟩ := HYw15.out
  have lY := HYw15.out.lt
  go_wp2_with fail
  have hm := heldDisk_own 0 (.slice aG nG cG) (.slice aG' nG' cG') rW qsG 1 w15 (by omega) (by rw [HM.out]; exact hM1) (by omega) HUw15.out
  rw [HM.out] at hm
  refine hm.mono ?_
  clear hm
  rintro e w16 ⟨rfl, hk⟩
  have hkk : Same w15 w16 := hk
  have hzw16 := hkk.size
  have HA0w16 := hid (HA0w15.out.same hkk)
  have HWw16 := hid (HWw15.out.same hkk)
  have HZw16 := hid (HZw15.out.same hkk)
  have HYw16 := hid (HYw15.out.same hkk)
  have HUw16 := hid (HUw15.out.same hkk)
  have HKw16 := (show Hid (Same w w16) from HKw15.out.trans hkk)
  clear hkk hk
  clear A01 A02 lA0 Z1 Z2 lZ Y1 Y2 lY
  obtain ⟨A01, A02⟩ := HA0w16.out
  have lA0 := HA0w16.out.lt
  obtain ⟨Z1, Z2⟩ := HZw16.out
  have lZ := HZw16.out.lt
  obtain ⟨Y1, Y2⟩ := HYw16.out
  have lY := HYw16.out.lt
  go_wp2_with fail
  refine (toDisk_any _ _ dur0 ps0 _ (by omega) (by omega) (fun p hp => Nat.le_trans (HS0.out p hp) (by omega)) (HV0.out.same HKw16.out)).mono ?_
  rintro e w17 ⟨gJ0, gJ0', qsJ0, rfl, hq, hf, ho, hk⟩
  have HQJ0 : Hid (dataP qsJ0 = dataP ps0) := hq
  have HFJ0 := (show Hid (∀ b, footD (.slice (some ⟨gJ0, 0, none⟩) dur0.length dur0.length) (.slice (some ⟨gJ0', 0, none⟩) ps0.length ps0.length) qsJ0 b → w16.heap.size ≤ b ∧ b < w17.heap.size) from fun b hb => ⟨hf b hb, (ho.lt b hb).2⟩)
  have HJ0w17 := (show Hid (OwnD 0 40 5 w17 (.slice (some ⟨gJ0, 0, none⟩) dur0.length dur0.length) (.slice (some ⟨gJ0', 0, none⟩) ps0.length ps0.length) dur0 qsJ0) from ho)
  clear hf ho hq
  have hkk : Same w16 w17 := hk
  have hzw17 := hkk.size
  have HA0w17 := hid (HA0w16.out.same hkk)
  have HWw17 := hid (HWw16.out.same hkk)
  have HZw17 := hid (HZw16.out.same hkk)
  have HYw17 := hid (HYw16.out.same hkk)
  have HUw17 := hid (HUw16.out.same hkk)
  have HKw17 := (show Hid (Same w w17) from HKw16.out.trans hkk)
  clear hkk hk
  clear A01 A02 lA0 Z1 Z2 lZ Y1 Y2 lY
  obtain ⟨A01, A02⟩ := HA0w17.out
  have lA0 := HA0w17.out.lt
  obtain ⟨Z1, Z2⟩ := HZw17.out
  have lZ := HZw17.out.lt
  obtain ⟨Y1, Y2⟩ := HYw17.out
  have lY := HYw17.out.lt
  go_wp2_with fail
  refine (toByteS_any _ bs2 _ (by omega) (HV2.out.same HKw17.out)).mono ?_
  rintro e w18 ⟨gJ2, rfl, hf, ho, hk⟩
  have hf : ∀ b, (Value.slice (some ⟨gJ2, 0, none⟩) bs2.length bs2.length).ownBlock = some b → _ ≤ b := fun b hb => by rw [← (Option.some.inj hb : gJ2 = b)]; exact hf
  have HFJ2 := (show Hid (∀ b, (Value.slice (some ⟨gJ2, 0, none⟩) bs2.length bs2.length).ownBlock = some b → w17.heap.size ≤ b ∧ b < w18.heap.size) from fun b hb => ⟨hf b hb, (ho.lt b hb).2⟩)
  have HJ2w18 := (show Hid (Own 0 5 .u8 w18 (.slice (some ⟨gJ2, 0, none⟩) bs2.length bs2.length) bs2) from ho)
  clear hf ho
  have hkk : Same w17 w18 := hk
  have hzw18 := hkk.size
  have HA0w18 := hid (HA0w17.out.same hkk)
  have HWw18 := hid (HWw17.out.same hkk)
  have HZw18 := hid (HZw17.out.same hkk)
  have HYw18 := hid (HYw17.out.same hkk)
  have HUw18 := hid (HUw17.out.same hkk)
  have HJ0w18 := hid (HJ0w17.out.same hkk)
  have HKw18 := (show Hid (Same w w18) from HKw17.out.trans hkk)
  clear hkk hk
  clear A01 A02 lA0 Z1 Z2 lZ Y1 Y2 lY
  obtain ⟨A01, A02⟩ := HA0w18.out
  have lA0 := HA0w18.out.lt
  obtain ⟨Z1, Z2⟩ := HZw18.out
  have lZ := HZw18.out.lt
  obtain ⟨Y1, Y2⟩ := HYw18.out
  have lY := HYw18.out.lt
  go_wp2_with fail
  refine (implWrite_any _ _ dur0 qsJ0 s1 _ bs2 _ (by omega) (HT0.out qsJ0 HQJ0.out).1 (HT0.out qsJ0 HQJ0.out).2 (HJ0w18.out.rd) (by omega) (HJ2w18.out.rd)).mono ?_
  rintro e w19 ⟨aL, nL, cL, aL', nL', cL', rL, qsL, rfl, hR, hf, ho, hk⟩
  rw [HQJ0.out] at hR
  obtain ⟨hrr, hq⟩ := hR.one HR.out
  replace hrr := hrr.symm
  subst hrr
  have HQL : Hid (dataP qsL = dataP qsW) := hq
  have hqLl : qsL.length ≤ 2097152 := by rw [← dataP_length, HQL.out, dataP_length]; exact hql
  have HSQL : Hid (∀ p ∈ qsL, p.bs.length ≤ 1125899906842624) := fun p hp => by have := sizeP_mem qsL p hp; rw [dataP_sizeP HQL.out] at this; omega
  clear hq
  have HFL := (show Hid (∀ b, footD (.slice aL nL cL) (.slice aL' nL' cL') qsL b → w18.heap.size ≤ b ∧ b < w19.heap.size) from fun b hb => ⟨hf b hb, (ho.lt b hb).2⟩)
  have HLw19 := (show Hid (OwnD 0 40 5 w19 (.slice aL nL cL) (.slice aL' nL' cL') rW qsL) from ho)
  clear hf ho hR
  have hkk : Same w18 w19 := hk
  have hzw19 := hkk.size
  have HA0w19 := hid (HA0w18.out.same hkk)
  have HWw19 := hid (HWw18.out.same hkk)
  have HZw19 := hid (HZw18.out.same hkk)
  have HYw19 := hid (HYw18.out.same hkk)
  have HUw19 := hid (HUw18.out.same hkk)
  have HJ0w19 := hid (HJ0w18.out.same hkk)
  have HJ2w19 := hid (HJ2w18.out.same hkk)
  have HKw19 := (show Hid (Same w w19) from HKw18.out.trans hkk)
  clear hkk hk
  clear A01 A02 lA0 Z1 Z2 lZ Y1 Y2 lY
  obtain ⟨A01, A02⟩ := HA0w19.out
  have lA0 := HA0w19.out.lt
  obtain ⟨Z1, Z2⟩ := HZw19.out
  have lZ := HZw19.out.lt
  obtain ⟨Y1, Y2⟩ := HYw19.out
  have lY := HYw19.out.lt
  go_wp2_with fail
  refine (eqDisk_own 0 _ _ _ _ rW qsL qsW _ (by omega) (by omega) HQL.out HSQL.out (HLw19.out.same ((Kept.refl _ _).alloc _)) (HWw19.out.same ((Kept.refl _ _).alloc _))).mono ?_
  rintro e w20 ⟨rfl, hk⟩
  have hkk : Same w19 w20 := ((Kept.refl _ _).alloc _).trans hk
  have hzw20 := hk.size
  rw [World.size_alloc] at hzw20
  have HA0w20 := hid (HA0w19.out.same hkk)
  have HWw20 := hid (HWw19.out.same hkk)
  have HZw20 := hid (HZw19.out.same hkk)
  have HYw20 := hid (HYw19.out.same hkk)
  have HUw20 := hid (HUw19.out.same hkk)
  have HLw20 := hid (HLw19.out.same hkk)
  have HVw20 := (show Hid (Box w20 (w19.heap.size) (.slice aL nL cL) (.slice aL' nL' cL')) from (Box.new _ _ _ _).same hk)
  have HKw20 := (show Hid (Same w w20) from HKw19.out.trans hkk)
  clear hkk hk
  clear A01 A02 lA0 Z1 Z2 lZ Y1 Y2 lY
  obtain ⟨A01, A02⟩ := HA0w20.out
  have lA0 := HA0w20.out.lt
  obtain ⟨Y1, Y2⟩ := HYw20.out
  have lY := HYw20.out.lt
  go_wp2_with fail
  have hm := heldDisk_own 0 (.slice aG nG cG) (.slice aG' nG' cG') rW qsG 1 w20 (by omega) (by rw [HM.out]; exact hM1) (by omega) HUw20.out
  rw [HM.out] at hm
  refine hm.mono ?_
  clear hm
  rintro e w21 ⟨rfl, hk⟩
  have hkk : Same w20 w21 := hk
  have hzw21 := hkk.size
  have HA0w21 := hid (HA0w20.out.same hkk)
  have HYw21 := hid (HYw20.out.same hkk)
  have HUw21 := hid (HUw20.out.same hkk)
  have HKw21 := (show Hid (Same w w21) from HKw20.out.trans hkk)
  clear hkk hk
  clear A01 A02 lA0 Y1 Y2 lY
  go_wp2
  go_ret
  exact ⟨rfl, HKw21.out⟩
end Go.Proofs.Ytfhdkbibcndmjaa

namespace Go.Proofs.Ytfhdkbibcndmjaa.fnExactDiskWrite
open Go.ChangeShapes Go.WideShapes Go.ChangeAt Go.RowKit
set_option linter.unusedVariables false
theorem own : ownKnob Try.prog.godebug = none := by kernel_rfl
theorem laidOut : laidOutB Try.prog = true := by kernel_rfl
set_option maxRecDepth 100000 in
theorem lifted (os : Os) (started : os.Started) (H : Type) (enc : TypeId × Value → H) :
    ReturnsInHanded {} Try.checked os 4 .any (Rows.fnExactDiskWriteSpec.pre6 enc Try.prog Try.f4 Rows.fnExactDiskWriteRow.domain false) (Rows.fnExactDiskWriteSpec.post enc Try.prog Try.f4 false true false false) := by
  refine returnsInHanded_of_change (C := Try.checked) own started (by kernel_rfl) Try.func4
    (ChangeSpec.witness6 (enc := enc) (C := Try.checked) false ⟨#[], #[.agg #[.slice none 0 0, .slice none 0 0], .int .i64 0, .slice none 0 0], []⟩ 8 (by kernel_rfl) (by kernel_rfl) (by kernel_rfl) (by kernel_rfl)) ?_
  intro W base args ds gs before hval0 hW hcnd _
  have hval : ∀ (j : Nat) t v, Try.f4.params[j]? = some t → args[j]? = some v → Value.okWide Try.prog W .any base t v := hval0
  have hW' := hW
  obtain ⟨p, q, hA0, hV, rfl, hfz, hnd⟩ := hW
  have hA : DataW.TrodAll enc Try.prog W 0 (fun _ => true) true Try.f4.params.toList args.toList ds p := hA0
  rw [Try.params4] at hA hval
  obtain ⟨v0, vs0, d0, ds0, p0, q0, hargs, rfl, rfl, h0, r0⟩ := trodAll_cons hA
  obtain ⟨v1, vs1, d1, ds1, p1, q1, rfl, rfl, rfl, h1, r1⟩ := trodAll_cons r0
  obtain ⟨v2, vs2, d2, ds2, p2, q2, rfl, rfl, rfl, h2, r2⟩ := trodAll_cons r1
  obtain ⟨rfl, rfl, rfl⟩ := trodAll_nil r2
  obtain rfl : args = #[v0, v1, v2] := by cases args; simp_all
  obtain ⟨rfl, rfl⟩ := trodVars_none hV
  have k0 := h0
  have lt0 : ∀ x ∈ p0, x.block < W.heap.size := by obtain ⟨m, hm⟩ := k0; exact DataW.trod_lt m _ _ _ hm
  obtain ⟨dv0, pv0, dur0, ps0, rfl, rd0⟩ := open_disk (hval 0 45 v0 rfl rfl) h0
  obtain ⟨a1, rfl, rfl, rfl, w1⟩ := open_int Try.underlying2 (hval 1 2 v1 rfl rfl) h1
  have k2 := h2
  have lt2 : ∀ x ∈ p2, x.block < W.heap.size := by obtain ⟨m, hm⟩ := k2; exact DataW.trod_lt m _ _ _ hm
  obtain ⟨x2, rd2⟩ := open_bytes (hval 2 22 v2 rfl rfl) h2
  clear hA0 hval0
  refine (diskWrite_law dv0 pv0 dur0 ps0 a1 v2 x2 W rd0 rd2).mono fun e W' ⟨he, hk⟩ => ?_
  have bel : Below W.heap.size W W' := hk.below (Nat.le_refl _) (fun _ _ => id)
  subst he
  exact ⟨_, rfl, _, _, _, [], _, [], hW', trodAll_mk1 (shut_bool Try.underlying4 _), (trodAll_cons_mk (Below.trod laidOut (by kernel_rfl) (of_decide_eq_true (by kernel_rfl)) k0 bel lt0) (trodAll_cons_mk (shut_int Try.underlying2 w1) (trodAll_cons_mk (Below.trod laidOut (by kernel_rfl) (of_decide_eq_true (by kernel_rfl)) k2 bel lt2) trodAll_mk0))), rfl, bel.frame _, fun h => by cases h⟩
theorem over : Rows.fnExactDiskWriteRow.holds Try.pinned (OpenSpec.ofChange Rows.fnExactDiskWriteSpec) :=
  OpenClaim.holds_of_wide 4 Try.f4 rfl rfl rfl rfl rfl rfl rfl ⟨rfl, rfl, rfl, rfl, rfl⟩ rfl rfl rfl rfl rfl (by kernel_rfl) Try.func4 (by kernel_rfl)
    (of_decide_eq_true (by kernel_rfl)) (by unfold Func.isWrapper; first | (rw [if_pos (by decide +kernel)]; kernel_rfl) | (rw [if_neg (by decide +kernel)]; exact ⟨rfl, rfl⟩))
    (fun os started H enc _ => lifted os started H enc)
end Go.Proofs.Ytfhdkbibcndmjaa.fnExactDiskWrite
namespace Go.Proofs.Ytfhdkbibcndmjaa
theorem diskWrite_proved : Rows.FnExactDiskWriteSaid := fnExactDiskWrite.over
#print axioms diskWrite_proved
end Go.Proofs.Ytfhdkbibcndmjaa
