import Derived.Test.YtnkollbhicmdhaaDoorG00
import Derived.Test.YtnkollbhicmdhaaDoorPickI
import Derived.Test.YtnkollbhicmdhaaDoorDecodeMaster
import Derived.Test.YtnkollbhicmdhaaDoorG10
import Derived.Test.YtnkollbhicmdhaaDoorG01
import Derived.Test.YtnkollbhicmdhaaDoorCards
import Derived.Test.YtnkollbhicmdhaaDoorTie
import Derived.Deep.DeepCutAuto
import Derived.ChangeSame
import Derived.ChangeVars
import Derived.JoinedOf
import Derived.RowKit
import Derived.RowKitTokens
import Derived.Stop.Joined
import Derived.SevenTiedAt
namespace Go.Proofs.YtnkollbhicmdhaaDoor
set_option maxRecDepth 100000
open Go.ChangeShapes Go.WideShapes Go.ChangeAt Go.RowKit
set_option linter.unusedVariables false
section
variable {H : Type} {enc : TypeId × Value → H} {w : World} {base : Nat} {spare : Nat → Bool} {held : Bool}
theorem read_pendB {fuel : Nat} {v : Value} {x : DataW H × List MemPlace} (h : DataW.trod enc Tryd.prog w base spare held fuel 56 [v] = some x) : ∃ ps, RdP w v ps ∧ ∀ p ∈ ps, IsB p.bs := by
  rcases Deep.open_slice_pairs Tryd.underlying56 Tryd.underlying125 (by kernel_rfl) rfl rfl (by kernel_rfl) (by kernel_rfl) h with ⟨hcs, _⟩ | ⟨a, len, cap, m, n, V0, V1, D0, D1, P0, P1, hcs, _, hl, hm, hmm, _, hx⟩
  · simp at hcs
    subst hcs
    exact ⟨[], ⟨by simp, .inl ⟨rfl, _, _, rfl⟩, fun p hp => by simp at hp⟩, fun p hp => by simp at hp⟩
  · simp at hcs
    subst hcs
    have hlm : len ≤ m := by rw [hmm]; split <;> omega
    have each : ∀ i, i < len → ∃ p : PW, w.cell? (a.add (i * 2)) = some (.int .i64 p.sec) ∧ w.cell? (a.add (i * 2 + 1)) = some p.v ∧ Rd .u8 w p.v p.bs ∧ IsB p.bs := fun i hi => by
      obtain ⟨h1, h2, h3, h4⟩ := hx i (by omega)
      obtain ⟨s, e0, _, _⟩ := DataW.trod_int Tryd.underlying2 h3
      simp at e0
      obtain ⟨bs, hbs, hbb⟩ := read_intsB Tryd.underlying22 Tryd.underlying5 (by kernel_rfl) h4
      exact ⟨⟨s, V1 i, bs⟩, by rw [h1, e0], h2, hbs, hbb⟩
    have : Inhabited PW := ⟨zeroPW⟩
    obtain ⟨f, hf⟩ := Deep.choose_lt each
    refine ⟨(List.range len).map f, ⟨by simp; omega, ?_, fun p hp => ?_⟩, fun p hp => ?_⟩
    · by_cases h0 : len = 0
      · subst h0
        exact .inl ⟨by simp, _, _, rfl⟩
      · obtain ⟨b, off, rfl⟩ := addr_form (by have := (hf 0 (by omega)).1; rwa [Nat.zero_mul] at this)
        refine .inr ⟨b, off, cap, by simp, fun i hi => ?_⟩
        have hi' : i < len := by simpa using hi
        obtain ⟨h1, h2, _⟩ := hf i hi'
        constructor
        · simpa [add_none] using h1
        · simpa [add_none, Nat.add_assoc] using h2
    · obtain ⟨i, hi, rfl⟩ := List.mem_map.1 hp
      exact (hf i (List.mem_range.1 hi)).2.2.1
    · obtain ⟨i, hi, rfl⟩ := List.mem_map.1 hp
      exact (hf i (List.mem_range.1 hi)).2.2.2
theorem open_diskB {r : Reach} {b0 : Nat} {v : Value} {d : DataW H} {p : List MemPlace} (hv : Value.okWide Tryd.prog w r b0 58 v) (h : DataW.Trod enc Tryd.prog w base spare held 58 v d p) :
    ∃ dv pv dur ps, v = .agg #[dv, pv] ∧ RdD w dv pv dur ps ∧ (IsB dur ∧ ∀ p ∈ ps, IsB p.bs) := by
  obtain ⟨v0, v1, y0, y1, n, rfl, _, _, h0, h1⟩ := Joins.open_agg2 Tryd.underlying58 (by kernel_rfl) (by kernel_rfl) hv h
  obtain ⟨dur, hd, hdb⟩ := read_intsB Tryd.underlying22 Tryd.underlying5 (by kernel_rfl) h0
  obtain ⟨ps, hp, hpb⟩ := read_pendB h1
  exact ⟨v0, v1, dur, ps, rfl, ⟨hd, hp⟩, hdb, hpb⟩
end
end Go.Proofs.YtnkollbhicmdhaaDoor

namespace Go.Proofs.YtnkollbhicmdhaaDoor
open Go.RowKit
set_option linter.unusedVariables false
theorem specPickL (dv pv : Value) (dur : List Int) (ps : List PW) (w : World) (hb : DiskB dur ps) (hd : dur.length ≤ 1099511627776) (hl : ps.length ≤ 1073741824) (hs : ∀ p ∈ ps, p.bs.length ≤ 1099511627776) (hv : RdD w dv pv dur ps) :
    Calls Tryd.prog 11 #[.agg #[dv, pv]] w fun ex w' => (∃ v, ex = .returned v ∧ Picked dur (dataP ps) v) ∧ Same w w' := specPick_any dv pv dur ps w hd hs hb hv
end Go.Proofs.YtnkollbhicmdhaaDoor

namespace Go.Proofs.YtnkollbhicmdhaaDoor
set_option maxRecDepth 100000
set_option maxHeartbeats 16000000
open Go.RowKit
set_option linter.unusedVariables false
theorem pickMaster_law (dv0 pv0 : Value) (dur0 : List Int) (ps0 : List PW) (a0 a1 a2 a3 a4 : Addr) (w : World) (hE : Errs5 w a0 a1 a2 a3 a4) (hv0 : RdD w dv0 pv0 dur0 ps0) (hB0 : DiskB dur0 ps0) :
    Calls Tryd.prog 8 #[.agg #[dv0, pv0]] w fun e w' => e = .returned (.bool true) ∧ Same w w' := by
  obtain ⟨a0a, c0a, rfl⟩ := hv0.dur.form
  obtain ⟨a0b, c0b, rfl⟩ := hv0.pend.form
  have HB0 := (show Hid (∀ qs, dataP qs = dataP ps0 → DiskB dur0 qs) from fun qs hq => hB0.dat hq)
  clear hB0
  have HV0 := (show Hid (RdD w (.slice a0a dur0.length c0a) (.slice a0b ps0.length c0b) dur0 ps0) from hv0)
  clear hv0
  have HE := (show Hid (Errs5 w a0 a1 a2 a3 a4) from hE)
  clear hE
  go_enter Tryd.func8, Tryd.ntmps8
  have HKw : Hid (Same w w) := Kept.refl _ _
  go_wp2_with fail
  refine (szDisk_any _ _ dur0 ps0 _ _ (by omega) (by omega) (HV0.out.same ((Kept.refl _ _).alloc _))).mono ?_
  rintro e w1 ⟨sz0, rfl, hr, hk⟩
  have hkk : Same w w1 := ((Kept.refl _ _).alloc _).trans hk
  have hzw1 := hk.size
  rw [World.size_alloc] at hzw1
  have HA0w1 := (show Hid (Box w1 (w.heap.size) (.slice a0a dur0.length c0a) (.slice a0b ps0.length c0b)) from (Box.new _ _ _ _).same hk)
  have HKw1 := (show Hid (Same w w1) from HKw.out.trans hkk)
  clear hkk hk
  rcases hr with rfl | ⟨hr, hr0⟩
  · go_wp2
    go_ret
    exact ⟨rfl, HKw1.out⟩
  have hd0 : dur0.length ≤ 1048576 := by omega
  have hp0 : ps0.length ≤ 1048576 := by omega
  have hsz0 : sizeP ps0 ≤ 1048576 := by omega
  have HS0 : Hid (∀ p ∈ ps0, p.bs.length ≤ 1048576) := fun p hp => by have := sizeP_mem ps0 p hp; omega
  have HT0 : Hid (∀ qs : List PW, dataP qs = dataP ps0 → qs.length ≤ 1073741824 ∧ ∀ p ∈ qs, p.bs.length ≤ 1099511627776) := fun qs hq => ⟨by rw [← dataP_length, hq, dataP_length]; omega, fun p hp => by have := sizeP_mem qs p hp; rw [dataP_sizeP hq] at this; omega⟩
  clear hr
  obtain ⟨A01, A02⟩ := HA0w1.out
  have lA0 := HA0w1.out.lt
  go_wp2_with fail
  refine (toDisk_any _ _ dur0 ps0 _ (by omega) (by omega) (fun p hp => Nat.le_trans (HS0.out p hp) (by omega)) (HV0.out.same HKw1.out)).mono ?_
  rintro e w2 ⟨gC0, gC0', qsC0, rfl, hq, hf, ho, hk⟩
  have HQC0 : Hid (dataP qsC0 = dataP ps0) := hq
  have HFC0 := (show Hid (∀ b, footD (.slice (some ⟨gC0, 0, none⟩) dur0.length dur0.length) (.slice (some ⟨gC0', 0, none⟩) ps0.length ps0.length) qsC0 b → w1.heap.size ≤ b ∧ b < w2.heap.size) from fun b hb => ⟨hf b hb, (ho.lt b hb).2⟩)
  have HC0w2 := (show Hid (OwnD 0 70 5 w2 (.slice (some ⟨gC0, 0, none⟩) dur0.length dur0.length) (.slice (some ⟨gC0', 0, none⟩) ps0.length ps0.length) dur0 qsC0) from ho)
  clear hf ho hq
  have hkk : Same w1 w2 := hk
  have hzw2 := hkk.size
  have HA0w2 := hid (HA0w1.out.same hkk)
  have HKw2 := (show Hid (Same w w2) from HKw1.out.trans hkk)
  clear hkk hk
  clear A01 A02 lA0
  obtain ⟨A01, A02⟩ := HA0w2.out
  have lA0 := HA0w2.out.lt
  go_wp2_with fail
  refine (specPickL _ _ dur0 qsC0 _ (HB0.out qsC0 HQC0.out) (by omega) (HT0.out qsC0 HQC0.out).1 (HT0.out qsC0 HQC0.out).2 (HC0w2.out.rd)).mono ?_
  rintro e w3 ⟨⟨v, rfl, hp⟩, hk⟩
  rw [HQC0.out] at hp
  obtain ⟨g, sl, s, e, c, l, rfl⟩ := hp.form
  have HP0 := (show Hid (Picked dur0 (dataP ps0) (.agg #[.bool g, .int .i64 sl, .int .i64 s, .int .i64 e, .int .i64 c, .int .i64 l])) from hp)
  clear hp
  have hkk : Same w2 w3 := hk
  have hzw3 := hkk.size
  have HA0w3 := hid (HA0w2.out.same hkk)
  have HC0w3 := hid (HC0w2.out.same hkk)
  have HKw3 := (show Hid (Same w w3) from HKw2.out.trans hkk)
  clear hkk hk
  clear A01 A02 lA0
  obtain ⟨A01, A02⟩ := HA0w3.out
  have lA0 := HA0w3.out.lt
  go_wp2_with fail
  refine (toDisk_any _ _ dur0 ps0 _ (by omega) (by omega) (fun p hp => Nat.le_trans (HS0.out p hp) (by omega)) (HV0.out.same (HKw3.out.alloc _))).mono ?_
  rintro e w4 ⟨gX0, gX0', qsX0, rfl, hq, hf, ho, hk⟩
  have HQX0 : Hid (dataP qsX0 = dataP ps0) := hq
  simp only [World.size_alloc] at hf
  have HFX0 := (show Hid (∀ b, footD (.slice (some ⟨gX0, 0, none⟩) dur0.length dur0.length) (.slice (some ⟨gX0', 0, none⟩) ps0.length ps0.length) qsX0 b → w3.heap.size < b ∧ b < w4.heap.size) from fun b hb => ⟨by have := hf b hb; omega, (ho.lt b hb).2⟩)
  have HX0w4 := (show Hid (OwnD 0 70 5 w4 (.slice (some ⟨gX0, 0, none⟩) dur0.length dur0.length) (.slice (some ⟨gX0', 0, none⟩) ps0.length ps0.length) dur0 qsX0) from ho)
  clear hf ho hq
  have hkk : Same w3 w4 := ((Kept.refl _ _).alloc _).trans hk
  have hzw4 := hk.size
  rw [World.size_alloc] at hzw4
  have HA0w4 := hid (HA0w3.out.same hkk)
  have HZw4 := (show Hid (Blk w4 (w3.heap.size) 30 [.bool g, .int .i64 sl, .int .i64 s, .int .i64 e, .int .i64 c, .int .i64 l]) from (Blk.new w3 #[.bool g, .int .i64 sl, .int .i64 s, .int .i64 e, .int .i64 c, .int .i64 l] 30).same hk)
  have HKw4 := (show Hid (Same w w4) from HKw3.out.trans hkk)
  clear hkk hk
  clear A01 A02 lA0
  obtain ⟨A01, A02⟩ := HA0w4.out
  have lA0 := HA0w4.out.lt
  have cZ_0 := HZw4.out.c0
  have cZ_1 := HZw4.out.c1
  have cZ_2 := HZw4.out.c2
  have cZ_3 := HZw4.out.c3
  have cZ_4 := HZw4.out.c4
  have cZ_5 := HZw4.out.c5
  have lZ := HZw4.out.lt
  go_wp2_with fail
  refine (implPick_any _ _ dur0 qsX0 a0 a1 a2 a3 a4 _ (HE.out.same (HKw4.out.alloc _)) (by omega) (HT0.out qsX0 HQX0.out).2 (HB0.out qsX0 HQX0.out) (HX0w4.out.rd.same ((Kept.refl _ _).alloc _))).mono ?_
  rintro e w5 ⟨⟨v, rfl, hp⟩, hk⟩
  rw [HQX0.out] at hp
  obtain rfl := hp.one HP0.out
  clear hp
  have hkk : Same w4 w5 := ((Kept.refl _ _).alloc _).trans hk
  have hzw5 := hk.size
  rw [World.size_alloc] at hzw5
  have HA0w5 := hid (HA0w4.out.same hkk)
  have HZw5 := hid (HZw4.out.same hkk)
  have HX0w5 := hid (HX0w4.out.same hkk)
  have HT0w5 := (show Hid (Box w5 (w4.heap.size) (.slice (some ⟨gX0, 0, none⟩) dur0.length dur0.length) (.slice (some ⟨gX0', 0, none⟩) ps0.length ps0.length)) from (Box.new _ _ _ _).same hk)
  have HKw5 := (show Hid (Same w w5) from HKw4.out.trans hkk)
  clear hkk hk
  clear A01 A02 lA0
  clear cZ_0 cZ_1 cZ_2 cZ_3 cZ_4 cZ_5 lZ
  obtain ⟨A01, A02⟩ := HA0w5.out
  have lA0 := HA0w5.out.lt
  obtain ⟨T01, T02⟩ := HT0w5.out
  have lT0 := HT0w5.out.lt
  have cZ_0 := HZw5.out.c0
  have cZ_1 := HZw5.out.c1
  have cZ_2 := HZw5.out.c2
  have cZ_3 := HZw5.out.c3
  have cZ_4 := HZw5.out.c4
  have cZ_5 := HZw5.out.c5
  have lZ := HZw5.out.lt
  go_wp2_with fail
  refine (eqMasterResult_any g sl s e c l _).mono ?_
  rintro e w6 ⟨rfl, hk⟩
  have hkk : Same w5 w6 := ((Kept.refl _ _).alloc _).trans hk
  have hzw6 := hk.size
  rw [World.size_alloc] at hzw6
  have HA0w6 := hid (HA0w5.out.same hkk)
  have HZw6 := hid (HZw5.out.same hkk)
  have HX0w6 := hid (HX0w5.out.same hkk)
  have HT0w6 := hid (HT0w5.out.same hkk)
  have HYw6 := (show Hid (Blk w6 (w5.heap.size) 30 [.bool g, .int .i64 sl, .int .i64 s, .int .i64 e, .int .i64 c, .int .i64 l]) from (Blk.new w5 #[.bool g, .int .i64 sl, .int .i64 s, .int .i64 e, .int .i64 c, .int .i64 l] 30).same hk)
  have HKw6 := (show Hid (Same w w6) from HKw5.out.trans hkk)
  clear hkk hk
  clear A01 A02 lA0 T01 T02 lT0
  clear cZ_0 cZ_1 cZ_2 cZ_3 cZ_4 cZ_5 lZ
  obtain ⟨A01, A02⟩ := HA0w6.out
  have lA0 := HA0w6.out.lt
  obtain ⟨T01, T02⟩ := HT0w6.out
  have lT0 := HT0w6.out.lt
  have cZ_0 := HZw6.out.c0
  have cZ_1 := HZw6.out.c1
  have cZ_2 := HZw6.out.c2
  have cZ_3 := HZw6.out.c3
  have cZ_4 := HZw6.out.c4
  have cZ_5 := HZw6.out.c5
  have lZ := HZw6.out.lt
  have cY_0 := HYw6.out.c0
  have cY_1 := HYw6.out.c1
  have cY_2 := HYw6.out.c2
  have cY_3 := HYw6.out.c3
  have cY_4 := HYw6.out.c4
  have cY_5 := HYw6.out.c5
  have lY := HYw6.out.lt
  go_wp2_with fail
  go_cut [27] (fun v wc => v = .bool false ∧ Hid (Same w6 wc))
  case first =>
    have HD1 : Hid (Same w w6.drew) := HKw6.out.drew
    have HD2 : Hid (Same w6 w6.drew) := (Kept.refl _ _).drew
    go_region_with (first | (go_at_call 35; refine (toDisk_any _ _ dur0 ps0 _ (by omega) (by omega) (fun p hp => Nat.le_trans (HS0.out p hp) (by omega)) (by exact HV0.out.same HD1.out)).mono ?_; rintro e wx7 ⟨g3, g3', qs7, rfl, hq3, hf3, ho3, hk7⟩; obtain ⟨y1, y2⟩ := HT0w6.out.same (HD2.out.trans hk7); have HO7 := (show Hid (OwnD 0 70 5 wx7 (.slice (some ⟨g3, 0, none⟩) dur0.length dur0.length) (.slice (some ⟨g3', 0, none⟩) ps0.length ps0.length) dur0 qs7) from ho3); have HQ7 : Hid (dataP qs7 = dataP ps0) := hq3; have HK7 : Hid (Same w6 wx7) := HD2.out.trans hk7; clear ho3 hq3 hf3 hk7) | (go_at_call 36; refine (eqDisk_own 0 _ _ _ _ dur0 qsX0 qs7 _ (by omega) (by have h := (HT0.out qsX0 HQX0.out).1; omega) (HQX0.out.trans HQ7.out.symm) (fun p hp => Nat.le_trans ((HT0.out qsX0 HQX0.out).2 p hp) (by omega)) (HX0w6.out.same HK7.out) HO7.out).mono ?_; rintro e wx8 ⟨rfl, hk8⟩))
    all_goals
      have HK8 : Hid (Same w6 wx8) := HK7.out.trans hk8
      clear hk8
      go_wp2_with fail
      go_meet
      case rel => exact ⟨rfl, HK8⟩
  case rest =>
  obtain ⟨rfl, HKC⟩ := hcut
  obtain ⟨w7, hwc⟩ : ∃ x, x = wc := ⟨_, rfl⟩
  subst hwc
  clear A01 A02 lA0 T01 T02 lT0
  clear cZ_0 cZ_1 cZ_2 cZ_3 cZ_4 cZ_5 lZ cY_0 cY_1 cY_2 cY_3 cY_4 cY_5 lY
  have hkk : Same w6 w7 := HKC.out
  have hzw7 := hkk.size
  have HA0w7 := hid (HA0w6.out.same hkk)
  have HZw7 := hid (HZw6.out.same hkk)
  have HX0w7 := hid (HX0w6.out.same hkk)
  have HT0w7 := hid (HT0w6.out.same hkk)
  have HYw7 := hid (HYw6.out.same hkk)
  have HKw7 := (show Hid (Same w w7) from HKw6.out.trans hkk)
  clear hkk
  go_wp2
  go_ret
  exact ⟨rfl, HKw7.out⟩
end Go.Proofs.YtnkollbhicmdhaaDoor

namespace Go.Proofs.YtnkollbhicmdhaaDoor.fnExactPickMaster
open Go.ChangeShapes Go.WideShapes Go.ChangeAt Go.RowKit
set_option linter.unusedVariables false
theorem own : ownKnob Tryd.prog.godebug = none := by kernel_rfl
theorem laidOut : laidOutB Tryd.prog = true := by kernel_rfl
set_option maxRecDepth 100000 in
theorem lifted (os : Os) (started : os.Started) (H : Type) (enc : TypeId × Value → H) :
    ReturnsInHanded {} Tryd.checked os 8 .any (fun w args => (Rows.fnExactPickMasterSpec.pre enc Tryd.prog Tryd.f8 [] false w args ∧ laidMetH Tryd.prog [L0, L1, L2, L3, L4] w) ∧ sizedMet enc Tryd.prog Tryd.f8 (OpenSpec.ofChange Rows.fnExactPickMasterSpec) false w args)
      (Rows.fnExactPickMasterSpec.post enc Tryd.prog Tryd.f8 false true false false) := by
  refine returnsInHanded_of_change_and (C := Tryd.checked) (X := fun w _ => laidMetH Tryd.prog [L0, L1, L2, L3, L4] w) (fun _ _ _ hh h => h.of_heap hh) own started (by kernel_rfl) Tryd.func8
    (ChangeSpec.witness_at (enc := enc) (C := Tryd.checked) (os := os) (X := fun w _ => laidMetH Tryd.prog [L0, L1, L2, L3, L4] w) false (laidOn (World.holding Tryd.prog os ⟨laidOnObj, #[], []⟩) (World.holding Tryd.prog default ⟨#[], #[], []⟩).heap.size) #[.agg #[.slice none 0 0, .slice none 0 0]] 8 rfl (by kernel_rfl) (by kernel_rfl) (by kernel_rfl) (by kernel_rfl) (by kernel_rfl) (laid_met5 os _)) ?_
  intro W base args ds gs before hval0 hW _ _ hL _
  have hval : ∀ (j : Nat) t v, Tryd.f8.params[j]? = some t → args[j]? = some v → Value.okWide Tryd.prog W .any base t v := hval0
  have hW' := hW
  obtain ⟨p, q, hA0, hV0, rfl, hfz, hnd⟩ := hW
  have hA : DataW.TrodAll enc Tryd.prog W 0 (fun _ => true) true Tryd.f8.params.toList args.toList ds p := hA0
  have hL' : laidMet Tryd.prog [L0, L1, L2, L3, L4] W := hL
  obtain ⟨a0, a1, a2, hv0, hv1, hv2, hE⟩ := laid3 hL'
  obtain ⟨a3, hv3⟩ := laid_one hL'.tail.tail.tail
  obtain ⟨a4, hv4⟩ := laid_two hL'.tail.tail.tail.tail
  have hV : DataW.TrodVars enc Tryd.prog W (fun _ => true) [L3.1, L4.1, L0.1, L1.1, L2.1] gs q := hV0
  obtain ⟨rfl, rfl⟩ := hV.unique (vars5 enc hv0 hv1 hv2 hv3 hv4 _)
  rw [Tryd.params8] at hA hval
  obtain ⟨v0, vs0, d0, ds0, p0, q0, hargs, rfl, rfl, h0, r0⟩ := trodAll_cons hA
  obtain ⟨rfl, rfl, rfl⟩ := trodAll_nil r0
  obtain rfl : args = #[v0] := by cases args; simp_all
  have k0 := h0
  have lt0 : ∀ x ∈ p0, x.block < W.heap.size := by obtain ⟨m, hm⟩ := k0; exact DataW.trod_lt m _ _ _ hm
  obtain ⟨dv0, pv0, dur0, ps0, rfl, rd0, bd0⟩ := open_diskB (hval 0 58 v0 rfl rfl) h0
  clear hA0 hval0
  refine (pickMaster_law dv0 pv0 dur0 ps0 a0 a1 a2 a3 a4 W ⟨hE.errs, by simpa using World.var?_cell Tryd.gn3 hv3 0, by simpa using World.var?_cell Tryd.gn4 hv4 0⟩ rd0 bd0).mono fun ex W' ⟨he, hk⟩ => ?_
  have bel : Below W.heap.size W W' := hk.below (Nat.le_refl _) (fun _ _ => id)
  subst he
  exact ⟨_, rfl, _, _, _, [], _, _, hW', trodAll_mk1 (shut_bool Tryd.underlying4 _), (trodAll_cons_mk (Below.trod laidOut (by kernel_rfl) (of_decide_eq_true (by kernel_rfl)) k0 bel lt0) trodAll_mk0), vars5 enc (var_same hk hv0) (var_same hk hv1) (var_same hk hv2) (var_same hk hv3) (var_same hk hv4) _, bel.frame _, fun h => by cases h⟩
theorem over : Rows.fnExactPickMasterRow.holds Tryd.pinned (OpenSpec.ofChange Rows.fnExactPickMasterSpec) :=
  OpenClaim.holds_of_wide 8 Tryd.f8 rfl rfl rfl rfl rfl rfl rfl ⟨rfl, rfl, rfl, rfl, rfl⟩ rfl rfl rfl rfl rfl (by kernel_rfl) Tryd.func8 (by kernel_rfl)
    (of_decide_eq_true (by kernel_rfl)) (by unfold Func.isWrapper; first | (rw [if_pos (by decide +kernel)]; kernel_rfl) | (rw [if_neg (by decide +kernel)]; exact ⟨rfl, rfl⟩))
    (fun os started H enc _ => lifted os started H enc)
end Go.Proofs.YtnkollbhicmdhaaDoor.fnExactPickMaster
namespace Go.Proofs.YtnkollbhicmdhaaDoor
open Go
theorem pickMaster_proved : Rows.FnExactPickMasterCardSaid :=
  Claim7.holds_tied_plain_at .later [] [.sentinel, .sentinel, .sentinel, .sentinel, .sentinel] true Rows.fnExactPickMasterCard.stood.harness true
    fnExactPickMaster.over (fun _ h => by cases h) (by kernel_rfl) (fun _ h => by cases h) fnExactPickMaster_row_tie rfl ⟨rfl, rfl⟩ (by kernel_rfl) rfl
    (fun f fn hf hfn => by
      obtain rfl : f = 8 := Option.some.inj ((show Tryd.prog.funcNamed "loop.example/s02544/laws.FnExactPickMaster" = some 8 by kernel_rfl).symm.trans hf) |>.symm
      obtain rfl : fn = Tryd.f8 := (Option.some.inj (Tryd.func8.symm.trans hfn)).symm
      exact ⟨by kernel_rfl, fun j t ht => by
        rw [Tryd.params8] at ht
        have h3 : t = 58 := by
          rcases j with _ | j
          · exact by simpa using ht.symm
          · simp at ht
        rcases h3 with rfl
        · exact (show Tryd.prog.wantsStandIn 58 = false by kernel_rfl)⟩)
    (by kernel_rfl)
#print axioms pickMaster_proved
end Go.Proofs.YtnkollbhicmdhaaDoor
