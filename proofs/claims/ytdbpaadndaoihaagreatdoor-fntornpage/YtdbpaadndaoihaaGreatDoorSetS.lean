import Derived.Test.YtdbpaadndaoihaaGreatDoorG08
import Derived.Test.YtdbpaadndaoihaaGreatDoorG10
import Derived.Test.YtdbpaadndaoihaaGreatDoorG06
import Derived.Test.YtdbpaadndaoihaaGreatDoorG04
namespace Go.Proofs.YtdbpaadndaoihaaGreatDoor
set_option maxRecDepth 100000
set_option maxHeartbeats 8000000
set_option linter.unusedVariables false
set_option linter.unusedSimpArgs false
open Go.RowKit
theorem put8_any (x : Int) (w : World) (h0 : 0 ≤ x) (h1 : x ≤ 9223372036854775807) : Calls Tryz.prog 97 #[.int .i64 x, .int .i64 8] w fun e w' => ∃ a c, e = .returned (.slice a 8 c) ∧ Rd .u8 w' (.slice a 8 c) (lows x 8) ∧ Same w w' := by
  refine (specPut_any x 8 w ⟨by omega, by omega⟩ ⟨by omega, by omega⟩).mono ?_
  rintro e w' ⟨a, c, rfl, hf, ho, hk⟩
  have e8 : numB x 8 = lows x 8 := by unfold numB; simp; omega
  rw [e8, lows_length] at ho ⊢
  exact ⟨a, c, rfl, ho.rd, hk⟩
theorem specSet_any (v : Value) (raw : List Int) (s : Int) (u : Bool) (ta : Option Addr) (tc : Nat) (d : List Int) (lsn : Int) (w : World) (hB : IsB raw) (hn : raw.length ≤ 1099511627776) (hv : Rd .u8 w v raw) (hdn : d.length ≤ 1099511627776) (hd : Rd .u8 w (.slice ta d.length tc) d) :
    Calls Tryz.prog 84 #[v, .int .i64 s, .agg #[.bool u, .slice ta d.length tc], .int .i64 lsn] w fun e w' => SetAns 5 w w' e (pageSet raw s u d lsn).1 (pageSet raw s u d lsn).2 := by
  obtain ⟨n, hn0⟩ : ∃ n, d.length = n := ⟨_, rfl⟩
  have HN := hid hn0
  rw [hn0] at hd hdn ⊢
  have k0 := (((Kept.refl (fun _ => False) w).alloc (.cells #[.bool u, .slice ta n tc] 34)).alloc (.cells #[.int .i64 0, .slice none 0 0] 38))
  have hr0 := hv.same k0
  have br := (Blk.new w #[.bool u, .slice ta n tc] 34).same ((Kept.refl (fun _ => False) _).alloc (.cells #[.int .i64 0, .slice none 0 0] 38))
  have ba := Blk.new (w.alloc (.cells #[.bool u, .slice ta n tc] 34)) #[.int .i64 0, .slice none 0 0] 38
  rw [show (w.alloc (.cells #[.bool u, .slice ta n tc] 34)).heap.size = w.heap.size + 1 from by simp] at ba
  have HB1 := (show Hid (∀ wx, Same ((w.alloc (.cells #[.bool u, .slice ta n tc] 34)).alloc (.cells #[.int .i64 0, .slice none 0 0] 38)) wx → Same w wx ∧ (wx.cell? ⟨w.heap.size, 0, none⟩ = some (.bool u) ∧ wx.cell? ⟨w.heap.size, 1, none⟩ = some (.slice ta n tc)) ∧ wx.cell? ⟨w.heap.size + 1, 0, none⟩ = some (.int .i64 0) ∧ wx.cell? ⟨w.heap.size + 1, 1, none⟩ = some (.slice none 0 0) ∧ wx.frozen? ⟨w.heap.size + 1, 0, none⟩ = false ∧ wx.frozen? ⟨w.heap.size + 1, 1, none⟩ = false) from fun wx h => ⟨k0.trans h, ⟨(br.same h).cell 0, (br.same h).cell 1⟩, (ba.same h).cell 0, (ba.same h).cell 1, (ba.same h).frozen 0, (ba.same h).frozen 1⟩)
  have HST := (show Hid (∀ wx x y, Same w wx → Same w ((wx.setCell ⟨w.heap.size + 1, 0, none⟩ x).setCell ⟨w.heap.size + 1, 1, none⟩ y)) from fun wx x y h => (h.setCell (p := ⟨w.heap.size + 1, 0, none⟩) (.inl (Nat.le_succ _)) x).setCell (p := ⟨w.heap.size + 1, 1, none⟩) (.inl (Nat.le_succ _)) y)
  have HD0 := (show Hid (Rd .u8 _ (.slice ta n tc) d) from hd.same k0)
  have HK0 := hid k0
  clear k0 br ba hn0
  have hbad : setBad raw s u d lsn = true → pageSet raw s u d lsn = (1, []) := fun h => if_pos h
  have HBD := hid hbad
  clear hbad
  have kO := l3Own_any v raw _ hB hn hr0
  cases hok : ownOK raw with
  | false =>
    rw [hok] at kO
    rw [HBD.out (by unfold setBad; rw [hok]; rfl)]
    clear hv hB hr0 hd
    go_enter Tryz.func84, Tryz.ntmps84
    go_wp2_with (go_at_call 98; refine kO.mono ?_; rintro e w1 ⟨rfl, hk1⟩; obtain ⟨hs1, ⟨r0, r1⟩, c0, c1, f0, f1⟩ := HB1.out w1 hk1)
    refine bodyPost_ret (v := .agg #[.int .i64 1, .slice none 0 0]) (by simp [results, Tryz.results84, go_sem, c0, c1]) rfl (SetAns.none 1 (HST.out _ _ _ hs1))
  | true =>
  rw [hok] at kO
  by_cases b1 : s < 0
  · rw [HBD.out (by unfold setBad; rw [hok, HN.out]; simp; omega)]
    clear hv hB hr0 hd
    go_enter Tryz.func84, Tryz.ntmps84
    go_wp2_with (go_at_call 98; refine kO.mono ?_; rintro e w1 ⟨rfl, hk1⟩; obtain ⟨hs1, ⟨r0, r1⟩, c0, c1, f0, f1⟩ := HB1.out w1 hk1)
    refine bodyPost_ret (v := .agg #[.int .i64 1, .slice none 0 0]) (by simp [results, Tryz.results84, go_sem, c0, c1]) rfl (SetAns.none 1 (HST.out _ _ _ hs1))
  by_cases b2 : 32 ≤ s
  · rw [HBD.out (by unfold setBad; rw [hok, HN.out]; simp; omega)]
    clear hv hB hr0 hd
    go_enter Tryz.func84, Tryz.ntmps84
    go_wp2_with (go_at_call 98; refine kO.mono ?_; rintro e w1 ⟨rfl, hk1⟩; obtain ⟨hs1, ⟨r0, r1⟩, c0, c1, f0, f1⟩ := HB1.out w1 hk1)
    refine bodyPost_ret (v := .agg #[.int .i64 1, .slice none 0 0]) (by simp [results, Tryz.results84, go_sem, c0, c1]) rfl (SetAns.none 1 (HST.out _ _ _ hs1))
  by_cases b3 : lsn < 0
  · rw [HBD.out (by unfold setBad; rw [hok, HN.out]; simp; omega)]
    clear hv hB hr0 hd
    go_enter Tryz.func84, Tryz.ntmps84
    go_wp2_with (go_at_call 98; refine kO.mono ?_; rintro e w1 ⟨rfl, hk1⟩; obtain ⟨hs1, ⟨r0, r1⟩, c0, c1, f0, f1⟩ := HB1.out w1 hk1)
    refine bodyPost_ret (v := .agg #[.int .i64 1, .slice none 0 0]) (by simp [results, Tryz.results84, go_sem, c0, c1]) rfl (SetAns.none 1 (HST.out _ _ _ hs1))
  by_cases b4 : 1099511627776 < lsn
  · rw [HBD.out (by unfold setBad; rw [hok, HN.out]; simp; omega)]
    clear hv hB hr0 hd
    go_enter Tryz.func84, Tryz.ntmps84
    go_wp2_with (go_at_call 98; refine kO.mono ?_; rintro e w1 ⟨rfl, hk1⟩; obtain ⟨hs1, ⟨r0, r1⟩, c0, c1, f0, f1⟩ := HB1.out w1 hk1)
    refine bodyPost_ret (v := .agg #[.int .i64 1, .slice none 0 0]) (by simp [results, Tryz.results84, go_sem, c0, c1]) rfl (SetAns.none 1 (HST.out _ _ _ hs1))
  by_cases b5 : 1000 < (n : Int)
  · rw [HBD.out (by unfold setBad; rw [hok, HN.out]; simp; omega)]
    clear hv hB hr0 hd
    go_enter Tryz.func84, Tryz.ntmps84
    go_wp2_with (go_at_call 98; refine kO.mono ?_; rintro e w1 ⟨rfl, hk1⟩; obtain ⟨hs1, ⟨r0, r1⟩, c0, c1, f0, f1⟩ := HB1.out w1 hk1)
    refine bodyPost_ret (v := .agg #[.int .i64 1, .slice none 0 0]) (by simp [results, Tryz.results84, go_sem, c0, c1]) rfl (SetAns.none 1 (HST.out _ _ _ hs1))
  have b6 : ¬ 1000 < n := by omega
  by_cases b7 : u = false ∧ 0 < (n : Int)
  · obtain ⟨rfl, b7⟩ := b7
    rw [HBD.out (by unfold setBad; rw [hok, HN.out]; simp; omega)]
    clear hv hB hr0 hd
    go_enter Tryz.func84, Tryz.ntmps84
    go_wp2_with (go_at_call 98; refine kO.mono ?_; rintro e w1 ⟨rfl, hk1⟩; obtain ⟨hs1, ⟨r0, r1⟩, c0, c1, f0, f1⟩ := HB1.out w1 hk1)
    refine bodyPost_ret (v := .agg #[.int .i64 1, .slice none 0 0]) (by simp [results, Tryz.results84, go_sem, c0, c1]) rfl (SetAns.none 1 (HST.out _ _ _ hs1))
  have hl := ownOK_len hok
  obtain ⟨k, rfl⟩ : ∃ k : Nat, s = k := ⟨s.toNat, by omega⟩
  have hk32 : k < 32 := by omega
  have hk32i : (k : Int) < 32 := by omega
  have hL : isLSN lsn = true := by simp [isLSN]; omega
  obtain ⟨b, off, c, rfl, hcc⟩ : ∃ b off c, v = .slice (some ⟨b, off, none⟩) 4096 c ∧ True := by
    rcases hv.2 with ⟨e, _⟩ | ⟨b, off, c, e, _⟩
    · rw [e] at hl; cases hl
    · exact ⟨b, off, c, by rw [e, hl], trivial⟩
  have hc4 : 4096 ≤ c := by
    rcases hv.2 with ⟨e, _⟩ | ⟨_, _, _, he, hle, _⟩
    · rw [e] at hl; cases hl
    · injection he; omega
  have kS := fun wx (h : Same w wx) => l3Slots_any b off c raw wx hB hl (hv.same h)
  have kU := fun wx (h : Same w wx) => specUsed_any (.slice (some ⟨b, off, none⟩) 4096 c) raw wx hB hn (hv.same h)
  rw [show pageUsed raw = usedN (slotsOf raw) 32 from if_pos hok] at kU
  have hsl := slOK_of hB hok
  have hsm := slotsOf_small raw hB hl
  have hbad : setBad raw k u d lsn = false := by unfold setBad; rw [hok, HN.out]; cases u <;> simp at b7 ⊢ <;> omega
  have HPS := (show Hid (pageSet raw k u d lsn = if 3948 < usedN (slotsOf raw) 32 - (slotsOf raw).getD (2 * k + 1) 0 + (n : Int) then (2, []) else (0, setB raw k u d lsn)) from by
    show pageSet raw k u d lsn = _
    unfold pageSet
    rw [hbad, if_neg (by simp), Int.toNat_natCast]
    by_cases hf : setFull raw k d
    · rw [if_pos hf, if_pos (by unfold setFull at hf; rw [HN.out] at hf; exact hf)]
    · rw [if_neg hf, if_neg (by unfold setFull at hf; rw [HN.out] at hf; exact hf)])
  have hu := hsl.room 32 (Nat.le_refl _)
  have hx := hsm.at (2 * k + 1)
  have HU0 := (show Hid (usedN (sl0 (slotsOf raw) k) 32 = usedN (slotsOf raw) 32 - (slotsOf raw).getD (2 * k + 1) 0) from by show usedN (sl0 (slotsOf raw) k) 32 = _; rw [usedN_zero, if_pos hk32])
  have hu0 := (hsl.zero k).room 32 (Nat.le_refl _)
  rw [HU0.out] at hu0
  obtain ⟨U, hU⟩ : ∃ U, usedN (slotsOf raw) 32 = U := ⟨_, rfl⟩
  obtain ⟨X, hX⟩ : ∃ X, (slotsOf raw).getD (2 * k + 1) 0 = X := ⟨_, rfl⟩
  have HX := hid hX
  rw [hU, hX] at HU0 hu0 HPS
  rw [hU] at hu kU
  rw [hX] at hx
  clear hU hX
  have q1 : IntKind.i64.wrap (U - X) = U - X := by rw [IntKind.wrap_i64]; omega
  have q2 : IntKind.i64.wrap (U - X + n) = U - X + n := by rw [IntKind.wrap_i64]; omega
  cases u with
  | false =>
    have hn0z : ¬ 0 < (n : Int) := fun h => b7 ⟨rfl, h⟩
    go_enter Tryz.func84, Tryz.ntmps84
    go_wp2_with (go_at_call 98; refine kO.mono ?_; rintro e w1 ⟨rfl, hk1⟩; obtain ⟨hs1, ⟨r0, r1⟩, c0, c1, f0, f1⟩ := HB1.out w1 hk1)
    refine (kS w1 hs1).mono ?_
    rintro e w2 ⟨g2, cap2, rfl, hg2, hown2, hk2x⟩
    have hk2 := hk1.trans hk2x
    have hx2 : w2.cell? ⟨g2, 2 * k + 1, none⟩ = some (.int .i64 X) := by rw [show 2 * k + 1 = k * 2 + 1 from by omega, (rows2_of hown2 (slotsOf_length raw)).at1 k hk32, HX.out]
    rw [show 2 * k + 1 = k * 2 + 1 from by omega] at hx2
    clear r0 r1 c0 c1 f0 f1
    obtain ⟨hs2, ⟨r0, r1⟩, c0, c1, f0, f1⟩ := HB1.out w2 hk2
    go_wp2_with fail
    refine (kU w2 hs2).mono ?_
    rintro e w3 ⟨rfl, hk3x⟩
    have hk3 := hk2.trans hk3x
    clear r0 r1 c0 c1 f0 f1 hx2
    obtain ⟨hs3, ⟨r0, r1⟩, c0, c1, f0, f1⟩ := HB1.out w3 hk3
    by_cases hfull : 3948 < U - X + (n : Int)
    · exfalso; omega
    · have HF := (show Hid (U - X + (n : Int) ≤ 3948) from by show U - X + (n : Int) ≤ 3948; omega)
      have HV := hid hv
      have HK3 := hid hk3
      have HS3 := hid hs3
      clear hk3x
      go_wp2_with fail
      refine (l1Copy_any _ raw _ hn (HV.out.same HS3.out)).mono ?_
      rintro e w4 ⟨a4, n4, c4, rfl, ho4, hf4, hk4x⟩
      obtain ⟨g, e1, e2⟩ : ∃ g, a4 = some ⟨g, 0, none⟩ ∧ n4 = 4096 := by
        rcases ho4.form with ⟨_, h⟩ | ⟨g, cap, h, _⟩
        · rw [h] at hl; simp at hl
        · cases h; exact ⟨g, rfl, hl⟩
      subst e1
      subst e2
      have HO4 := hid ho4
      have hg4 : w3.heap.size ≤ g := hf4 g rfl
      have HK4 := hid (HK3.out.trans hk4x)
      have HL := hid hl
      have hz3 := HK3.out.size
      have hc4b : 4096 ≤ c4 := HO4.out.caps.2
      have n1 : ¬ c4 = 4 := by omega
      have g1 : (4 : Int) ≤ (c4 : Int) := by omega
      have hlsn := isLSN_spec hL
      have kP := fun wx => put8_any lsn wx hlsn.1 hlsn.2
      clear ho4 hf4 hk4x hl hfull hk3 hs3 hk2 hk1 hs1 hs2 hv kU kS kO r0 r1 c0 c1 f0 f1
      go_wp2_with fail
      have hS : (fun _ : World => True) w4.drew := by trivial
      refine wp_region_V (fun _ : World => True) 99 5 rfl (by kernel_rfl) ?_
      refine tk 0 69 hS ?_
      refine tkV 1 70 (.slice (some ⟨g, 4, none⟩) (4096 - 4) (c4 - 4)) hS ?_
      refine tk 2 71 hS ?_
      refine wpAnyV_one (i := 3) (by kernel_rfl) rfl (fun K hK => ?_)
      go_simp
      refine (kP _).mono ?_
      rintro e w5 ⟨a5, c5, rfl, hr5, hk5⟩
      have HK5 : Hid (Same w4 w5) := (Kept.refl _ _).drew.trans hk5
      have HO5 := hid (HO4.out.same HK5.out)
      have hcp5 := run_copyOwn (P := Tryz.prog) 3 Tryz.underlying22 byte_one HO5.out HL.out.symm 4 (by rw [lows_length]; omega) hr5
      rw [show behind g c4 4 = some ⟨g, 4, none⟩ from if_neg n1, lows_length] at hcp5
      have HL5 := hid (HO5.out.laid HL.out.symm 4 (lows lsn 8) (by rw [lows_length]; omega))
      refine hK.out _ _ (fun _ => trivial) ?_
      clear hK K hk5 hr5
      try simp only [Act.put, sA, s0, sS]
      refine wpAnyV_one (i := 4) (by kernel_rfl) rfl (fun K hK => ?_)
      go_simp
      refine hK.out _ _ (fun _ => trivial) ?_
      clear hK K
      try simp only [Act.put, sA, s0, sS]
      refine wpAnyV_done (by kernel_rfl) ?_
      rw [set_lsn hok] at HL5
      have hgz : w.heap.size + 2 ≤ g := by have : w.heap.size + 2 ≤ w3.heap.size := by simpa using hz3
                                           omega
      have HK6 := (show Hid (Same ((w.alloc (.cells #[.bool false, .slice ta n tc] 34)).alloc (.cells #[.int .i64 0, .slice none 0 0] 38)) (w5.setCells g 4 (vals .u8 (lows lsn 8)))) from Kept.setCells (.inl (by simp; omega)) _ _ (HK4.out.trans HK5.out))
      clear hcp5 HO4 HO5 n1 g1 HK5 HK4 HK3 HS3 kP
      generalize w5.setCells g 4 (vals .u8 (lows lsn 8)) = w6 at HL5 HK6 ⊢
      have H4 := (show Hid ((raw.take 4).length = 4) from by show (raw.take 4).length = 4; rw [List.length_take, HL.out]; rfl)
      have h64 := slotsOf_length raw
      have hel : (encB (raw.take 4) lsn (numAt raw 12 4) (numAt raw 16 2) (slotsOf raw) raw).length = 4096 := encB_length H4.out h64 HL.out
      have kZ := l3Set_any g c4 _ k 0 0 w6 hel hk32 (by omega) (by omega) HL5.out
      rw [set_slot H4.out h64 k hk32] at kZ
      clear h64 hel HL5
      go_wp2_with fail
      refine kZ.mono ?_
      rintro e w7 ⟨rfl, ho7, hk7⟩
      have HO7 := (show Hid (Own 0 5 .u8 w7 (.slice (some ⟨g, 0, none⟩) 4096 c4) (encB (raw.take 4) lsn (numAt raw 12 4) (numAt raw 16 2) (sl0 (slotsOf raw) k) raw)) from ho7)
      have HK7 := hid (HK6.out.next hk7 (fun i hi e => by simp at hi; omega))
      obtain ⟨hs7, ⟨r0, r1⟩, c0, c1, f0, f1⟩ := HB1.out w7 HK7.out
      have HS7 := hid hs7
      clear ho7 hk7 kZ HK6 hs7
      have hgz2 : ¬ g = w.heap.size + 1 := by omega
      have HEL := (show Hid ((encB (raw.take 4) lsn (numAt raw 12 4) (numAt raw 16 2) (sl0 (slotsOf raw) k) raw).length = 4096) from encB_length H4.out (by rw [sl0_length, slotsOf_length]) HL.out)
      have HSB := (show Hid (setB raw k false d lsn = encB (raw.take 4) lsn (numAt raw 12 4) (numAt raw 16 2) (sl0 (slotsOf raw) k) raw) from rfl)
      obtain ⟨out, hout⟩ : ∃ x, encB (raw.take 4) lsn (numAt raw 12 4) (numAt raw 16 2) (sl0 (slotsOf raw) k) raw = x := ⟨_, rfl⟩
      rw [hout] at HEL HSB HO7
      clear hout
      go_wp2
      have hko : Kept (fun b => b = w.heap.size + 1) w7 ((w7.setCell ⟨w.heap.size + 1, 0, none⟩ (.int .i64 0)).setCell ⟨w.heap.size + 1, 1, none⟩ (.slice (some ⟨g, 0, none⟩) 4096 c4)) := ((Kept.refl (fun b => b = w.heap.size + 1) w7).setCell (p := ⟨w.heap.size + 1, 0, none⟩) (.inr rfl) _).setCell (p := ⟨w.heap.size + 1, 1, none⟩) (.inr rfl) _
      refine bodyPost_ret (v := .agg #[.int .i64 0, .slice (some ⟨g, 0, none⟩) 4096 c4]) (by simp [results, Tryz.results84, go_sem, c0, c1]) rfl ?_
      rw [HPS.out, if_neg (by have := HF.out; omega)]
      refine ⟨some ⟨g, 0, none⟩, c4, by simp only [HSB.out, HEL.out], fun b hb => ?_, ?_, HST.out _ _ _ HS7.out⟩
      · have h : g = b := (by simpa [Value.ownBlock] using hb)
        omega
      · simp only [HSB.out, HEL.out]
        exact HO7.out.kept hko (fun b hb e => by have h : g = b := (by simpa [Value.ownBlock] using hb); omega)
  | true =>
    go_enter Tryz.func84, Tryz.ntmps84
    go_wp2_with (go_at_call 98; refine kO.mono ?_; rintro e w1 ⟨rfl, hk1⟩; obtain ⟨hs1, ⟨r0, r1⟩, c0, c1, f0, f1⟩ := HB1.out w1 hk1)
    refine (kS w1 hs1).mono ?_
    rintro e w2 ⟨g2, cap2, rfl, hg2, hown2, hk2x⟩
    have hk2 := hk1.trans hk2x
    have hx2 : w2.cell? ⟨g2, 2 * k + 1, none⟩ = some (.int .i64 X) := by rw [show 2 * k + 1 = k * 2 + 1 from by omega, (rows2_of hown2 (slotsOf_length raw)).at1 k hk32, HX.out]
    rw [show 2 * k + 1 = k * 2 + 1 from by omega] at hx2
    clear r0 r1 c0 c1 f0 f1
    obtain ⟨hs2, ⟨r0, r1⟩, c0, c1, f0, f1⟩ := HB1.out w2 hk2
    go_wp2_with fail
    refine (kU w2 hs2).mono ?_
    rintro e w3 ⟨rfl, hk3x⟩
    have hk3 := hk2.trans hk3x
    clear r0 r1 c0 c1 f0 f1 hx2
    obtain ⟨hs3, ⟨r0, r1⟩, c0, c1, f0, f1⟩ := HB1.out w3 hk3
    by_cases hfull : 3948 < U - X + (n : Int)
    · go_wp2
      refine bodyPost_ret (v := .agg #[.int .i64 2, .slice none 0 0]) (by simp [results, Tryz.results84, go_sem, c0, c1]) rfl (by rw [HPS.out, if_pos hfull]; exact SetAns.none 2 (HST.out _ _ _ hs3))
    · have HF := (show Hid (U - X + (n : Int) ≤ 3948) from by show U - X + (n : Int) ≤ 3948; omega)
      have HV := hid hv
      have HK3 := hid hk3
      have HS3 := hid hs3
      clear hk3x
      go_wp2_with fail
      refine (l1Copy_any _ raw _ hn (HV.out.same HS3.out)).mono ?_
      rintro e w4 ⟨a4, n4, c4, rfl, ho4, hf4, hk4x⟩
      obtain ⟨g, e1, e2⟩ : ∃ g, a4 = some ⟨g, 0, none⟩ ∧ n4 = 4096 := by
        rcases ho4.form with ⟨_, h⟩ | ⟨g, cap, h, _⟩
        · rw [h] at hl; simp at hl
        · cases h; exact ⟨g, rfl, hl⟩
      subst e1
      subst e2
      have HO4 := hid ho4
      have hg4 : w3.heap.size ≤ g := hf4 g rfl
      have HK4 := hid (HK3.out.trans hk4x)
      have HL := hid hl
      have hz3 := HK3.out.size
      have hc4b : 4096 ≤ c4 := HO4.out.caps.2
      have n1 : ¬ c4 = 4 := by omega
      have g1 : (4 : Int) ≤ (c4 : Int) := by omega
      have hlsn := isLSN_spec hL
      have kP := fun wx => put8_any lsn wx hlsn.1 hlsn.2
      clear ho4 hf4 hk4x hl hfull hk3 hs3 hk2 hk1 hs1 hs2 hv kU kS kO r0 r1 c0 c1 f0 f1
      go_wp2_with fail
      have hS : (fun _ : World => True) w4.drew := by trivial
      refine wp_region_V (fun _ : World => True) 99 5 rfl (by kernel_rfl) ?_
      refine tk 0 69 hS ?_
      refine tkV 1 70 (.slice (some ⟨g, 4, none⟩) (4096 - 4) (c4 - 4)) hS ?_
      refine tk 2 71 hS ?_
      refine wpAnyV_one (i := 3) (by kernel_rfl) rfl (fun K hK => ?_)
      go_simp
      refine (kP _).mono ?_
      rintro e w5 ⟨a5, c5, rfl, hr5, hk5⟩
      have HK5 : Hid (Same w4 w5) := (Kept.refl _ _).drew.trans hk5
      have HO5 := hid (HO4.out.same HK5.out)
      have hcp5 := run_copyOwn (P := Tryz.prog) 3 Tryz.underlying22 byte_one HO5.out HL.out.symm 4 (by rw [lows_length]; omega) hr5
      rw [show behind g c4 4 = some ⟨g, 4, none⟩ from if_neg n1, lows_length] at hcp5
      have HL5 := hid (HO5.out.laid HL.out.symm 4 (lows lsn 8) (by rw [lows_length]; omega))
      refine hK.out _ _ (fun _ => trivial) ?_
      clear hK K hk5 hr5
      try simp only [Act.put, sA, s0, sS]
      refine wpAnyV_one (i := 4) (by kernel_rfl) rfl (fun K hK => ?_)
      go_simp
      refine hK.out _ _ (fun _ => trivial) ?_
      clear hK K
      try simp only [Act.put, sA, s0, sS]
      refine wpAnyV_done (by kernel_rfl) ?_
      rw [set_lsn hok] at HL5
      have hgz : w.heap.size + 2 ≤ g := by have : w.heap.size + 2 ≤ w3.heap.size := by simpa using hz3
                                           omega
      have HK6 := (show Hid (Same ((w.alloc (.cells #[.bool true, .slice ta n tc] 34)).alloc (.cells #[.int .i64 0, .slice none 0 0] 38)) (w5.setCells g 4 (vals .u8 (lows lsn 8)))) from Kept.setCells (.inl (by simp; omega)) _ _ (HK4.out.trans HK5.out))
      clear hcp5 HO4 HO5 n1 g1 HK5 HK4 HK3 HS3 kP
      generalize w5.setCells g 4 (vals .u8 (lows lsn 8)) = w6 at HL5 HK6 ⊢
      have H4 := (show Hid ((raw.take 4).length = 4) from by show (raw.take 4).length = 4; rw [List.length_take, HL.out]; rfl)
      have h64 := slotsOf_length raw
      have hel : (encB (raw.take 4) lsn (numAt raw 12 4) (numAt raw 16 2) (slotsOf raw) raw).length = 4096 := encB_length H4.out h64 HL.out
      have kZ := l3Set_any g c4 _ k 0 0 w6 hel hk32 (by omega) (by omega) HL5.out
      rw [set_slot H4.out h64 k hk32] at kZ
      clear h64 hel HL5
      go_wp2_with fail
      refine kZ.mono ?_
      rintro e w7 ⟨rfl, ho7, hk7⟩
      have HO7 := (show Hid (Own 0 5 .u8 w7 (.slice (some ⟨g, 0, none⟩) 4096 c4) (encB (raw.take 4) lsn (numAt raw 12 4) (numAt raw 16 2) (sl0 (slotsOf raw) k) raw)) from ho7)
      have HK7 := hid (HK6.out.next hk7 (fun i hi e => by simp at hi; omega))
      obtain ⟨hs7, ⟨r0, r1⟩, c0, c1, f0, f1⟩ := HB1.out w7 HK7.out
      have HS7 := hid hs7
      clear ho7 hk7 kZ HK6 hs7
      have hpt := ownOK_parts hok
      have hS64 : (sl0 (slotsOf raw) k).length = 64 := by rw [sl0_length, slotsOf_length]
      obtain ⟨hE0, hO0⟩ := set_enc0 hB hok k lsn hL
      have hYB := isB_enc (lsn := lsn) (num := numAt raw 12 4) (bot := numAt raw 16 2) H4.out hS64 (isB_take hB 4) hB
      have kB := l3Bottom_any g 0 c4 _ w7 hYB hE0.len HO7.out.rd
      rw [hE0.dec.2.2] at kB
      have hz0 := hsl.zero k
      have HPC := hid (set_comp hE0 hz0 hO0)
      have hcb := hz0.bot 32 (Nat.le_refl _)
      have HCU := (show Hid (cBot (sl0 (slotsOf raw) k) 32 = 4096 - (U - X)) from by show 4096 - usedN (sl0 (slotsOf raw) k) 32 = _; rw [HU0.out])
      have HCL := (show Hid ((encB (raw.take 4) lsn (numAt raw 12 4) (cBot (sl0 (slotsOf raw) k) 32) (cSl (sl0 (slotsOf raw) k) 32) (cBody raw (sl0 (slotsOf raw) k) 32)).length = 4096) from encB_length H4.out (by rw [cSl_length, hS64]) (hz0.body raw HL.out 32 (Nat.le_refl _)))
      have HEL := hid hE0.len
      have HCB := (show Hid (IsB (encB (raw.take 4) lsn (numAt raw 12 4) (cBot (sl0 (slotsOf raw) k) 32) (cSl (sl0 (slotsOf raw) k) 32) (cBody raw (sl0 (slotsOf raw) k) 32))) from isB_enc H4.out (by rw [cSl_length, hS64]) (isB_take hB 4) (isB_cBody hB _ _))
      have HCD := (show Hid (EncOK (raw.take 4) lsn (numAt raw 12 4) (cBot (sl0 (slotsOf raw) k) 32) (cSl (sl0 (slotsOf raw) k) 32) (cBody raw (sl0 (slotsOf raw) k) 32)) from ⟨H4.out, by rw [cSl_length, hS64], hz0.body raw HL.out 32 (Nat.le_refl _), hE0.lsn, hE0.num, by omega, (hz0.comp hS64).1.all (by rw [cSl_length, hS64])⟩)
      have HN1 := (show Hid (∀ bn : Nat, cBot (sl0 (slotsOf raw) k) 32 - (n : Int) = bn → 148 ≤ bn → bn + n ≤ 4096 → numAt raw 16 2 - 148 < (n : Int) → layI (layI (layI (layI (encB (raw.take 4) lsn (numAt raw 12 4) (cBot (sl0 (slotsOf raw) k) 32) (cSl (sl0 (slotsOf raw) k) 32) (cBody raw (sl0 (slotsOf raw) k) 32)) bn d) 16 (lows (bn : Int) 2)) (20 + 4 * k) (lows (bn : Int) 2)) (20 + 4 * k + 2) (lows (n : Int) 2) = setB raw k true d lsn) from fun bn h1 h2 h3 h4 => by
        rw [← HN.out] at h1 h3 h4 ⊢
        rw [set_put H4.out (by rw [cSl_length, hS64]) (hz0.body raw HL.out 32 (Nat.le_refl _)) k hk32 d bn h1 h2 h3]
        unfold setB
        rw [if_neg (by simp), if_pos h4])
      have HN2 := (show Hid (∀ bn : Nat, numAt raw 16 2 - (n : Int) = bn → 148 ≤ bn → bn + n ≤ 4096 → ¬ numAt raw 16 2 - 148 < (n : Int) → layI (layI (layI (layI (encB (raw.take 4) lsn (numAt raw 12 4) (numAt raw 16 2) (sl0 (slotsOf raw) k) raw) bn d) 16 (lows (bn : Int) 2)) (20 + 4 * k) (lows (bn : Int) 2)) (20 + 4 * k + 2) (lows (n : Int) 2) = setB raw k true d lsn) from fun bn h1 h2 h3 h4 => by
        rw [← HN.out] at h1 h3 h4 ⊢
        rw [set_put H4.out hS64 HL.out k hk32 d bn h1 h2 h3]
        unfold setB
        rw [if_neg (by simp), if_neg h4])
      obtain ⟨Y, hY⟩ : ∃ x, encB (raw.take 4) lsn (numAt raw 12 4) (numAt raw 16 2) (sl0 (slotsOf raw) k) raw = x := ⟨_, rfl⟩
      obtain ⟨Z, hZ⟩ : ∃ x, encB (raw.take 4) lsn (numAt raw 12 4) (cBot (sl0 (slotsOf raw) k) 32) (cSl (sl0 (slotsOf raw) k) 32) (cBody raw (sl0 (slotsOf raw) k) 32) = x := ⟨_, rfl⟩
      have HZD := (show Hid (numAt Z 16 2 = cBot (sl0 (slotsOf raw) k) 32) from by rw [← hZ]; exact HCD.out.dec.2.2)
      have HYD := (show Hid (numAt Y 16 2 = numAt raw 16 2) from by rw [← hY]; exact hE0.dec.2.2)
      rw [hY] at HO7 HPC HEL HN2 hYB
      rw [hZ] at HPC HCL HCB HN1
      obtain ⟨bt, hbt⟩ : ∃ x, numAt raw 16 2 = x := ⟨_, rfl⟩
      obtain ⟨cb, hcb0⟩ : ∃ x, cBot (sl0 (slotsOf raw) k) 32 = x := ⟨_, rfl⟩
      rw [hbt] at kB hpt HN1 HN2 HYD
      rw [hcb0] at hcb HCU HN1 HZD
      have HYB := hid hYB
      clear hY hZ hbt hcb0 hE0 hO0 hz0 hS64 HCD hYB hsl hsm
      obtain ⟨hp1, hp2, _⟩ := hpt
      have q3 : IntKind.i64.wrap (bt - 148) = bt - 148 := by rw [IntKind.wrap_i64]; omega
      go_wp2_with fail
      refine kB.mono ?_
      rintro e w8 ⟨rfl, hk8⟩
      have HK8 := hid (HK7.out.trans hk8)
      have HO8 := hid (HO7.out.same hk8)
      clear r0 r1 c0 c1 f0 f1
      obtain ⟨hs8, ⟨r0, r1⟩, c0, c1, f0, f1⟩ := HB1.out w8 HK8.out
      clear hk8 kB hs8 HO7 HK7 HS7
      by_cases hc : bt - 148 < (n : Int)
      · have kC := specComp_any (.slice (some ⟨g, 0, none⟩) 4096 c4) Y w8 HYB.out (by rw [HEL.out]; decide) HO8.out.rd
        rw [HPC.out, HCL.out] at kC
        obtain ⟨bn, hbn⟩ : ∃ bn : Nat, cb - (n : Int) = bn := ⟨(cb - n).toNat, by have := HF.out; have := HCU.out; omega⟩
        have hbn1 : 148 ≤ bn ∧ bn + n ≤ 4096 := by have := HF.out; have := HCU.out; omega
        have HNX := hid (HN1.out bn hbn hbn1.1 hbn1.2 (by omega))
        have q4 : IntKind.i64.wrap (cb - (n : Int)) = (bn : Int) := by rw [IntKind.wrap_i64]; omega
        have hz8 : w.heap.size + 2 ≤ w8.heap.size := by have := HK8.out.size; simpa using this
        clear HN1 HN2 hbn
        go_wp2_with fail
        refine kC.mono ?_
        rintro e w9 ⟨a9, c9, rfl, hf9, ho9, hk9⟩
        obtain ⟨G, e9⟩ : ∃ G, a9 = some ⟨G, 0, none⟩ := by
          rcases ho9.form with ⟨h, _⟩ | ⟨G, cap, h, _⟩
          · cases h
          · injection h with h1; exact ⟨G, h1⟩
        subst e9
        have hG := hf9 G rfl
        have HO9 := hid ho9
        have HK9 := hid (HK8.out.trans hk9)
        clear r0 r1 c0 c1 f0 f1
        obtain ⟨hs9, ⟨r0, r1⟩, c0, c1, f0, f1⟩ := HB1.out w9 HK9.out
        have kB2 := l3Bottom_any G 0 c9 Z w9 HCB.out HCL.out HO9.out.rd
        rw [HZD.out] at kB2
        clear ho9 hk9 hf9 kC hs9 HO8 HK8
        go_wp2_with fail
        refine kB2.mono ?_
        rintro e x1 ⟨rfl, hx1⟩
        have HX1 := hid (HK9.out.trans hx1)
        have HOX1 := hid (HO9.out.same hx1)
        clear r0 r1 c0 c1 f0 f1
        obtain ⟨hsx1, ⟨r0, r1⟩, c0, c1, f0, f1⟩ := HB1.out x1 HX1.out
        clear hx1 kB2 hsx1 HO9 HK9
        have hcC : 4096 ≤ c9 := HOX1.out.caps.2
        have g3 : (bn : Int) ≤ (c9 : Int) := by omega
        have g4 : (bn : Int) ≤ 4096 := by omega
        obtain ⟨ab, hab⟩ : ∃ ab : Option Addr, (if c9 = bn then some (⟨G, 0, none⟩ : Addr) else some ⟨G, bn, none⟩) = ab := ⟨_, rfl⟩
        have HAB := (show Hid (behind G c9 bn = ab) from hab)
        go_wp2_with fail
        have hS : (fun wx : World => wx.cell? ⟨w.heap.size, 1, none⟩ = some (.slice ta n tc)) x1.drew := r1
        refine wp_region_V (fun wx : World => wx.cell? ⟨w.heap.size, 1, none⟩ = some (.slice ta n tc)) 99 6 rfl (by kernel_rfl) ?_
        refine tk 0 90 hS ?_
        refine tk 1 91 hS ?_
        refine tkV 2 92 (.slice ab (4096 - bn) (c9 - bn)) hS ?_
        refine tk 3 93 hS ?_
        refine tk 4 94 hS ?_
        have HO5 := hid (HOX1.out.same (Kept.refl _ _).drew)
        have hcp := run_copyOwn (P := Tryz.prog) 3 Tryz.underlying22 byte_one HO5.out HCL.out.symm bn (by rw [HN.out]; omega) ((HD0.out.same HX1.out).same (Kept.refl _ _).drew)
        rw [HAB.out, HN.out] at hcp
        have HL5 := hid (HO5.out.laid HCL.out.symm bn d (by rw [HN.out]; omega))
        refine wpAnyV_one (i := 5) (by kernel_rfl) rfl (fun K hK => ?_)
        go_simp
        have HK6 := (show Hid (Same ((w.alloc (.cells #[.bool true, .slice ta n tc] 34)).alloc (.cells #[.int .i64 0, .slice none 0 0] 38)) (x1.drew.setCells G bn (vals .u8 d))) from Kept.setCells (.inl (by simp; omega)) _ _ (HX1.out.drew))
        have m1 := (HB1.out _ HK6.out).2.1.2
        refine hK.out _ _ (fun _ => m1) ?_
        clear hK K hcp m1
        try simp only [Act.put, sA, s0, sS]
        refine wpAnyV_done (by kernel_rfl) ?_
        clear hS r0 r1 c0 c1 f0 f1 HO5 HOX1 HX1
        generalize x1.drew.setCells G bn (vals .u8 d) = x6 at HL5 HK6 ⊢
        obtain ⟨hsx6, ⟨r0, r1⟩, c0, c1, f0, f1⟩ := HB1.out x6 HK6.out
        have HY6 := (show Hid ((layI Z bn d).length = 4096) from by show (layI Z bn d).length = 4096; rw [layI_length _ _ _ (by rw [HN.out, HCL.out]; omega), HCL.out])
        have HBN2 := hid (lows_length (bn : Int) 2)
        have HY7 := (show Hid ((layI (layI Z bn d) 16 (lows (bn : Int) 2)).length = 4096) from by show (layI (layI Z bn d) 16 (lows (bn : Int) 2)).length = 4096; rw [layI_length _ _ _ (by rw [lows_length, HY6.out]; omega), HY6.out])
        obtain ⟨Y6, hY6⟩ : ∃ Zq, layI Z bn d = Zq := ⟨_, rfl⟩
        rw [hY6] at HL5 HY6 HY7 HNX
        have kP := fun wx => put2_any (bn : Int) wx (by omega) (by omega)
        have n16 : ¬ c9 = 16 := by omega
        have g16 : (16 : Int) ≤ (c9 : Int) := by omega
        clear hY6 hsx6
        go_wp2_with fail
        have hS : (fun _ : World => True) x6.drew := by trivial
        refine wp_region_V (fun _ : World => True) 99 5 rfl (by kernel_rfl) ?_
        refine tk 0 96 hS ?_
        refine tkV 1 97 (.slice (some ⟨G, 16, none⟩) (4096 - 16) (c9 - 16)) hS ?_
        refine tk 2 98 hS ?_
        refine wpAnyV_one (i := 3) (by kernel_rfl) rfl (fun K hK => ?_)
        go_simp
        refine (kP _).mono ?_
        rintro e x7 ⟨a7, c7, rfl, hr7, hk7⟩
        have HK7 : Hid (Same x6 x7) := (Kept.refl _ _).drew.trans hk7
        have HO7 := hid (HL5.out.same HK7.out)
        have hcp7 := run_copyOwn (P := Tryz.prog) 3 Tryz.underlying22 byte_one HO7.out HY6.out.symm 16 (by rw [lows_length]; omega) hr7
        rw [show behind G c9 16 = some ⟨G, 16, none⟩ from if_neg n16, lows_length] at hcp7
        have HL7 := hid (HO7.out.laid HY6.out.symm 16 (lows (bn : Int) 2) (by rw [lows_length]; omega))
        refine hK.out _ _ (fun _ => trivial) ?_
        clear hK K hk7 hr7
        try simp only [Act.put, sA, s0, sS]
        refine wpAnyV_one (i := 4) (by kernel_rfl) rfl (fun K hK => ?_)
        go_simp
        refine hK.out _ _ (fun _ => trivial) ?_
        clear hK K
        try simp only [Act.put, sA, s0, sS]
        refine wpAnyV_done (by kernel_rfl) ?_
        have HK8 := (show Hid (Same ((w.alloc (.cells #[.bool true, .slice ta n tc] 34)).alloc (.cells #[.int .i64 0, .slice none 0 0] 38)) (x7.setCells G 16 (vals .u8 (lows (bn : Int) 2)))) from Kept.setCells (.inl (by simp; omega)) _ _ (HK6.out.trans HK7.out))
        clear hcp7 HO7 HL5 HK6 HK7 kP n16 g16 r0 r1 c0 c1 f0 f1
        generalize x7.setCells G 16 (vals .u8 (lows (bn : Int) 2)) = x8 at HL7 HK8 ⊢
        have kZ2 := l3Set_any G c9 _ k (bn : Int) (n : Int) x8 HY7.out hk32 (by omega) (by omega) HL7.out
        rw [HNX.out] at kZ2
        clear HL7
        go_wp2_with fail
        refine kZ2.mono ?_
        rintro e x9 ⟨rfl, ho9, hk9⟩
        have HO9 := hid ho9
        have HK9 := hid (HK8.out.next hk9 (fun i hi e => by simp at hi; omega))
        obtain ⟨hs9, ⟨r0, r1⟩, c0, c1, f0, f1⟩ := HB1.out x9 HK9.out
        have HS9 := hid hs9
        clear ho9 hk9 kZ2 HK8 hs9
        have HSL := (show Hid ((setB raw k true d lsn).length = 4096) from by show (setB raw k true d lsn).length = 4096; rw [← HNX.out, layI_length _ _ _ (by rw [layI_length _ _ _ (by rw [lows_length, HY7.out]; omega), lows_length, HY7.out]; omega), layI_length _ _ _ (by rw [lows_length, HY7.out]; omega), HY7.out])
        clear HNX
        have hgz2 : ¬ G = w.heap.size + 1 := by omega
        obtain ⟨out, hout⟩ : ∃ x, setB raw k true d lsn = x := ⟨_, rfl⟩
        rw [hout] at HSL HO9 HPS
        clear hout
        go_wp2
        have hko : Kept (fun b => b = w.heap.size + 1) x9 ((x9.setCell ⟨w.heap.size + 1, 0, none⟩ (.int .i64 0)).setCell ⟨w.heap.size + 1, 1, none⟩ (.slice (some ⟨G, 0, none⟩) 4096 c9)) := ((Kept.refl (fun b => b = w.heap.size + 1) x9).setCell (p := ⟨w.heap.size + 1, 0, none⟩) (.inr rfl) _).setCell (p := ⟨w.heap.size + 1, 1, none⟩) (.inr rfl) _
        refine bodyPost_ret (v := .agg #[.int .i64 0, .slice (some ⟨G, 0, none⟩) 4096 c9]) (by simp [results, Tryz.results84, go_sem, c0, c1]) rfl ?_
        rw [HPS.out, if_neg (by have := HF.out; omega)]
        refine ⟨some ⟨G, 0, none⟩, c9, by simp only [HSL.out], fun b hb => ?_, ?_, HST.out _ _ _ HS9.out⟩
        · have h : G = b := (by simpa [Value.ownBlock] using hb)
          omega
        · simp only [HSL.out]
          exact HO9.out.kept hko (fun b hb e => by have h : G = b := (by simpa [Value.ownBlock] using hb); omega)
      · obtain ⟨bn, hbn⟩ : ∃ bn : Nat, bt - (n : Int) = bn := ⟨(bt - n).toNat, by omega⟩
        have hbn1 : 148 ≤ bn ∧ bn + n ≤ 4096 := by omega
        have HNX := hid (HN2.out bn hbn hbn1.1 hbn1.2 (by omega))
        have q4 : IntKind.i64.wrap (bt - (n : Int)) = (bn : Int) := by rw [IntKind.wrap_i64]; omega
        have kB2 := l3Bottom_any g 0 c4 Y w8 HYB.out HEL.out HO8.out.rd
        rw [HYD.out] at kB2
        clear HN1 HN2 hbn
        go_wp2_with fail
        refine kB2.mono ?_
        rintro e x1 ⟨rfl, hx1⟩
        have HX1 := hid (HK8.out.trans hx1)
        have HOX1 := hid (HO8.out.same hx1)
        clear r0 r1 c0 c1 f0 f1
        obtain ⟨hsx1, ⟨r0, r1⟩, c0, c1, f0, f1⟩ := HB1.out x1 HX1.out
        clear hx1 kB2 hsx1 HO8 HK8
        have hcC : 4096 ≤ c4 := HOX1.out.caps.2
        have g3 : (bn : Int) ≤ (c4 : Int) := by omega
        have g4 : (bn : Int) ≤ 4096 := by omega
        obtain ⟨ab, hab⟩ : ∃ ab : Option Addr, (if c4 = bn then some (⟨g, 0, none⟩ : Addr) else some ⟨g, bn, none⟩) = ab := ⟨_, rfl⟩
        have HAB := (show Hid (behind g c4 bn = ab) from hab)
        go_wp2_with fail
        have hS : (fun wx : World => wx.cell? ⟨w.heap.size, 1, none⟩ = some (.slice ta n tc)) x1.drew := r1
        refine wp_region_V (fun wx : World => wx.cell? ⟨w.heap.size, 1, none⟩ = some (.slice ta n tc)) 99 6 rfl (by kernel_rfl) ?_
        refine tk 0 90 hS ?_
        refine tk 1 91 hS ?_
        refine tkV 2 92 (.slice ab (4096 - bn) (c4 - bn)) hS ?_
        refine tk 3 93 hS ?_
        refine tk 4 94 hS ?_
        have HO5 := hid (HOX1.out.same (Kept.refl _ _).drew)
        have hcp := run_copyOwn (P := Tryz.prog) 3 Tryz.underlying22 byte_one HO5.out HEL.out.symm bn (by rw [HN.out]; omega) ((HD0.out.same HX1.out).same (Kept.refl _ _).drew)
        rw [HAB.out, HN.out] at hcp
        have HL5 := hid (HO5.out.laid HEL.out.symm bn d (by rw [HN.out]; omega))
        refine wpAnyV_one (i := 5) (by kernel_rfl) rfl (fun K hK => ?_)
        go_simp
        have HK6 := (show Hid (Same ((w.alloc (.cells #[.bool true, .slice ta n tc] 34)).alloc (.cells #[.int .i64 0, .slice none 0 0] 38)) (x1.drew.setCells g bn (vals .u8 d))) from Kept.setCells (.inl (by simp; omega)) _ _ (HX1.out.drew))
        have m1 := (HB1.out _ HK6.out).2.1.2
        refine hK.out _ _ (fun _ => m1) ?_
        clear hK K hcp m1
        try simp only [Act.put, sA, s0, sS]
        refine wpAnyV_done (by kernel_rfl) ?_
        clear hS r0 r1 c0 c1 f0 f1 HO5 HOX1 HX1
        generalize x1.drew.setCells g bn (vals .u8 d) = x6 at HL5 HK6 ⊢
        obtain ⟨hsx6, ⟨r0, r1⟩, c0, c1, f0, f1⟩ := HB1.out x6 HK6.out
        have HY6 := (show Hid ((layI Y bn d).length = 4096) from by show (layI Y bn d).length = 4096; rw [layI_length _ _ _ (by rw [HN.out, HEL.out]; omega), HEL.out])
        have HBN2 := hid (lows_length (bn : Int) 2)
        have HY7 := (show Hid ((layI (layI Y bn d) 16 (lows (bn : Int) 2)).length = 4096) from by show (layI (layI Y bn d) 16 (lows (bn : Int) 2)).length = 4096; rw [layI_length _ _ _ (by rw [lows_length, HY6.out]; omega), HY6.out])
        obtain ⟨Y6, hY6⟩ : ∃ Zq, layI Y bn d = Zq := ⟨_, rfl⟩
        rw [hY6] at HL5 HY6 HY7 HNX
        have kP := fun wx => put2_any (bn : Int) wx (by omega) (by omega)
        have n16 : ¬ c4 = 16 := by omega
        have g16 : (16 : Int) ≤ (c4 : Int) := by omega
        clear hY6 hsx6
        go_wp2_with fail
        have hS : (fun _ : World => True) x6.drew := by trivial
        refine wp_region_V (fun _ : World => True) 99 5 rfl (by kernel_rfl) ?_
        refine tk 0 96 hS ?_
        refine tkV 1 97 (.slice (some ⟨g, 16, none⟩) (4096 - 16) (c4 - 16)) hS ?_
        refine tk 2 98 hS ?_
        refine wpAnyV_one (i := 3) (by kernel_rfl) rfl (fun K hK => ?_)
        go_simp
        refine (kP _).mono ?_
        rintro e x7 ⟨a7, c7, rfl, hr7, hk7⟩
        have HK7 : Hid (Same x6 x7) := (Kept.refl _ _).drew.trans hk7
        have HO7 := hid (HL5.out.same HK7.out)
        have hcp7 := run_copyOwn (P := Tryz.prog) 3 Tryz.underlying22 byte_one HO7.out HY6.out.symm 16 (by rw [lows_length]; omega) hr7
        rw [show behind g c4 16 = some ⟨g, 16, none⟩ from if_neg n16, lows_length] at hcp7
        have HL7 := hid (HO7.out.laid HY6.out.symm 16 (lows (bn : Int) 2) (by rw [lows_length]; omega))
        refine hK.out _ _ (fun _ => trivial) ?_
        clear hK K hk7 hr7
        try simp only [Act.put, sA, s0, sS]
        refine wpAnyV_one (i := 4) (by kernel_rfl) rfl (fun K hK => ?_)
        go_simp
        refine hK.out _ _ (fun _ => trivial) ?_
        clear hK K
        try simp only [Act.put, sA, s0, sS]
        refine wpAnyV_done (by kernel_rfl) ?_
        have HK8 := (show Hid (Same ((w.alloc (.cells #[.bool true, .slice ta n tc] 34)).alloc (.cells #[.int .i64 0, .slice none 0 0] 38)) (x7.setCells g 16 (vals .u8 (lows (bn : Int) 2)))) from Kept.setCells (.inl (by simp; omega)) _ _ (HK6.out.trans HK7.out))
        clear hcp7 HO7 HL5 HK6 HK7 kP n16 g16 r0 r1 c0 c1 f0 f1
        generalize x7.setCells g 16 (vals .u8 (lows (bn : Int) 2)) = x8 at HL7 HK8 ⊢
        have kZ2 := l3Set_any g c4 _ k (bn : Int) (n : Int) x8 HY7.out hk32 (by omega) (by omega) HL7.out
        rw [HNX.out] at kZ2
        clear HL7
        go_wp2_with fail
        refine kZ2.mono ?_
        rintro e x9 ⟨rfl, ho9, hk9⟩
        have HO9 := hid ho9
        have HK9 := hid (HK8.out.next hk9 (fun i hi e => by simp at hi; omega))
        obtain ⟨hs9, ⟨r0, r1⟩, c0, c1, f0, f1⟩ := HB1.out x9 HK9.out
        have HS9 := hid hs9
        clear ho9 hk9 kZ2 HK8 hs9
        have HSL := (show Hid ((setB raw k true d lsn).length = 4096) from by show (setB raw k true d lsn).length = 4096; rw [← HNX.out, layI_length _ _ _ (by rw [layI_length _ _ _ (by rw [lows_length, HY7.out]; omega), lows_length, HY7.out]; omega), layI_length _ _ _ (by rw [lows_length, HY7.out]; omega), HY7.out])
        clear HNX
        have hgz2 : ¬ g = w.heap.size + 1 := by omega
        obtain ⟨out, hout⟩ : ∃ x, setB raw k true d lsn = x := ⟨_, rfl⟩
        rw [hout] at HSL HO9 HPS
        clear hout
        go_wp2
        have hko : Kept (fun b => b = w.heap.size + 1) x9 ((x9.setCell ⟨w.heap.size + 1, 0, none⟩ (.int .i64 0)).setCell ⟨w.heap.size + 1, 1, none⟩ (.slice (some ⟨g, 0, none⟩) 4096 c4)) := ((Kept.refl (fun b => b = w.heap.size + 1) x9).setCell (p := ⟨w.heap.size + 1, 0, none⟩) (.inr rfl) _).setCell (p := ⟨w.heap.size + 1, 1, none⟩) (.inr rfl) _
        refine bodyPost_ret (v := .agg #[.int .i64 0, .slice (some ⟨g, 0, none⟩) 4096 c4]) (by simp [results, Tryz.results84, go_sem, c0, c1]) rfl ?_
        rw [HPS.out, if_neg (by have := HF.out; omega)]
        refine ⟨some ⟨g, 0, none⟩, c4, by simp only [HSL.out], fun b hb => ?_, ?_, HST.out _ _ _ HS9.out⟩
        · have h : g = b := (by simpa [Value.ownBlock] using hb)
          omega
        · simp only [HSL.out]
          exact HO9.out.kept hko (fun b hb e => by have h : g = b := (by simpa [Value.ownBlock] using hb); omega)
end Go.Proofs.YtdbpaadndaoihaaGreatDoor
