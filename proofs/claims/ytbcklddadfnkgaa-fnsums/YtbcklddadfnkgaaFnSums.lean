/-
  The law over numbers and sums.
-/
import Derived.Test.YtbcklddadfnkgaaLwAt
import Derived.Test.YtbcklddadfnkgaaSumMath
import Derived.Deep.DeepCutAuto
namespace Go.Proofs.Ytbcklddadfnkgaa
open Go.RowKit
set_option linter.unusedVariables false
set_option linter.unusedSimpArgs false

theorem isB_take {bs : List Int} (h : IsB bs) (k : Nat) : IsB (bs.take k) := fun y hy => h y (List.mem_of_mem_take hy)
theorem isB_drop {bs : List Int} (h : IsB bs) (k : Nat) : IsB (bs.drop k) := fun y hy => h y (List.mem_of_mem_drop hy)
theorem own_cap {base : Nat} {e : TypeId} {k : IntKind} {w : World} {g n cap : Nat} {bs : List Int} (h : Own base e k w (.slice (some ⟨g, 0, none⟩) n cap) bs) : n ≤ cap := by
  rcases h.form with ⟨h, _⟩ | ⟨g', c', h, _, _, hc, _⟩
  · cases h
  · cases h
    exact hc
theorem Rd.front {k : IntKind} {w : World} {b off c : Nat} {bs : List Int} (h : Rd k w (.slice (some ⟨b, off, none⟩) bs.length c) bs) (m : Nat) (hm : m ≤ bs.length) : Rd k w (.slice (some ⟨b, off, none⟩) m c) (bs.take m) := by
  refine ⟨Nat.le_trans (by simp; omega) h.1, ?_⟩
  rcases h.2 with ⟨hn, a, c', e, _⟩ | ⟨b', off', c', e, hl, hc⟩
  · subst hn
    obtain rfl : m = 0 := by simpa using hm
    exact .inl ⟨by simp, _, _, rfl, fun e => by cases e⟩
  · cases e
    have el : (bs.take m).length = m := by simp; omega
    refine .inr ⟨b, off, c, by rw [el], by omega, fun i hi => ?_⟩
    have := hc i (by omega)
    rw [this]
    simp [List.getD, List.getElem?_take, show i < m by omega]
theorem Rd.back {k : IntKind} {w : World} {b off c : Nat} {bs : List Int} (h : Rd k w (.slice (some ⟨b, off, none⟩) bs.length c) bs) (m : Nat) (hm : m ≤ bs.length) : Rd k w (.slice (some ⟨b, off + m, none⟩) (bs.length - m) (c - m)) (bs.drop m) := by
  refine ⟨Nat.le_trans (by simp) h.1, ?_⟩
  rcases h.2 with ⟨hn, a, c', e, _⟩ | ⟨b', off', c', e, hl, hc⟩
  · subst hn
    exact .inl ⟨by simp, _, _, by simp; exact ⟨rfl, rfl⟩, fun e => by cases e⟩
  · cases e
    have el : (bs.drop m).length = bs.length - m := by simp
    refine .inr ⟨b, off + m, c - m, by rw [el], by omega, fun i hi => ?_⟩
    have := hc (m + i) (by omega)
    rw [Nat.add_assoc, this]
    simp [List.getD, List.getElem?_drop]
theorem isB_set {bs : List Int} (h : IsB bs) (j : Nat) (z : Int) (h0 : 0 ≤ z) (h1 : z < 256) : IsB (bs.set j z) := fun y hy => by
  rcases List.mem_or_eq_of_mem_set hy with hy | rfl
  · exact h y hy
  · exact ⟨h0, by omega⟩
theorem rd_none {w : World} {a : Addr} {n c : Nat} {bs : List Int} (h : bs = []) (hn : n = 0) : Rd .u8 w (.slice (some a) n c) bs := by
  subst h
  subst hn
  exact ⟨Nat.zero_le _, .inl ⟨rfl, _, _, rfl, fun e => by cases e⟩⟩
theorem lows_isB (v : Int) (k : Nat) : IsB (lows v k) := by
  induction k with
  | zero => intro y hy; simp [lows] at hy
  | succ k ih =>
    intro y hy
    simp only [lows, List.mem_cons] at hy
    rcases hy with rfl | hy
    · omega
    · exact ih y hy
theorem numB_isB (v n : Int) : IsB (numB v n) := by
  unfold numB
  split
  · intro y hy; simp at hy
  · exact lows_isB _ _

set_option maxRecDepth 100000 in
set_option maxHeartbeats 8000000 in
theorem sums_law (v0 : Value) (bs0 : List Int) (v1 : Value) (bs1 : List Int) (w : World) (hv0 : Rd .u8 w v0 bs0) (hB0 : IsB bs0) (hv1 : Rd .u8 w v1 bs1) (hB1 : IsB bs1) :
    Calls Try.prog 3 #[v0, v1] w fun e w' => e = .returned (.bool true) ∧ Same w w' := by
  obtain ⟨a0a, c0a, rfl⟩ := hv0.form
  obtain ⟨a1a, c1a, rfl⟩ := hv1.form
  have hm0 := hv0.1
  have hm1 := hv1.1
  unfold maxLen at hm0 hm1
  have HB0 := (show Hid (IsB bs0) from hB0)
  have HB1 := (show Hid (IsB bs1) from hB1)
  have HV0 := (show Hid (Rd .u8 w (.slice a0a bs0.length c0a) bs0) from hv0)
  have HV1 := (show Hid (Rd .u8 w (.slice a1a bs1.length c1a) bs1) from hv1)
  clear hv0 hv1 hB0 hB1
  by_cases hb0 : (1048576 : Int) < (bs0.length : Int)
  · go_enter Try.func3, Try.ntmps3
    go_wp2
    go_ret
    exact ⟨rfl, Kept.refl _ _⟩
  by_cases hb1 : (1048576 : Int) < (bs1.length : Int)
  · go_enter Try.func3, Try.ntmps3
    go_wp2
    go_ret
    exact ⟨rfl, Kept.refl _ _⟩
  go_enter Try.func3, Try.ntmps3
  go_wp2_with fail
  refine (drawPut_any _ bs0 _ HB0.out (by omega) HV0.out).mono ?_
  rintro e w1 ⟨x, y, rfl, hx, hy, hk1⟩
  have HK1 := (show Hid (Same w w1) from hk1)
  have HX := (show Hid (IsI x) from hx)
  have HY := (show Hid (IsI y) from hy)
  clear hk1
  go_wp2_with fail
  refine (implPut_any x y _ HX.out HY.out).mono ?_
  rintro e w2 ⟨a2, c2, rfl, hf2, ho2, hk2⟩
  have HK2 := (show Hid (Same w w2) from HK1.out.trans hk2)
  have HO2 := (show Hid (Own 0 5 .u8 w2 (.slice a2 (numB x y).length c2) (numB x y)) from ho2)
  have hlen := numB_length x y
  clear hk2 ho2 hf2
  go_upto_region 5 with fail
  go_cut [55] (fun c wc => c = .bool false ∧ Hid (Same w wc))
  case first =>
    by_cases hE : numB x y = []
    · have hd1 : (((numB x y).length : Int) != 0) = false := by rw [hE]; rfl
      have hd2 : (((numB x y).length : Int) == 0) = true := by rw [hE]; rfl
      have hd3 : decide (((numB x y).length : Int) = 0) = true := by rw [hE]; rfl
      clear hE
      go_wp2_with fail
      refine (specPut_any x y _ HX.out HY.out).mono ?_
      rintro e w3 ⟨a3, c3, rfl, hf3, ho3, hk3⟩
      go_wp2
      go_meet
      exact ⟨rfl, HK2.out.trans hk3⟩
    · obtain ⟨g1, g2⟩ := getN_numB x y HX.out hE
      have hl1 : ¬ (numB x y).length = 0 := fun h => hE (List.eq_nil_of_length_eq_zero h)
      have HBn := (show Hid (IsB (numB x y)) from numB_isB x y)
      go_wp2_with fail
      refine (implGet_any _ (numB x y) _ HBn.out (by omega) HO2.out.rd).mono ?_
      rintro e w3 ⟨rfl, hk3⟩
      rw [g1]
      have HK3 := (show Hid (Same w w3) from HK2.out.trans hk3)
      clear hk3
      go_wp2_with fail
      refine (specPut_any x y _ HX.out HY.out).mono ?_
      rintro e w4 ⟨a3, c3, rfl, hf3, ho3, hk4⟩
      go_wp2
      go_meet
      exact ⟨rfl, HK3.out.trans hk4⟩
  case rest =>
    obtain ⟨rfl, HKc⟩ := hcut
    clear HO2 hlen HK2
    go_wp2_with fail
    refine (drawCrc_any _ bs0 _ HB0.out (by omega) (HV0.out.same HKc.out)).mono ?_
    rintro e w5 ⟨tg, tc, ts, rfl, htl, htb, hto, hk5⟩
    have HK5 := (show Hid (Same w w5) from HKc.out.trans hk5)
    have HT5 := (show Hid (Own 0 5 .u8 w5 (.slice (some ⟨tg, 0, none⟩) ts.length tc) ts) from hto.mono (fun b _ => Nat.zero_le b))
    have HTB := (show Hid (IsB ts) from htb)
    clear hk5 hto htb
    go_wp2_with fail
    have hI : IsI ((ts.length : Int) + 1) := ⟨by omega, by omega⟩
    refine (lwAt_any _ bs1 0 _ _ HB1.out (by omega) (by omega) hI (HV1.out.same HK5.out)).mono ?_
    rintro e w6 ⟨k, rfl, hk, hk6⟩
    obtain ⟨k, rfl, hkl⟩ : ∃ k0 : Nat, k = k0 ∧ k0 ≤ ts.length := by
      by_cases h : (ts.length : Int) + 1 ≤ 1
      · exact ⟨0, by rw [hk.1 h]; rfl, by omega⟩
      · have := hk.2 (by omega)
        exact ⟨k.toNat, by omega, by omega⟩
    have HK6 := (show Hid (Same w w6) from HK5.out.trans hk6)
    have HT6 := (show Hid (Own 0 5 .u8 w6 (.slice (some ⟨tg, 0, none⟩) ts.length tc) ts) from HT5.out.same hk6)
    clear hk hk6 HT5 HK5 hI
    go_wp2_with fail
    refine (implCrc_any _ ts _ HTB.out (by omega) HT6.out.rd).mono ?_
    rintro e w7 ⟨rfl, hk7⟩
    have HK7 := (show Hid (Same w w7) from HK6.out.trans hk7)
    have HT7 := (show Hid (Own 0 5 .u8 w7 (.slice (some ⟨tg, 0, none⟩) ts.length tc) ts) from HT6.out.same hk7)
    clear hk7 HT6 HK6
    obtain ⟨S, hS⟩ : ∃ S, crcOn 0 ts = S := ⟨_, rfl⟩
    have HS := (show Hid (crcOn 0 ts = S) from hS)
    rw [hS]
    clear hS
    go_upto_region 10 with fail
    go_cut [80] (fun c wc => c = .bool false ∧ Hid (Same w7 wc))
    case first =>
      have HRa := (show Hid (∀ wx, Same w7 wx → Rd .u8 wx (.slice (some ⟨tg, 0, none⟩) k tc) (ts.take k)) from fun wx hx => (HT7.out.same hx).rd.front k hkl)
      have htc : ts.length ≤ tc := own_cap HT7.out
      have hk0 : (0 : Int) ≤ (k : Int) := by omega
      have hk1 : (k : Int) ≤ (tc : Int) := by omega
      have hk2 : (k : Int) ≤ (ts.length : Int) := by omega
      by_cases hkc : tc = k
      · replace hkc := hkc.symm
        subst hkc
        have HRb := (show Hid (∀ wx, Same w7 wx → Rd .u8 wx (.slice (some ⟨tg, 0, none⟩) 0 0) (ts.drop k)) from fun wx hx => rd_none (List.drop_eq_nil_of_le (by omega)) rfl)
        have hS : (fun _ : World => True) w7.drew := by trivial
        refine wp_region_V (fun _ : World => True) 99 16 rfl (by kernel_rfl) ?_
        refine wpAnyV_take (i := 0) (v := ?vq1) (some 65) rfl rfl (by kernel_rfl) (by kernel_rfl) (by kernel_rfl) (by kernel_rfl) (fun _ _ _ h => h) (Or.inl ⟨by rfl, ?hyq1⟩) hS ?_
        case hyq1 => (intro w hSw; (try dsimp only at hSw); go_simp; (try with_reducible rfl))
        try simp only [Act.put, List.setIfInBounds_toArray, List.set_cons_zero, List.set_cons_succ]
        refine wpAnyV_take (i := 1) (v := ?vq2) (some 66) rfl rfl (by kernel_rfl) (by kernel_rfl) (by kernel_rfl) (by kernel_rfl) (fun _ _ _ h => h) (Or.inl ⟨by rfl, ?hyq2⟩) hS ?_
        case hyq2 => (intro w hSw; (try dsimp only at hSw); go_simp; (try with_reducible rfl))
        try simp only [Act.put, List.setIfInBounds_toArray, List.set_cons_zero, List.set_cons_succ]
        refine wpAnyV_take (i := 2) (v := ?vq3) (some 67) rfl rfl (by kernel_rfl) (by kernel_rfl) (by kernel_rfl) (by kernel_rfl) (fun _ _ _ h => h) (Or.inl ⟨by rfl, ?hyq3⟩) hS ?_
        case hyq3 => (intro w hSw; (try dsimp only at hSw); go_simp; (try with_reducible rfl))
        try simp only [Act.put, List.setIfInBounds_toArray, List.set_cons_zero, List.set_cons_succ]
        refine wpAnyV_take (i := 4) (v := ?vq4) (some 69) rfl rfl (by kernel_rfl) (by kernel_rfl) (by kernel_rfl) (by kernel_rfl) (fun _ _ _ h => h) (Or.inl ⟨by rfl, ?hyq4⟩) hS ?_
        case hyq4 => (intro w hSw; (try dsimp only at hSw); go_simp; (try with_reducible rfl))
        try simp only [Act.put, List.setIfInBounds_toArray, List.set_cons_zero, List.set_cons_succ]
        refine wpAnyV_take (i := 5) (v := ?vq5) (some 70) rfl rfl (by kernel_rfl) (by kernel_rfl) (by kernel_rfl) (by kernel_rfl) (fun _ _ _ h => h) (Or.inl ⟨by rfl, ?hyq5⟩) hS ?_
        case hyq5 => (intro w hSw; (try dsimp only at hSw); go_simp; (try with_reducible rfl))
        try simp only [Act.put, List.setIfInBounds_toArray, List.set_cons_zero, List.set_cons_succ]
        refine wpAnyV_take (i := 6) (v := ?vq6) (some 71) rfl rfl (by kernel_rfl) (by kernel_rfl) (by kernel_rfl) (by kernel_rfl) (fun _ _ _ h => h) (Or.inl ⟨by rfl, ?hyq6⟩) hS ?_
        case hyq6 => (intro w hSw; (try dsimp only at hSw); go_simp; (try with_reducible rfl))
        try simp only [Act.put, List.setIfInBounds_toArray, List.set_cons_zero, List.set_cons_succ]
        refine wpAnyV_take (i := 8) (v := ?vq7) (some 73) rfl rfl (by kernel_rfl) (by kernel_rfl) (by kernel_rfl) (by kernel_rfl) (fun _ _ _ h => h) (Or.inl ⟨by rfl, ?hyq7⟩) hS ?_
        case hyq7 => (intro w hSw; (try dsimp only at hSw); go_simp; (try with_reducible rfl))
        try simp only [Act.put, List.setIfInBounds_toArray, List.set_cons_zero, List.set_cons_succ]
        refine wpAnyV_one (i := 3) (by kernel_rfl) rfl (fun K hK => ?_)
        go_simp
        have hc := implCrc_any (.slice (some ⟨tg, 0, none⟩) k k) (ts.take k) w7.drew (isB_take HTB.out k) (by simp; omega) (HRa.out _ (Kept.refl _ _).drew)
        with_reducible refine hc.mono ?_
        clear hc
        rintro e w8 ⟨rfl, hkk⟩
        have HKxw8 := (show Hid (Same w7 w8) from (Kept.refl _ _).drew.trans hkk)
        clear hkk
        refine hK.out _ _ (fun _ => trivial) ?_
        clear hK K
        try simp only [Act.put, List.setIfInBounds_toArray, List.set_cons_zero, List.set_cons_succ]
        refine wpAnyV_one (i := 7) (by kernel_rfl) rfl (fun K hK => ?_)
        go_simp
        have hc := implCrcOn_any (crcOn 0 (ts.take k)) (.slice (some ⟨tg, 0, none⟩) 0 0) (ts.drop k) w8 (isB_drop HTB.out k) (by simp; omega) (HRb.out _ HKxw8.out)
        with_reducible refine hc.mono ?_
        clear hc
        rintro e w9 ⟨rfl, hkk⟩
        have HKxw9 := (show Hid (Same w7 w9) from HKxw8.out.trans hkk)
        clear hkk
        rw [crcOn_on _ _ (isB_take HTB.out k), List.take_append_drop, HS.out]
        refine hK.out _ _ (fun _ => trivial) ?_
        clear hK K
        try simp only [Act.put, List.setIfInBounds_toArray, List.set_cons_zero, List.set_cons_succ]
        refine wpAnyV_take (i := 9) (v := ?vq8) (some 74) rfl rfl (by kernel_rfl) (by kernel_rfl) (by kernel_rfl) (by kernel_rfl) (fun _ _ _ h => h) (Or.inl ⟨by rfl, ?hyq8⟩) hS ?_
        case hyq8 => (intro w hSw; (try dsimp only at hSw); go_simp; (try with_reducible rfl))
        try simp only [Act.put, List.setIfInBounds_toArray, List.set_cons_zero, List.set_cons_succ]
        refine wpAnyV_take (i := 10) (v := ?vq9) (some 75) rfl rfl (by kernel_rfl) (by kernel_rfl) (by kernel_rfl) (by kernel_rfl) (fun _ _ _ h => h) (Or.inl ⟨by rfl, ?hyq9⟩) hS ?_
        case hyq9 => (intro w hSw; (try dsimp only at hSw); go_simp; (try with_reducible rfl))
        try simp only [Act.put, List.setIfInBounds_toArray, List.set_cons_zero, List.set_cons_succ]
        refine wpAnyV_take (i := 11) (v := ?vq10) (some 76) rfl rfl (by kernel_rfl) (by kernel_rfl) (by kernel_rfl) (by kernel_rfl) (fun _ _ _ h => h) (Or.inl ⟨by rfl, ?hyq10⟩) hS ?_
        case hyq10 => (intro w hSw; (try dsimp only at hSw); go_simp; (try with_reducible rfl))
        try simp only [Act.put, List.setIfInBounds_toArray, List.set_cons_zero, List.set_cons_succ]
        refine wpAnyV_take (i := 12) (v := ?vq11) (some 77) rfl rfl (by kernel_rfl) (by kernel_rfl) (by kernel_rfl) (by kernel_rfl) (fun _ _ _ h => h) (Or.inl ⟨by rfl, ?hyq11⟩) hS ?_
        case hyq11 => (intro w hSw; (try dsimp only at hSw); go_simp; (try with_reducible rfl))
        try simp only [Act.put, List.setIfInBounds_toArray, List.set_cons_zero, List.set_cons_succ]
        refine wpAnyV_one (i := 13) (by kernel_rfl) rfl (fun K hK => ?_)
        go_simp
        have hc := specCrc_any (.slice (some ⟨tg, 0, none⟩) ts.length k) ts w9 HTB.out (by omega) (HT7.out.same HKxw9.out).rd
        with_reducible refine hc.mono ?_
        clear hc
        rintro e w10 ⟨rfl, hkk⟩
        have HKxw10 := (show Hid (Same w7 w10) from HKxw9.out.trans hkk)
        clear hkk
        rw [HS.out]
        refine hK.out _ _ (fun _ => trivial) ?_
        clear hK K
        try simp only [Act.put, List.setIfInBounds_toArray, List.set_cons_zero, List.set_cons_succ]
        refine wpAnyV_take (i := 14) (v := ?vq12) (some 79) rfl rfl (by kernel_rfl) (by kernel_rfl) (by kernel_rfl) (by kernel_rfl) (fun _ _ _ h => h) (Or.inl ⟨by rfl, ?hyq12⟩) hS ?_
        case hyq12 => (intro w hSw; (try dsimp only at hSw); go_simp; (try with_reducible rfl))
        try simp only [Act.put, List.setIfInBounds_toArray, List.set_cons_zero, List.set_cons_succ]
        refine wpAnyV_take (i := 15) (v := ?vq13) (some 80) rfl rfl (by kernel_rfl) (by kernel_rfl) (by kernel_rfl) (by kernel_rfl) (fun _ _ _ h => h) (Or.inl ⟨by rfl, ?hyq13⟩) hS ?_
        case hyq13 => (intro w hSw; (try dsimp only at hSw); go_simp; (try with_reducible rfl))
        try simp only [Act.put, List.setIfInBounds_toArray, List.set_cons_zero, List.set_cons_succ]
        refine wpAnyV_done (by kernel_rfl) ?_
        go_wp2
        go_meet
        exact ⟨rfl, HKxw10.out⟩
      · have hkc' : k < tc := by omega
        have hkc2 : (k : Int) < (tc : Int) := by omega
        have HRb := (show Hid (∀ wx, Same w7 wx → Rd .u8 wx (.slice (some ⟨tg, k, none⟩) (ts.length - k) (tc - k)) (ts.drop k)) from fun wx hx => by simpa using (HT7.out.same hx).rd.back k hkl)
        have hS : (fun _ : World => True) w7.drew := by trivial
        refine wp_region_V (fun _ : World => True) 99 16 rfl (by kernel_rfl) ?_
        refine wpAnyV_take (i := 0) (v := ?vq14) (some 65) rfl rfl (by kernel_rfl) (by kernel_rfl) (by kernel_rfl) (by kernel_rfl) (fun _ _ _ h => h) (Or.inl ⟨by rfl, ?hyq14⟩) hS ?_
        case hyq14 => (intro w hSw; (try dsimp only at hSw); go_simp; (try with_reducible rfl))
        try simp only [Act.put, List.setIfInBounds_toArray, List.set_cons_zero, List.set_cons_succ]
        refine wpAnyV_take (i := 1) (v := ?vq15) (some 66) rfl rfl (by kernel_rfl) (by kernel_rfl) (by kernel_rfl) (by kernel_rfl) (fun _ _ _ h => h) (Or.inl ⟨by rfl, ?hyq15⟩) hS ?_
        case hyq15 => (intro w hSw; (try dsimp only at hSw); go_simp; (try with_reducible rfl))
        try simp only [Act.put, List.setIfInBounds_toArray, List.set_cons_zero, List.set_cons_succ]
        refine wpAnyV_take (i := 2) (v := ?vq16) (some 67) rfl rfl (by kernel_rfl) (by kernel_rfl) (by kernel_rfl) (by kernel_rfl) (fun _ _ _ h => h) (Or.inl ⟨by rfl, ?hyq16⟩) hS ?_
        case hyq16 => (intro w hSw; (try dsimp only at hSw); go_simp; (try with_reducible rfl))
        try simp only [Act.put, List.setIfInBounds_toArray, List.set_cons_zero, List.set_cons_succ]
        refine wpAnyV_take (i := 4) (v := ?vq17) (some 69) rfl rfl (by kernel_rfl) (by kernel_rfl) (by kernel_rfl) (by kernel_rfl) (fun _ _ _ h => h) (Or.inl ⟨by rfl, ?hyq17⟩) hS ?_
        case hyq17 => (intro w hSw; (try dsimp only at hSw); go_simp; (try with_reducible rfl))
        try simp only [Act.put, List.setIfInBounds_toArray, List.set_cons_zero, List.set_cons_succ]
        refine wpAnyV_take (i := 5) (v := ?vq18) (some 70) rfl rfl (by kernel_rfl) (by kernel_rfl) (by kernel_rfl) (by kernel_rfl) (fun _ _ _ h => h) (Or.inl ⟨by rfl, ?hyq18⟩) hS ?_
        case hyq18 => (intro w hSw; (try dsimp only at hSw); go_simp; (try with_reducible rfl))
        try simp only [Act.put, List.setIfInBounds_toArray, List.set_cons_zero, List.set_cons_succ]
        refine wpAnyV_take (i := 6) (v := ?vq19) (some 71) rfl rfl (by kernel_rfl) (by kernel_rfl) (by kernel_rfl) (by kernel_rfl) (fun _ _ _ h => h) (Or.inl ⟨by rfl, ?hyq19⟩) hS ?_
        case hyq19 => (intro w hSw; (try dsimp only at hSw); go_simp; (try with_reducible rfl))
        try simp only [Act.put, List.setIfInBounds_toArray, List.set_cons_zero, List.set_cons_succ]
        refine wpAnyV_take (i := 8) (v := ?vq20) (some 73) rfl rfl (by kernel_rfl) (by kernel_rfl) (by kernel_rfl) (by kernel_rfl) (fun _ _ _ h => h) (Or.inl ⟨by rfl, ?hyq20⟩) hS ?_
        case hyq20 => (intro w hSw; (try dsimp only at hSw); go_simp; (try with_reducible rfl))
        try simp only [Act.put, List.setIfInBounds_toArray, List.set_cons_zero, List.set_cons_succ]
        refine wpAnyV_one (i := 3) (by kernel_rfl) rfl (fun K hK => ?_)
        go_simp
        have hc := implCrc_any (.slice (some ⟨tg, 0, none⟩) k tc) (ts.take k) w7.drew (isB_take HTB.out k) (by simp; omega) (HRa.out _ (Kept.refl _ _).drew)
        with_reducible refine hc.mono ?_
        clear hc
        rintro e w8 ⟨rfl, hkk⟩
        have HKxw8 := (show Hid (Same w7 w8) from (Kept.refl _ _).drew.trans hkk)
        clear hkk
        refine hK.out _ _ (fun _ => trivial) ?_
        clear hK K
        try simp only [Act.put, List.setIfInBounds_toArray, List.set_cons_zero, List.set_cons_succ]
        refine wpAnyV_one (i := 7) (by kernel_rfl) rfl (fun K hK => ?_)
        go_simp
        have hc := implCrcOn_any (crcOn 0 (ts.take k)) (.slice (some ⟨tg, k, none⟩) (ts.length - k) (tc - k)) (ts.drop k) w8 (isB_drop HTB.out k) (by simp; omega) (HRb.out _ HKxw8.out)
        with_reducible refine hc.mono ?_
        clear hc
        rintro e w9 ⟨rfl, hkk⟩
        have HKxw9 := (show Hid (Same w7 w9) from HKxw8.out.trans hkk)
        clear hkk
        rw [crcOn_on _ _ (isB_take HTB.out k), List.take_append_drop, HS.out]
        refine hK.out _ _ (fun _ => trivial) ?_
        clear hK K
        try simp only [Act.put, List.setIfInBounds_toArray, List.set_cons_zero, List.set_cons_succ]
        refine wpAnyV_take (i := 9) (v := ?vq21) (some 74) rfl rfl (by kernel_rfl) (by kernel_rfl) (by kernel_rfl) (by kernel_rfl) (fun _ _ _ h => h) (Or.inl ⟨by rfl, ?hyq21⟩) hS ?_
        case hyq21 => (intro w hSw; (try dsimp only at hSw); go_simp; (try with_reducible rfl))
        try simp only [Act.put, List.setIfInBounds_toArray, List.set_cons_zero, List.set_cons_succ]
        refine wpAnyV_take (i := 10) (v := ?vq22) (some 75) rfl rfl (by kernel_rfl) (by kernel_rfl) (by kernel_rfl) (by kernel_rfl) (fun _ _ _ h => h) (Or.inl ⟨by rfl, ?hyq22⟩) hS ?_
        case hyq22 => (intro w hSw; (try dsimp only at hSw); go_simp; (try with_reducible rfl))
        try simp only [Act.put, List.setIfInBounds_toArray, List.set_cons_zero, List.set_cons_succ]
        refine wpAnyV_take (i := 11) (v := ?vq23) (some 76) rfl rfl (by kernel_rfl) (by kernel_rfl) (by kernel_rfl) (by kernel_rfl) (fun _ _ _ h => h) (Or.inl ⟨by rfl, ?hyq23⟩) hS ?_
        case hyq23 => (intro w hSw; (try dsimp only at hSw); go_simp; (try with_reducible rfl))
        try simp only [Act.put, List.setIfInBounds_toArray, List.set_cons_zero, List.set_cons_succ]
        refine wpAnyV_take (i := 12) (v := ?vq24) (some 77) rfl rfl (by kernel_rfl) (by kernel_rfl) (by kernel_rfl) (by kernel_rfl) (fun _ _ _ h => h) (Or.inl ⟨by rfl, ?hyq24⟩) hS ?_
        case hyq24 => (intro w hSw; (try dsimp only at hSw); go_simp; (try with_reducible rfl))
        try simp only [Act.put, List.setIfInBounds_toArray, List.set_cons_zero, List.set_cons_succ]
        refine wpAnyV_one (i := 13) (by kernel_rfl) rfl (fun K hK => ?_)
        go_simp
        have hc := specCrc_any (.slice (some ⟨tg, 0, none⟩) ts.length tc) ts w9 HTB.out (by omega) (HT7.out.same HKxw9.out).rd
        with_reducible refine hc.mono ?_
        clear hc
        rintro e w10 ⟨rfl, hkk⟩
        have HKxw10 := (show Hid (Same w7 w10) from HKxw9.out.trans hkk)
        clear hkk
        rw [HS.out]
        refine hK.out _ _ (fun _ => trivial) ?_
        clear hK K
        try simp only [Act.put, List.setIfInBounds_toArray, List.set_cons_zero, List.set_cons_succ]
        refine wpAnyV_take (i := 14) (v := ?vq25) (some 79) rfl rfl (by kernel_rfl) (by kernel_rfl) (by kernel_rfl) (by kernel_rfl) (fun _ _ _ h => h) (Or.inl ⟨by rfl, ?hyq25⟩) hS ?_
        case hyq25 => (intro w hSw; (try dsimp only at hSw); go_simp; (try with_reducible rfl))
        try simp only [Act.put, List.setIfInBounds_toArray, List.set_cons_zero, List.set_cons_succ]
        refine wpAnyV_take (i := 15) (v := ?vq26) (some 80) rfl rfl (by kernel_rfl) (by kernel_rfl) (by kernel_rfl) (by kernel_rfl) (fun _ _ _ h => h) (Or.inl ⟨by rfl, ?hyq26⟩) hS ?_
        case hyq26 => (intro w hSw; (try dsimp only at hSw); go_simp; (try with_reducible rfl))
        try simp only [Act.put, List.setIfInBounds_toArray, List.set_cons_zero, List.set_cons_succ]
        refine wpAnyV_done (by kernel_rfl) ?_
        go_wp2
        go_meet
        exact ⟨rfl, HKxw10.out⟩
    case rest =>
      obtain ⟨rfl, HKc2⟩ := hcut
      have HKr := (show Hid (Same w wc) from HK7.out.trans HKc2.out)
      have HTr := (show Hid (Own 0 5 .u8 wc (.slice (some ⟨tg, 0, none⟩) ts.length tc) ts) from HT7.out.same HKc2.out)
      clear HKc2 HK7 HT7
      by_cases hz : ts.length = 0
      · have hS0 : S = 0 := by
          have h := HS.out
          rw [List.eq_nil_of_length_eq_zero hz] at h
          rw [← h]
          rfl
        subst hS0
        go_wp2
        go_ret
        exact ⟨rfl, HKr.out⟩
      · obtain ⟨i0, hi, hz0, hz1, hz2⟩ := info_parts Try.infoByte'
        have HC : Hid (∀ i, i < ts.length → (wc.alloc (.cells #[] 5)).cell? ⟨tg, 0 + i, none⟩ = some (.int .u8 (ts.getD i 0))) := fun i hi => by
          have h := ((Kept.refl (fun _ => False) wc).alloc (.cells #[] 5)).cellOf (HTr.out.cell rfl i hi) id
          rw [Nat.zero_add]
          exact h
        go_wp2_with (at_builtin; go_loud (refine wpList_append_own _ rfl _ _ 22 rfl wc.heap.size 5 i0 (.int .u8 0) 1 1 Try.underlying22 hi hz0 hz1 hz2 rfl (by decide) (.slice (some ⟨wc.heap.size, 0, none⟩) 0 0) 0 [] rfl (World.ownsRow_made wc #[] 0 (Nat.le_refl _) (by simp) (by simp)) ⟨tg, 0, none⟩ ts.length tc (vals .u8 ts) rfl (by simp [vals_length]) (news_of HC.out) vals_one (by unfold maxLen; omega) (by omega) (by simp) ?_); intro v' w11 hown1 hgrow1 _; have HF := (show Hid (Own wc.heap.size 5 .u8 w11 v' ts) from (by simpa [Own, Hid] using hown1)); have HK11 : Hid (Same wc w11) := ((Kept.refl _ _).alloc _).grown hgrow1 (fun k e => .inl (by simp [Value.ownBlock] at e; omega)); obtain ⟨aa, na, ca, rfl⟩ := slice_of_own HF.out; clear hown1 hgrow1)
        obtain ⟨gb, e1, e2⟩ : ∃ gb, aa = some ⟨gb, 0, none⟩ ∧ na = ts.length := by
          rcases HF.out.form with ⟨h, h'⟩ | ⟨g2, cap, h, _⟩
          · rw [h'] at hz
            exact absurd rfl hz
          · cases h
            exact ⟨g2, rfl, rfl⟩
        subst e1
        subst e2
        have hI : IsI (8 * (ts.length : Int)) := ⟨by omega, by omega⟩
        refine (lwAt_any _ bs1 1 _ _ HB1.out (by omega) (by omega) hI (HV1.out.same (HKr.out.trans HK11.out))).mono ?_
        rintro e w12 ⟨fr, rfl, hfr, hk12⟩
        obtain ⟨fr, rfl⟩ : ∃ f0 : Nat, fr = f0 := ⟨fr.toNat, by have := hfr.2 (by omega); omega⟩
        have hfr2 := (hfr.2 (by omega)).2
        have HK12 := (show Hid (Same wc w12) from HK11.out.trans hk12)
        have HF12 := (show Hid (Own wc.heap.size 5 .u8 w12 (.slice (some ⟨gb, 0, none⟩) ts.length ca) ts) from HF.out.same hk12)
        clear hk12 hfr hI HF HK11 HC HTr
        go_wp2
        go_loopw [13] (fun i wr => ∃ (j b : Nat) (bs : List Int), j ≤ 32 ∧ fr + j ≤ 8 * ts.length ∧ i = .int .i64 j ∧ Hid (bs.length = ts.length) ∧ Hid (IsB bs) ∧ Hid (le bs = le ts ^^^ 2 ^ fr * b) ∧ Hid (b < 2 ^ j) ∧ Hid (1 ≤ j → b ≠ 0) ∧
            Hid (Own wc.heap.size 5 .u8 wr (.slice (some ⟨gb, 0, none⟩) ts.length ca) bs) ∧ Hid (Same wc wr)) (fun i _ => 32 - (intOf i).toNat)
        case atStart => exact ⟨0, 0, ts, by omega, by omega, rfl, rfl, HTB.out, by simp [Hid], by simp [Hid], fun h => by omega, HF12, HK12⟩
        case round =>
          obtain ⟨j, b, bs, hj, hjf, rfl, HL, HBb, HLe, HBl, HBn, HO, HKw⟩ := hrel
          by_cases hgo : j < 32 ∧ fr + j < 8 * ts.length
          · obtain ⟨hg1, hg2⟩ := hgo
            have hg3 : (fr : Int) + (j : Int) < 8 * (ts.length : Int) := by omega
            by_cases hj0 : j = 0
            · have hjb : ((j : Int) == 0) = true := by subst hj0; rfl
              have hj00 : j ≤ 0 := by omega
              clear hj0
              have hq : (fr + j) / 8 < bs.length := by have := HL.out; omega
              have HLB := (show Hid (_ = _) from le_bit bs ts fr j b hq HLe.out)
              have hbm := bit_more b j HBl.out
              have HBM := (show Hid (b ^^^ 2 ^ j < 2 ^ (j + 1) ∧ b ^^^ 2 ^ j ≠ 0) from hbm)
              clear hbm
              have hsx := shl_small ((fr + j) % 8) (by omega)
              have hs7 : (2 : Int) ^ ((fr + j) % 8) ≤ 128 := by
                have h2 : 2 ^ ((fr + j) % 8) ≤ 2 ^ 7 := Nat.pow_le_pow_right (by decide) (by omega)
                have e : ((2 ^ ((fr + j) % 8) : Nat) : Int) = (2 : Int) ^ ((fr + j) % 8) := by simp
                rw [← e]
                omega
              have hX := HBb.out.at ((fr + j) / 8) hq
              have hx := u8_xor (bs.getD ((fr + j) / 8) 0) (2 ^ ((fr + j) % 8)) hX.1 (by have := hX.2; omega) (by omega) (by omega)
              have ht2 : ((2 : Int) ^ ((fr + j) % 8)).toNat = 2 ^ ((fr + j) % 8) := by
                have e : ((2 ^ ((fr + j) % 8) : Nat) : Int) = (2 : Int) ^ ((fr + j) % 8) := by simp
                rw [← e, Int.toNat_natCast]
              rw [ht2] at hx
              have hnew : (((bs.getD ((fr + j) / 8) 0).toNat ^^^ 2 ^ ((fr + j) % 8) : Nat)) < 256 := by
                refine Nat.xor_lt_two_pow (n := 8) (by omega) ?_
                have h2 : 2 ^ ((fr + j) % 8) ≤ 2 ^ 7 := Nat.pow_le_pow_right (by decide) (by omega)
                exact Nat.lt_of_le_of_lt h2 (by decide)
              have c1 := HO.out.cell (by rw [HL.out]) ((fr + j) / 8) (by have := HL.out; omega)
              have f1 := HO.out.frozen (by rw [HL.out]) ((fr + j) / 8)
              have HIB := (show Hid (IsB (bs.set ((fr + j) / 8) (((bs.getD ((fr + j) / 8) 0).toNat ^^^ 2 ^ ((fr + j) % 8) : Nat) : Int))) from isB_set HBb.out _ _ (by omega) (by omega))
              have HOS := (show Hid (∀ z, Own wc.heap.size 5 .u8 (wr.setCell ⟨gb, (fr + j) / 8, none⟩ (.int .u8 z)) (.slice (some ⟨gb, 0, none⟩) ts.length ca) (bs.set ((fr + j) / 8) z)) from fun z => HO.out.stored (by rw [HL.out]) _ z)
              have HLS := (show Hid (∀ z : Int, (bs.set ((fr + j) / 8) z).length = ts.length) from fun z => by rw [List.length_set]; exact HL.out)
              have m1 : ((fr : Int) + (j : Int)) % 8 = (((fr + j) % 8 : Nat) : Int) := by omega
              have m2 : ((fr : Int) + (j : Int)) / 8 = (((fr + j) / 8 : Nat) : Int) := by omega
              have l1 : (((fr + j) / 8 : Nat) : Int) < (ts.length : Int) := by omega
              have l2 : (fr + j) % 8 < 8 := by omega
              have hkw : wr.heap.size ≥ wc.heap.size := HKw.out.size
              generalize bs.getD ((fr + j) / 8) 0 = X at *
              generalize hgs : (fr + j) % 8 = sft at *
              generalize hgq : (fr + j) / 8 = q at *
              clear hgs hgq ht2 hq
              obtain ⟨Z, hZ⟩ : ∃ Z : Nat, X.toNat ^^^ 2 ^ sft = Z := ⟨_, rfl⟩
              rw [hZ] at hx hnew HLB HIB
              clear hZ
              have hmod : (2 : Int) ^ sft % 256 = (2 : Int) ^ sft := Int.emod_eq_of_lt (by omega) (by omega)
              go_wp2
              go_roundw
              case rel =>
                refine ⟨j + 1, b ^^^ 2 ^ j, bs.set q (Z : Int), by omega, by omega, by go_num, HLS.out _, HIB, HLB, HBM.out.1, fun _ => HBM.out.2, HOS.out _, ?_⟩
                exact HKw.out.setCell (.inl (HO.out.lt gb rfl).1) _
              case measure => simp [intOf]; omega
            · have hj1 : ¬ (j : Int) = 0 := by omega
              go_wp2_with fail
              have hI2 : IsI (2 : Int) := ⟨by decide, by decide⟩
              refine (lwAt_any _ bs1 (2 + j) 2 _ HB1.out (by omega) (by omega) hI2 (HV1.out.same (HKr.out.trans HKw.out))).mono ?_
              rintro e w13 ⟨r, rfl, hr, hk13⟩
              have hr2 := hr.2 (by decide)
              have HK13 := (show Hid (Same wc w13) from HKw.out.trans hk13)
              have HO13 := (show Hid (Own wc.heap.size 5 .u8 w13 (.slice (some ⟨gb, 0, none⟩) ts.length ca) bs) from HO.out.same hk13)
              clear hk13 hr hI2
              by_cases hr0 : r = 0
              · subst hr0
                have hq : (fr + j) / 8 < bs.length := by have := HL.out; omega
                have HLB := (show Hid (_ = _) from le_bit bs ts fr j b hq HLe.out)
                have hbm := bit_more b j HBl.out
                have HBM := (show Hid (b ^^^ 2 ^ j < 2 ^ (j + 1) ∧ b ^^^ 2 ^ j ≠ 0) from hbm)
                clear hbm
                have hsx := shl_small ((fr + j) % 8) (by omega)
                have hs7 : (2 : Int) ^ ((fr + j) % 8) ≤ 128 := by
                  have h2 : 2 ^ ((fr + j) % 8) ≤ 2 ^ 7 := Nat.pow_le_pow_right (by decide) (by omega)
                  have e : ((2 ^ ((fr + j) % 8) : Nat) : Int) = (2 : Int) ^ ((fr + j) % 8) := by simp
                  rw [← e]
                  omega
                have hX := HBb.out.at ((fr + j) / 8) hq
                have hx := u8_xor (bs.getD ((fr + j) / 8) 0) (2 ^ ((fr + j) % 8)) hX.1 (by have := hX.2; omega) (by omega) (by omega)
                have ht2 : ((2 : Int) ^ ((fr + j) % 8)).toNat = 2 ^ ((fr + j) % 8) := by
                  have e : ((2 ^ ((fr + j) % 8) : Nat) : Int) = (2 : Int) ^ ((fr + j) % 8) := by simp
                  rw [← e, Int.toNat_natCast]
                rw [ht2] at hx
                have hnew : (((bs.getD ((fr + j) / 8) 0).toNat ^^^ 2 ^ ((fr + j) % 8) : Nat)) < 256 := by
                  refine Nat.xor_lt_two_pow (n := 8) (by omega) ?_
                  have h2 : 2 ^ ((fr + j) % 8) ≤ 2 ^ 7 := Nat.pow_le_pow_right (by decide) (by omega)
                  exact Nat.lt_of_le_of_lt h2 (by decide)
                have c1 := HO13.out.cell (by rw [HL.out]) ((fr + j) / 8) (by have := HL.out; omega)
                have f1 := HO13.out.frozen (by rw [HL.out]) ((fr + j) / 8)
                have HIB := (show Hid (IsB (bs.set ((fr + j) / 8) (((bs.getD ((fr + j) / 8) 0).toNat ^^^ 2 ^ ((fr + j) % 8) : Nat) : Int))) from isB_set HBb.out _ _ (by omega) (by omega))
                have HOS := (show Hid (∀ z, Own wc.heap.size 5 .u8 (w13.setCell ⟨gb, (fr + j) / 8, none⟩ (.int .u8 z)) (.slice (some ⟨gb, 0, none⟩) ts.length ca) (bs.set ((fr + j) / 8) z)) from fun z => HO13.out.stored (by rw [HL.out]) _ z)
                have HLS := (show Hid (∀ z : Int, (bs.set ((fr + j) / 8) z).length = ts.length) from fun z => by rw [List.length_set]; exact HL.out)
                have m1 : ((fr : Int) + (j : Int)) % 8 = (((fr + j) % 8 : Nat) : Int) := by omega
                have m2 : ((fr : Int) + (j : Int)) / 8 = (((fr + j) / 8 : Nat) : Int) := by omega
                have l1 : (((fr + j) / 8 : Nat) : Int) < (ts.length : Int) := by omega
                have l2 : (fr + j) % 8 < 8 := by omega
                have hkw : w13.heap.size ≥ wc.heap.size := HK13.out.size
                generalize bs.getD ((fr + j) / 8) 0 = X at *
                generalize hgs : (fr + j) % 8 = sft at *
                generalize hgq : (fr + j) / 8 = q at *
                clear hgs hgq ht2 hq
                obtain ⟨Z, hZ⟩ : ∃ Z : Nat, X.toNat ^^^ 2 ^ sft = Z := ⟨_, rfl⟩
                rw [hZ] at hx hnew HLB HIB
                clear hZ
                have hmod : (2 : Int) ^ sft % 256 = (2 : Int) ^ sft := Int.emod_eq_of_lt (by omega) (by omega)
                go_wp2
                go_roundw
                case rel =>
                  refine ⟨j + 1, b ^^^ 2 ^ j, bs.set q (Z : Int), by omega, by omega, by go_num, HLS.out _, HIB, HLB, HBM.out.1, fun _ => HBM.out.2, HOS.out _, ?_⟩
                  exact HK13.out.setCell (.inl (HO.out.lt gb rfl).1) _
                case measure => simp [intOf]; omega
              · have hrb : (r == 0) = false := by simpa using hr0
                go_wp2
                go_roundw
                case rel =>
                  have hp : b < 2 ^ (j + 1) := Nat.lt_of_lt_of_le HBl.out (Nat.pow_le_pow_right (by decide) (by omega))
                  exact ⟨j + 1, b, bs, by omega, by omega, by go_num, HL, HBb, HLe, hp, fun _ => HBn.out (by omega), HO13, HK13⟩
                case measure => simp [intOf]; omega
          · have hj1 : 1 ≤ j := by omega
            have hpw : 2 ^ j ≤ 2 ^ 32 := Nat.pow_le_pow_right (by decide) hj
            have hb32 : b < 4294967296 := Nat.lt_of_lt_of_le HBl.out hpw
            clear hpw
            have HNE := (show Hid (crcOn 0 bs ≠ S) from by rw [← HS.out]; exact crc_burst bs ts fr b HL.out (by omega) HLe.out hb32 (HBn.out hj1))
            have hRd := HO.out.rd
            have HRd := (show Hid (Rd .u8 wr (.slice (some ⟨gb, 0, none⟩) ts.length ca) bs) from hRd)
            clear hRd
            go_wp2_with (go_at_call 15; refine (implCrc_any _ bs _ HBb.out (by have := HL.out; omega) HRd.out).mono ?_; rintro e w14 ⟨rfl, hk14⟩)
            all_goals
              have hb : (crcOn 0 bs != S) = true := by simpa using HNE.out
              go_ret
              exact ⟨congrArg (fun b => Ending.returned (.bool b)) hb, HKr.out.trans (HKw.out.trans hk14)⟩
end Go.Proofs.Ytbcklddadfnkgaa
