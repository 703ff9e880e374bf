import Derived.Test.YtommabejmpafcaaG10
namespace Go.Proofs.Ytommabejmpafcaa
set_option maxRecDepth 100000
set_option maxHeartbeats 8000000
open Go.RowKit
set_option linter.unusedVariables false
set_option linter.unusedSimpArgs false
def loadP (ps : List EFrame) (hand frame page : Int) (bs : List Int) : Int × Int × Int × List (Int × List Int × Int × Bool × Int × Bool) := turnP (loadT frame page bs ps) ps hand
theorem loadP_dat {ps qs : List EFrame} {hand frame page : Int} {bs : List Int} (h : datFrameS qs = datFrameS ps) : loadP qs hand frame page bs = loadP ps hand frame page bs := by
  unfold loadP
  rw [loadT_dat h, turnP_dat h]
theorem loadP_small {ps qs : List EFrame} {hand frame page a b c : Int} {bs : List Int} (h : (a, b, c, datFrameS qs) = loadP ps hand frame page bs) : SmallF (datFrameS qs) := by
  refine turnP_small h (fun h0 h1 => ?_)
  unfold loadT at h1 ⊢
  by_cases h2 : frame < 0 ∨ (ps.length : Int) ≤ frame
  · rw [if_pos h2]; exact small_dat h0
  rw [if_neg h2] at h1 ⊢
  cases hd : (datFrameS ps)[frame.toNat]? with
  | none => exact small_nil
  | some d =>
    dsimp only
    by_cases h3 : 0 < d.2.2.1 ∨ d.2.2.2.1 = true
    · rw [if_pos h3]; exact small_dat h0
    rw [if_neg h3]
    by_cases h4 : isPageB page = false ∨ bs.length ≠ 4096
    · rw [if_pos h4]; exact small_dat h0
    rw [if_neg h4]
    by_cases h5 : findB page ps ≠ -1 ∧ findB page ps ≠ frame
    · rw [if_pos h5]; exact small_dat h0
    rw [if_neg h5]
    have h6 : bs.length = 4096 := Classical.byContradiction fun e => h4 (.inr e)
    exact small_set (small_dat h0) (by dsimp only; omega)
theorem isPage_in (page : Int) : isPageB page = inB page 0 15 := by
  unfold isPageB inB
  rw [Bool.eq_iff_iff]
  simp
  omega
theorem specPoolLoad_any (v : Value) (hand frame page : Int) (u : Value) (bs : List Int) (ps : List EFrame) (w : World) (hv : RdR kFrame w v ps) (hbl : bs.length ≤ 1099511627776) (hu : Rd .u8 w u bs) :
    Calls Try.prog 33 #[.agg #[v, .int .i64 hand], .int .i64 frame, .int .i64 page, u] w fun e w' => ∃ cd fr a n c hd qs, e = .returned (.agg #[.int .i64 cd, .int .i64 fr, .slice a n c, .int .i64 hd]) ∧ (cd, fr, hd, datFrameS qs) = loadP ps hand frame page bs ∧ (∀ b, footR kFrame (.slice a n c) qs b → w.heap.size ≤ b) ∧ OwnR kFrame 0 36 5 w' (.slice a n c) qs ∧ Same w w' := by
  obtain ⟨a, c, rfl⟩ := hv.form
  obtain ⟨au, cu, rfl⟩ := hu.form
  have HV := (show Hid (RdR kFrame w (.slice a ps.length c) ps) from hv)
  have HU := (show Hid (Rd .u8 w (.slice au bs.length cu) bs) from hu)
  have HBL : Hid (bs.length ≤ 1099511627776) := hbl
  clear hv hu hbl
  have hk0 : Same w ((w.alloc (.cells #[.slice a ps.length c, .int .i64 hand] 25)).alloc (.cells #[.int .i64 0, .int .i64 0, .slice none 0 0, .int .i64 0] 33)) := ((Kept.refl _ _).alloc _).alloc _
  have k0 := specPoolFault_any (.slice a ps.length c) hand ps _ (HV.out.same hk0)
  have b0 := Blk.newA w [.slice a ps.length c, .int .i64 hand] 25 [.int .i64 0, .int .i64 0, .slice none 0 0, .int .i64 0] 33
  have b1 := Blk.newB w [.slice a ps.length c, .int .i64 hand] 25 [.int .i64 0, .int .i64 0, .slice none 0 0, .int .i64 0] 33
  obtain ⟨q, hq⟩ : ∃ q, poolF ps hand = q := ⟨_, rfl⟩
  have HQ : Hid (poolF ps hand = q) := hq
  rw [hq] at k0
  go_enter Try.func33, Try.ntmps33
  go_wp2_with fail
  refine k0.mono ?_
  rintro e w1 ⟨rfl, hk1⟩
  have HK1 := (show Hid (Same w w1) from hk0.trans hk1)
  have HB0 := (show Hid (Blk w1 w.heap.size 25 [.slice a ps.length c, .int .i64 hand]) from b0.same hk1)
  have HB1 := (show Hid (Blk w1 (w.heap.size + 1) 33 [.int .i64 0, .int .i64 0, .slice none 0 0, .int .i64 0]) from b1.same hk1)
  clear hk0 hk1 b0 b1 k0
  obtain ⟨g0, g1⟩ := HB0.out.all2
  obtain ⟨z0, z1, z2, z3⟩ := HB1.out.all4
  have fz := HB1.out.frozen
  have lz := HB1.out.lt
  by_cases h0 : q = 0
  case neg =>
    have HT0 : Hid (loadP ps hand frame page bs = (1, 0, 0, [])) := if_pos (by rw [HQ.out]; exact h0)
    clear hq
    go_wp2
    refine bodyPost_ret (v := .agg #[.int .i64 1, .int .i64 0, .slice none 0 0, .int .i64 0]) (by simp [results, Try.results33, go_sem, z0, z1, z2, z3]) rfl ⟨1, 0, none, 0, 0, 0, [], rfl, ?_, fun b hb => absurd hb (footR_nil b), OwnR.nil _ _ _ _ _, ?_⟩
    · rw [HT0.out]
      rfl
    · (iterate 4 refine Kept.setCell ?_ (.inl (Nat.le_succ _)) _)
      exact HK1.out
  subst h0
  have HP : Hid (∀ x : Int × Int × List (Int × List Int × Int × Bool × Int × Bool), loadT frame page bs ps = x → loadP ps hand frame page bs = if x.1 ≠ 0 then (x.1, 0, 0, []) else (0, x.2.1, hand, x.2.2)) := fun x hx => by
    unfold loadP turnP
    rw [if_neg (by rw [HQ.out]; simp), hx]
  obtain ⟨hl1, hl16, _, _⟩ := poolF_len hq
  have hfr := frame_of hq
  have HM : Hid (∀ p ∈ ps, p.bs.length ≤ 1099511627776) := fun p hp => Nat.le_trans (hfr p hp).2 (by omega)
  obtain ⟨b, off, rfl, hc⟩ : ∃ b off, a = some ⟨b, off, none⟩ ∧ ∀ j i, (h : j < ps.length) → i < 6 → w.cell? ⟨b, off + (j * 6 + i), none⟩ = (kFrame.cells ps[j])[i]? := by
    rcases HV.out.row with ⟨hps, _⟩ | ⟨b, off, c', he, hc⟩
    · rw [hps] at hl1; simp at hl1
    · injection he with he1 he2 he3
      exact ⟨b, off, he1, hc⟩
  have HC : Hid (∀ j i, (h : j < ps.length) → i < 6 → w.cell? ⟨b, off + (j * 6 + i), none⟩ = (kFrame.cells ps[j])[i]?) := hc
  obtain ⟨len, hl⟩ : ∃ n, ps.length = n := ⟨_, rfl⟩
  have HL : Hid (ps.length = len) := hl
  have HE0 : Hid (frame < 0 ∨ (len : Int) ≤ frame → loadP ps hand frame page bs = (2, 0, 0, [])) := fun h => by
    rw [HP.out (2, 0, datFrameS ps) (if_pos (by rw [hl]; exact h))]
    rfl
  rw [hl] at HV HB0 g0 hl1 hl16
  clear hc hfr hq
  by_cases h1 : frame < 0
  · have HT0 := hid (HE0.out (.inl h1))
    clear hl
    go_wp2
    refine bodyPost_ret (v := .agg #[.int .i64 2, .int .i64 0, .slice none 0 0, .int .i64 0]) (by simp [results, Try.results33, go_sem, z0, z1, z2, z3]) rfl ⟨2, 0, none, 0, 0, 0, [], rfl, ?_, fun b hb => absurd hb (footR_nil b), OwnR.nil _ _ _ _ _, ?_⟩
    · rw [HT0.out]
      rfl
    · (iterate 4 refine Kept.setCell ?_ (.inl (Nat.le_succ _)) _)
      exact HK1.out
  by_cases h2 : (len : Int) ≤ frame
  · have HT0 := hid (HE0.out (.inr h2))
    clear hl
    go_wp2
    refine bodyPost_ret (v := .agg #[.int .i64 2, .int .i64 0, .slice none 0 0, .int .i64 0]) (by simp [results, Try.results33, go_sem, z0, z1, z2, z3]) rfl ⟨2, 0, none, 0, 0, 0, [], rfl, ?_, fun b hb => absurd hb (footR_nil b), OwnR.nil _ _ _ _ _, ?_⟩
    · rw [HT0.out]
      rfl
    · (iterate 4 refine Kept.setCell ?_ (.inl (Nat.le_succ _)) _)
      exact HK1.out
  obtain ⟨k, rfl⟩ : ∃ k : Nat, frame = (k : Int) := ⟨frame.toNat, by omega⟩
  have hkl : k < ps.length := by omega
  obtain ⟨p, hp⟩ : ∃ p, ps[k] = p := ⟨_, rfl⟩
  have hc2 : w.cell? ⟨b, off + k * 6 + 2, none⟩ = some (.int .i64 p.pins) := by have h := HC.out k 2 hkl (by decide); rw [← Nat.add_assoc, hp] at h; exact h
  have hc3 : w.cell? ⟨b, off + k * 6 + 3, none⟩ = some (.bool p.dirty) := by have h := HC.out k 3 hkl (by decide); rw [← Nat.add_assoc, hp] at h; exact h
  have HT : Hid (loadT (k : Int) page bs ps = if 0 < p.pins ∨ p.dirty = true then (2, 0, datFrameS ps) else
    if isPageB page = false ∨ bs.length ≠ 4096 then (3, 0, datFrameS ps) else
    if findB page ps ≠ -1 ∧ findB page ps ≠ (k : Int) then (4, 0, datFrameS ps) else
    (0, (k : Int), (datFrameS ps).set k (page, bs, 0, false, 0, true))) := by
    unfold loadT Hid
    rw [if_neg (by omega), Int.toNat_natCast, dat_at (List.getElem?_eq_getElem hkl), hp]
    rfl
  have d2 := HK1.out.cellOf hc2 id
  have d3 := HK1.out.cellOf hc3 id
  have hki : (k : Int) < (len : Int) := by omega
  clear hl hc2 hc3
  obtain ⟨pn, hpn⟩ : ∃ x, p.pins = x := ⟨_, rfl⟩
  rw [hpn] at HT d2
  by_cases h3 : 0 < pn
  · have HT0 : Hid (loadP ps hand (k : Int) page bs = (2, 0, 0, [])) := (HP.out _ (HT.out.trans (if_pos (.inl h3)))).trans (if_pos (by simp))
    go_wp2
    refine bodyPost_ret (v := .agg #[.int .i64 2, .int .i64 0, .slice none 0 0, .int .i64 0]) (by simp [results, Try.results33, go_sem, z0, z1, z2, z3]) rfl ⟨2, 0, none, 0, 0, 0, [], rfl, ?_, fun b hb => absurd hb (footR_nil b), OwnR.nil _ _ _ _ _, ?_⟩
    · rw [HT0.out]
      rfl
    · (iterate 4 refine Kept.setCell ?_ (.inl (Nat.le_succ _)) _)
      exact HK1.out
  cases hdt : p.dirty with
  | true =>
    have HT0 : Hid (loadP ps hand (k : Int) page bs = (2, 0, 0, [])) := (HP.out _ (HT.out.trans (if_pos (.inr hdt)))).trans (if_pos (by simp))
    rw [hdt] at d3
    go_wp2
    refine bodyPost_ret (v := .agg #[.int .i64 2, .int .i64 0, .slice none 0 0, .int .i64 0]) (by simp [results, Try.results33, go_sem, z0, z1, z2, z3]) rfl ⟨2, 0, none, 0, 0, 0, [], rfl, ?_, fun b hb => absurd hb (footR_nil b), OwnR.nil _ _ _ _ _, ?_⟩
    · rw [HT0.out]
      rfl
    · (iterate 4 refine Kept.setCell ?_ (.inl (Nat.le_succ _)) _)
      exact HK1.out
  | false =>
    rw [hdt] at d3
    have HT1 : Hid (loadT (k : Int) page bs ps = if isPageB page = false ∨ bs.length ≠ 4096 then (3, 0, datFrameS ps) else
      if findB page ps ≠ -1 ∧ findB page ps ≠ (k : Int) then (4, 0, datFrameS ps) else
      (0, (k : Int), (datFrameS ps).set k (page, bs, 0, false, 0, true))) := HT.out.trans (if_neg (by rw [hdt]; simp; omega))
    clear HT hpn
    have kin := l4In_any page 0 15
    obtain ⟨nb, hnb⟩ : ∃ x, bs.length = x := ⟨_, rfl⟩
    rw [hnb] at HT1 HU ⊢
    clear hnb
    rw [isPage_in] at HT1
    cases hpg : inB page 0 15 with
    | false =>
      rw [hpg] at kin
      have HT0 : Hid (loadP ps hand (k : Int) page bs = (3, 0, 0, [])) := (HP.out _ (HT1.out.trans (if_pos (.inl hpg)))).trans (if_pos (by simp))
      clear z0 z1 z2 z3 fz lz
      go_wp2_with fail
      refine (kin _).mono ?_
      rintro e w2 ⟨rfl, hk2⟩
      have HK2 := (show Hid (Same w w2) from HK1.out.trans hk2)
      obtain ⟨z0, z1, z2, z3⟩ := (HB1.out.same hk2).all4
      have fz := (HB1.out.same hk2).frozen
      have lz := (HB1.out.same hk2).lt
      go_wp2
      refine bodyPost_ret (v := .agg #[.int .i64 3, .int .i64 0, .slice none 0 0, .int .i64 0]) (by simp [results, Try.results33, go_sem, z0, z1, z2, z3]) rfl ⟨3, 0, none, 0, 0, 0, [], rfl, ?_, fun b hb => absurd hb (footR_nil b), OwnR.nil _ _ _ _ _, ?_⟩
      · rw [HT0.out]
        rfl
      · (iterate 4 refine Kept.setCell ?_ (.inl (Nat.le_succ _)) _)
        exact HK2.out
    | true =>
      rw [hpg] at kin
      clear z0 z1 z2 z3 fz lz
      by_cases h4 : nb = 4096
      case neg =>
        have h4' : ¬ (nb : Int) = 4096 := by omega
        have HT0 : Hid (loadP ps hand (k : Int) page bs = (3, 0, 0, [])) := (HP.out _ (HT1.out.trans (if_pos (.inr h4)))).trans (if_pos (by simp))
        go_wp2_with fail
        refine (kin _).mono ?_
        rintro e w2 ⟨rfl, hk2⟩
        have HK2 := (show Hid (Same w w2) from HK1.out.trans hk2)
        obtain ⟨z0, z1, z2, z3⟩ := (HB1.out.same hk2).all4
        have fz := (HB1.out.same hk2).frozen
        have lz := (HB1.out.same hk2).lt
        go_wp2
        refine bodyPost_ret (v := .agg #[.int .i64 3, .int .i64 0, .slice none 0 0, .int .i64 0]) (by simp [results, Try.results33, go_sem, z0, z1, z2, z3]) rfl ⟨3, 0, none, 0, 0, 0, [], rfl, ?_, fun b hb => absurd hb (footR_nil b), OwnR.nil _ _ _ _ _, ?_⟩
        · rw [HT0.out]
          rfl
        · (iterate 4 refine Kept.setCell ?_ (.inl (Nat.le_succ _)) _)
          exact HK2.out
      subst h4
      have HT2 : Hid (loadT (k : Int) page bs ps = if findB page ps ≠ -1 ∧ findB page ps ≠ (k : Int) then (4, 0, datFrameS ps) else
        (0, (k : Int), (datFrameS ps).set k (page, bs, 0, false, 0, true))) := HT1.out.trans (if_neg (by rw [hpg]; simp))
      clear HT1
      go_wp2_with fail
      refine (kin _).mono ?_
      rintro e w2 ⟨rfl, hk2⟩
      have HK2 := (show Hid (Same w w2) from HK1.out.trans hk2)
      have HB02 := (show Hid (Blk w2 w.heap.size 25 [.slice (some ⟨b, off, none⟩) len c, .int .i64 hand]) from HB0.out.same hk2)
      have HB12 := (show Hid (Blk w2 (w.heap.size + 1) 33 [.int .i64 0, .int .i64 0, .slice none 0 0, .int .i64 0]) from HB1.out.same hk2)
      have kfi := specPoolFind_any (.slice (some ⟨b, off, none⟩) len c) hand page ps w2 (HV.out.same HK2.out)
      obtain ⟨fi, hfi⟩ : ∃ x, findB page ps = x := ⟨_, rfl⟩
      rw [← findB_eq page HQ.out, hfi] at kfi
      rw [hfi] at HT2
      have hfj : fi = -1 ∨ 0 ≤ fi := by
        by_cases hh : fi = -1
        · exact .inl hh
        · obtain ⟨j, hj, _⟩ := findB_lt (by rw [hfi]; exact hh)
          exact .inr (by omega)
      clear hk2 g0 g1 d2 d3 hfi
      obtain ⟨g0, g1⟩ := HB02.out.all2
      go_wp2_with fail
      refine kfi.mono ?_
      rintro e w3 ⟨rfl, hk3⟩
      have HK3 := (show Hid (Same w w3) from HK2.out.trans hk3)
      have HB03 := (show Hid (Blk w3 w.heap.size 25 [.slice (some ⟨b, off, none⟩) len c, .int .i64 hand]) from HB02.out.same hk3)
      have HB13 := (show Hid (Blk w3 (w.heap.size + 1) 33 [.int .i64 0, .int .i64 0, .slice none 0 0, .int .i64 0]) from HB12.out.same hk3)
      clear hk3 kfi g0 g1
      obtain ⟨g0, g1⟩ := HB03.out.all2
      by_cases h5 : fi ≠ -1 ∧ fi ≠ (k : Int)
      · have HT0 : Hid (loadP ps hand (k : Int) page bs = (4, 0, 0, [])) := (HP.out _ (HT2.out.trans (if_pos h5))).trans (if_pos (by simp))
        have h5a : 0 ≤ fi := by omega
        have h5b : (fi != (k : Int)) = true := by simp [h5.2]
        clear h5
        obtain ⟨z0, z1, z2, z3⟩ := HB13.out.all4
        have fz := HB13.out.frozen
        have lz := HB13.out.lt
        go_wp2
        refine bodyPost_ret (v := .agg #[.int .i64 4, .int .i64 0, .slice none 0 0, .int .i64 0]) (by simp [results, Try.results33, go_sem, z0, z1, z2, z3]) rfl ⟨4, 0, none, 0, 0, 0, [], rfl, ?_, fun b hb => absurd hb (footR_nil b), OwnR.nil _ _ _ _ _, ?_⟩
        · rw [HT0.out]
          rfl
        · (iterate 4 refine Kept.setCell ?_ (.inl (Nat.le_succ _)) _)
          exact HK3.out
      have HT3 : Hid (loadP ps hand (k : Int) page bs = (0, (k : Int), hand, (datFrameS ps).set k (page, bs, 0, false, 0, true))) := (HP.out _ (HT2.out.trans (if_neg h5))).trans (if_neg (by simp))
      have h5' : fi = -1 ∨ fi = (k : Int) := by omega
      clear h5 HT2 hfj
      rcases h5' with rfl | rfl
      · go_wp2_with fail
        refine (l7Copy_any (.slice (some ⟨b, off, none⟩) len c) hand ps _ (by have := HL.out; omega) HM.out (HV.out.same HK3.out)).mono ?_
        rintro e w4 ⟨a3, n3, c3, qs, rfl, hd3, hf3, ho3, hk4⟩
        have hql : qs.length = len := by rw [← HL.out]; exact dat_len hd3
        obtain ⟨g, e3⟩ : ∃ g, (Value.slice a3 n3 c3) = .slice (some ⟨g, 0, none⟩) len c3 := by
          rcases ho3.form with ⟨_, hps⟩ | ⟨g, cap, e, _⟩
          · rw [hps] at hql; simp at hql; omega
          · rw [hql] at e
            injection e with e1 e2 e3
            exact ⟨g, by rw [e1, e2]⟩
        injection e3 with e31 e32
        subst e31 e32
        have HQL : Hid (qs.length = n3) := hql
        have HD3 := hid hd3
        have hkq : k < qs.length := by omega
        have HO4 := (show Hid (OwnR kFrame 0 36 5 w4 (.slice (some ⟨g, 0, none⟩) n3 c3) qs) from ho3)
        have hz13 := HB13.out.lt
        have HF3 : Hid (∀ b, footR kFrame (.slice (some ⟨g, 0, none⟩) n3 c3) qs b → w.heap.size + 1 < b ∧ b < w4.heap.size) := fun b hb => ⟨by have := hf3 b hb; omega, (ho3.lt b hb).2⟩
        have HK4 := (show Hid (Same w w4) from HK3.out.trans hk4)
        have HB14 := (show Hid (Blk w4 (w.heap.size + 1) 33 [.int .i64 0, .int .i64 0, .slice none 0 0, .int .i64 0]) from HB13.out.same hk4)
        have HB4 := (show Hid (Blk (w4.alloc (.cells #[.slice (some ⟨g, 0, none⟩) n3 c3, .int .i64 hand] 25)) w4.heap.size 25 [.slice (some ⟨g, 0, none⟩) n3 c3, .int .i64 hand]) from Blk.newL w4 [.slice (some ⟨g, 0, none⟩) n3 c3, .int .i64 hand] 25)
        obtain ⟨hgl1, hgl2⟩ : w.heap.size + 1 < g ∧ g < w4.heap.size := HF3.out g (.inl rfl)
        clear hd3 hf3 ho3 hk4 hql g0 g1
        go_wp2_with fail
        have hk45 : Same w4 (w4.alloc (.cells #[.slice (some ⟨g, 0, none⟩) n3 c3, .int .i64 hand] 25)) := (Kept.refl _ _).alloc _
        obtain ⟨w5, hw5⟩ : ∃ x, x = (w4.alloc (.cells #[.slice (some ⟨g, 0, none⟩) n3 c3, .int .i64 hand] 25)) := ⟨_, rfl⟩
        rw [← hw5] at HB4 hk45 ⊢
        clear hw5
        have hS : (fun wx : World => wx.cell? ⟨w4.heap.size, 0, none⟩ = some (.slice (some ⟨g, 0, none⟩) n3 c3)) w5.drew := HB4.out.drew.cell 0
        refine wp_region_V (fun wx : World => wx.cell? ⟨w4.heap.size, 0, none⟩ = some (.slice (some ⟨g, 0, none⟩) n3 c3)) 8 9 rfl (by kernel_rfl) ?_
        refine tk 0 64 hS ?_
        refine tk 1 65 hS ?_
        refine tk 2 66 hS ?_
        refine tk 3 67 hS ?_
        refine tk 4 68 hS ?_
        refine wpAnyV_one (i := 5) (by kernel_rfl) rfl (fun K hK => ?_)
        go_simp
        refine (l1Copy_any (.slice au 4096 cu) bs _ HBL.out (HU.out.same ((HK4.out.trans hk45).drew))).mono ?_
        rintro e w6 ⟨a5, n5, c5, rfl, ho5, hf5, hk5⟩
        have hk56 : Same w5 w6 := (Kept.refl (fun _ => False) w5).drew.trans hk5
        have HK6 := (show Hid (Same w w6) from (HK4.out.trans hk45).trans hk56)
        have HO6 := (show Hid (OwnR kFrame 0 36 5 w6 (.slice (some ⟨g, 0, none⟩) n3 c3) qs) from (HO4.out.same hk45).same hk56)
        have HU6 := (show Hid (Own 0 5 .u8 w6 (.slice a5 n5 c5) bs) from ho5)
        have hzl : w4.heap.size < w5.heap.size := HB4.out.lt
        have HF6 : Hid (∀ b, (Value.slice a5 n5 c5).ownBlock = some b → w4.heap.size < b) := fun b hb => by have h : w5.heap.size ≤ b := hf5 b hb; omega
        have HB46 := (show Hid (Blk w6 w4.heap.size 25 [.slice (some ⟨g, 0, none⟩) n3 c3, .int .i64 hand]) from HB4.out.same hk56)
        have HB16 := (show Hid (Blk w6 (w.heap.size + 1) 33 [.int .i64 0, .int .i64 0, .slice none 0 0, .int .i64 0]) from (HB14.out.same hk45).same hk56)
        clear ho5 hf5 hk5 hk56 hk45
        go_wp2_with fail
        have hS6 : (fun wx : World => wx.cell? ⟨w4.heap.size, 0, none⟩ = some (.slice (some ⟨g, 0, none⟩) n3 c3)) w6 := HB46.out.cell 0
        refine hK.out _ _ (fun _ => hS6) ?_
        clear hK K hS
        try simp only [Act.put, sA, s0, sS]
        refine tk 6 70 hS6 ?_
        refine wpAnyV_one (i := 7) (by kernel_rfl) rfl (fun K hK => ?_)
        go_simp
        refine hK.out _ _ (fun _ => hS6) ?_
        clear hK K
        try simp only [Act.put, sA, s0, sS]
        obtain ⟨pz, hpz⟩ : ∃ x, qs[k] = x := ⟨_, rfl⟩
        have hyy : ∀ i, i < 6 → w6.cell? ⟨g, k * 6 + i, none⟩ = (kFrame.cells pz)[i]? := fun i hi => by have h := HO6.out.cell HQL.out.symm k i hkq hi; rw [hpz] at h; exact h
        have y0 : w6.cell? ⟨g, k * 6, none⟩ = some (.int .i64 pz.page) := hyy 0 (by decide)
        have y1 : w6.cell? ⟨g, k * 6 + 1, none⟩ = some pz.v := hyy 1 (by decide)
        have y2 : w6.cell? ⟨g, k * 6 + 2, none⟩ = some (.int .i64 pz.pins) := hyy 2 (by decide)
        have y3 : w6.cell? ⟨g, k * 6 + 3, none⟩ = some (.bool pz.dirty) := hyy 3 (by decide)
        have y4 : w6.cell? ⟨g, k * 6 + 4, none⟩ = some (.int .i64 pz.rl) := hyy 4 (by decide)
        have y5 : w6.cell? ⟨g, k * 6 + 5, none⟩ = some (.bool pz.rf) := hyy 5 (by decide)
        have fg := HO6.out.frozen HQL.out.symm
        clear hyy
        refine wpAnyV_one (i := 8) (by kernel_rfl) rfl (fun K hK => ?_)
        go_simp
        refine hK.out _ _ (fun h => absurd rfl h) ?_
        clear hK K
        refine wpAnyV_done (by kernel_rfl) ?_
        try simp only [Act.put, sA, s0, sS]
        obtain ⟨x0, x1⟩ := HB46.out.all2
        obtain ⟨z0, z1, z2, z3⟩ := HB16.out.all4
        have fz := HB16.out.frozen
        have lz := HB16.out.lt
        have lx := HB46.out.lt
        have HOA := (show Hid (OwnR kFrame 0 36 5 (w6.setCells g (k * 6) [.int .i64 page, .slice a5 n5 c5, .int .i64 0, .bool false, .int .i64 0, .bool true]) (.slice (some ⟨g, 0, none⟩) n3 c3) (qs.set k (⟨page, .slice a5 n5 c5, bs, 0, false, 0, true⟩ : EFrame))) from
          OwnR.setWhole (p' := (⟨page, .slice a5 n5 c5, bs, 0, false, 0, true⟩ : EFrame)) HO6.out HQL.out.symm hkq HU6.out (fun b hb hf => by have h1 := HF6.out b hb; have h2 := (HF3.out b hf).2; omega) _ rfl)
        have HKB := (show Hid (Kept (fun b => b = g) w6 (w6.setCells g (k * 6) [.int .i64 page, .slice a5 n5 c5, .int .i64 0, .bool false, .int .i64 0, .bool true])) from Kept.setCells (R := fun b => b = g) (.inr rfl) _ _ (Kept.refl _ _))
        go_wp2
        have HKB2 := (show Hid (Kept (fun b => b = g) w6 ((((((w6.setCell ⟨g, k * 6, none⟩ (.int .i64 page)).setCell ⟨g, k * 6 + 1, none⟩ (.slice a5 n5 c5)).setCell ⟨g, k * 6 + 2, none⟩ (.int .i64 0)).setCell ⟨g, k * 6 + 3, none⟩ (.bool false)).setCell ⟨g, k * 6 + 4, none⟩ (.int .i64 0)).setCell ⟨g, k * 6 + 5, none⟩ (.bool true))) from HKB.out)
        have hbf := ((((HB16.out.kept HKB2.out (by intro e; omega)).stored 0 (.int .i64 0)).stored 1 (.int .i64 k)).stored 2 (.slice (some ⟨g, 0, none⟩) n3 c3)).stored 3 (.int .i64 hand)
        obtain ⟨f0, f1, f2, f3⟩ := hbf.all4
        have hfoot : ∀ b, footR kFrame (.slice (some ⟨g, 0, none⟩) n3 c3) (qs.set k (⟨page, .slice a5 n5 c5, bs, 0, false, 0, true⟩ : EFrame)) b → w.heap.size + 1 < b := fun b hb => by
          rcases footR_setNew b hb with h | h
          · exact (HF3.out b h).1
          · have := HF6.out b h; omega
        refine bodyPost_ret (v := .agg #[.int .i64 0, .int .i64 k, .slice (some ⟨g, 0, none⟩) n3 c3, .int .i64 hand]) (by simp [results, Try.results33, go_sem, f0, f1, f2, f3]) rfl ?_
        refine ⟨0, (k : Int), some ⟨g, 0, none⟩, n3, c3, hand, rfl, _, ?_, fun b hb => by have := hfoot b hb; omega, HOA.out.kept (R := fun b => b = w.heap.size + 1) ?_ (fun b hb e => by have := hfoot b hb; omega), ?_⟩
        · rw [HT3.out, dat_set, HD3.out]
          rfl
        · (iterate 4 refine Kept.setCell (R := fun b => b = w.heap.size + 1) ?_ (.inr rfl) _)
          exact Kept.refl _ _
        · (iterate 4 refine Kept.setCell ?_ (.inl (Nat.le_succ _)) _)
          exact HK6.out.next HKB.out (fun i hi e => by omega)
      · go_wp2_with fail
        refine (l7Copy_any (.slice (some ⟨b, off, none⟩) len c) hand ps _ (by have := HL.out; omega) HM.out (HV.out.same HK3.out)).mono ?_
        rintro e w4 ⟨a3, n3, c3, qs, rfl, hd3, hf3, ho3, hk4⟩
        have hql : qs.length = len := by rw [← HL.out]; exact dat_len hd3
        obtain ⟨g, e3⟩ : ∃ g, (Value.slice a3 n3 c3) = .slice (some ⟨g, 0, none⟩) len c3 := by
          rcases ho3.form with ⟨_, hps⟩ | ⟨g, cap, e, _⟩
          · rw [hps] at hql; simp at hql; omega
          · rw [hql] at e
            injection e with e1 e2 e3
            exact ⟨g, by rw [e1, e2]⟩
        injection e3 with e31 e32
        subst e31 e32
        have HQL : Hid (qs.length = n3) := hql
        have HD3 := hid hd3
        have hkq : k < qs.length := by omega
        have HO4 := (show Hid (OwnR kFrame 0 36 5 w4 (.slice (some ⟨g, 0, none⟩) n3 c3) qs) from ho3)
        have hz13 := HB13.out.lt
        have HF3 : Hid (∀ b, footR kFrame (.slice (some ⟨g, 0, none⟩) n3 c3) qs b → w.heap.size + 1 < b ∧ b < w4.heap.size) := fun b hb => ⟨by have := hf3 b hb; omega, (ho3.lt b hb).2⟩
        have HK4 := (show Hid (Same w w4) from HK3.out.trans hk4)
        have HB14 := (show Hid (Blk w4 (w.heap.size + 1) 33 [.int .i64 0, .int .i64 0, .slice none 0 0, .int .i64 0]) from HB13.out.same hk4)
        have HB4 := (show Hid (Blk (w4.alloc (.cells #[.slice (some ⟨g, 0, none⟩) n3 c3, .int .i64 hand] 25)) w4.heap.size 25 [.slice (some ⟨g, 0, none⟩) n3 c3, .int .i64 hand]) from Blk.newL w4 [.slice (some ⟨g, 0, none⟩) n3 c3, .int .i64 hand] 25)
        obtain ⟨hgl1, hgl2⟩ : w.heap.size + 1 < g ∧ g < w4.heap.size := HF3.out g (.inl rfl)
        clear hd3 hf3 ho3 hk4 hql g0 g1
        go_wp2_with fail
        have hk45 : Same w4 (w4.alloc (.cells #[.slice (some ⟨g, 0, none⟩) n3 c3, .int .i64 hand] 25)) := (Kept.refl _ _).alloc _
        obtain ⟨w5, hw5⟩ : ∃ x, x = (w4.alloc (.cells #[.slice (some ⟨g, 0, none⟩) n3 c3, .int .i64 hand] 25)) := ⟨_, rfl⟩
        rw [← hw5] at HB4 hk45 ⊢
        clear hw5
        have hS : (fun wx : World => wx.cell? ⟨w4.heap.size, 0, none⟩ = some (.slice (some ⟨g, 0, none⟩) n3 c3)) w5.drew := HB4.out.drew.cell 0
        refine wp_region_V (fun wx : World => wx.cell? ⟨w4.heap.size, 0, none⟩ = some (.slice (some ⟨g, 0, none⟩) n3 c3)) 8 9 rfl (by kernel_rfl) ?_
        refine tk 0 64 hS ?_
        refine tk 1 65 hS ?_
        refine tk 2 66 hS ?_
        refine tk 3 67 hS ?_
        refine tk 4 68 hS ?_
        refine wpAnyV_one (i := 5) (by kernel_rfl) rfl (fun K hK => ?_)
        go_simp
        refine (l1Copy_any (.slice au 4096 cu) bs _ HBL.out (HU.out.same ((HK4.out.trans hk45).drew))).mono ?_
        rintro e w6 ⟨a5, n5, c5, rfl, ho5, hf5, hk5⟩
        have hk56 : Same w5 w6 := (Kept.refl (fun _ => False) w5).drew.trans hk5
        have HK6 := (show Hid (Same w w6) from (HK4.out.trans hk45).trans hk56)
        have HO6 := (show Hid (OwnR kFrame 0 36 5 w6 (.slice (some ⟨g, 0, none⟩) n3 c3) qs) from (HO4.out.same hk45).same hk56)
        have HU6 := (show Hid (Own 0 5 .u8 w6 (.slice a5 n5 c5) bs) from ho5)
        have hzl : w4.heap.size < w5.heap.size := HB4.out.lt
        have HF6 : Hid (∀ b, (Value.slice a5 n5 c5).ownBlock = some b → w4.heap.size < b) := fun b hb => by have h : w5.heap.size ≤ b := hf5 b hb; omega
        have HB46 := (show Hid (Blk w6 w4.heap.size 25 [.slice (some ⟨g, 0, none⟩) n3 c3, .int .i64 hand]) from HB4.out.same hk56)
        have HB16 := (show Hid (Blk w6 (w.heap.size + 1) 33 [.int .i64 0, .int .i64 0, .slice none 0 0, .int .i64 0]) from (HB14.out.same hk45).same hk56)
        clear ho5 hf5 hk5 hk56 hk45
        go_wp2_with fail
        have hS6 : (fun wx : World => wx.cell? ⟨w4.heap.size, 0, none⟩ = some (.slice (some ⟨g, 0, none⟩) n3 c3)) w6 := HB46.out.cell 0
        refine hK.out _ _ (fun _ => hS6) ?_
        clear hK K hS
        try simp only [Act.put, sA, s0, sS]
        refine tk 6 70 hS6 ?_
        refine wpAnyV_one (i := 7) (by kernel_rfl) rfl (fun K hK => ?_)
        go_simp
        refine hK.out _ _ (fun _ => hS6) ?_
        clear hK K
        try simp only [Act.put, sA, s0, sS]
        obtain ⟨pz, hpz⟩ : ∃ x, qs[k] = x := ⟨_, rfl⟩
        have hyy : ∀ i, i < 6 → w6.cell? ⟨g, k * 6 + i, none⟩ = (kFrame.cells pz)[i]? := fun i hi => by have h := HO6.out.cell HQL.out.symm k i hkq hi; rw [hpz] at h; exact h
        have y0 : w6.cell? ⟨g, k * 6, none⟩ = some (.int .i64 pz.page) := hyy 0 (by decide)
        have y1 : w6.cell? ⟨g, k * 6 + 1, none⟩ = some pz.v := hyy 1 (by decide)
        have y2 : w6.cell? ⟨g, k * 6 + 2, none⟩ = some (.int .i64 pz.pins) := hyy 2 (by decide)
        have y3 : w6.cell? ⟨g, k * 6 + 3, none⟩ = some (.bool pz.dirty) := hyy 3 (by decide)
        have y4 : w6.cell? ⟨g, k * 6 + 4, none⟩ = some (.int .i64 pz.rl) := hyy 4 (by decide)
        have y5 : w6.cell? ⟨g, k * 6 + 5, none⟩ = some (.bool pz.rf) := hyy 5 (by decide)
        have fg := HO6.out.frozen HQL.out.symm
        clear hyy
        refine wpAnyV_one (i := 8) (by kernel_rfl) rfl (fun K hK => ?_)
        go_simp
        refine hK.out _ _ (fun h => absurd rfl h) ?_
        clear hK K
        refine wpAnyV_done (by kernel_rfl) ?_
        try simp only [Act.put, sA, s0, sS]
        obtain ⟨x0, x1⟩ := HB46.out.all2
        obtain ⟨z0, z1, z2, z3⟩ := HB16.out.all4
        have fz := HB16.out.frozen
        have lz := HB16.out.lt
        have lx := HB46.out.lt
        have HOA := (show Hid (OwnR kFrame 0 36 5 (w6.setCells g (k * 6) [.int .i64 page, .slice a5 n5 c5, .int .i64 0, .bool false, .int .i64 0, .bool true]) (.slice (some ⟨g, 0, none⟩) n3 c3) (qs.set k (⟨page, .slice a5 n5 c5, bs, 0, false, 0, true⟩ : EFrame))) from
          OwnR.setWhole (p' := (⟨page, .slice a5 n5 c5, bs, 0, false, 0, true⟩ : EFrame)) HO6.out HQL.out.symm hkq HU6.out (fun b hb hf => by have h1 := HF6.out b hb; have h2 := (HF3.out b hf).2; omega) _ rfl)
        have HKB := (show Hid (Kept (fun b => b = g) w6 (w6.setCells g (k * 6) [.int .i64 page, .slice a5 n5 c5, .int .i64 0, .bool false, .int .i64 0, .bool true])) from Kept.setCells (R := fun b => b = g) (.inr rfl) _ _ (Kept.refl _ _))
        go_wp2
        have HKB2 := (show Hid (Kept (fun b => b = g) w6 ((((((w6.setCell ⟨g, k * 6, none⟩ (.int .i64 page)).setCell ⟨g, k * 6 + 1, none⟩ (.slice a5 n5 c5)).setCell ⟨g, k * 6 + 2, none⟩ (.int .i64 0)).setCell ⟨g, k * 6 + 3, none⟩ (.bool false)).setCell ⟨g, k * 6 + 4, none⟩ (.int .i64 0)).setCell ⟨g, k * 6 + 5, none⟩ (.bool true))) from HKB.out)
        have hbf := ((((HB16.out.kept HKB2.out (by intro e; omega)).stored 0 (.int .i64 0)).stored 1 (.int .i64 k)).stored 2 (.slice (some ⟨g, 0, none⟩) n3 c3)).stored 3 (.int .i64 hand)
        obtain ⟨f0, f1, f2, f3⟩ := hbf.all4
        have hfoot : ∀ b, footR kFrame (.slice (some ⟨g, 0, none⟩) n3 c3) (qs.set k (⟨page, .slice a5 n5 c5, bs, 0, false, 0, true⟩ : EFrame)) b → w.heap.size + 1 < b := fun b hb => by
          rcases footR_setNew b hb with h | h
          · exact (HF3.out b h).1
          · have := HF6.out b h; omega
        refine bodyPost_ret (v := .agg #[.int .i64 0, .int .i64 k, .slice (some ⟨g, 0, none⟩) n3 c3, .int .i64 hand]) (by simp [results, Try.results33, go_sem, f0, f1, f2, f3]) rfl ?_
        refine ⟨0, (k : Int), some ⟨g, 0, none⟩, n3, c3, hand, rfl, _, ?_, fun b hb => by have := hfoot b hb; omega, HOA.out.kept (R := fun b => b = w.heap.size + 1) ?_ (fun b hb e => by have := hfoot b hb; omega), ?_⟩
        · rw [HT3.out, dat_set, HD3.out]
          rfl
        · (iterate 4 refine Kept.setCell (R := fun b => b = w.heap.size + 1) ?_ (.inr rfl) _)
          exact Kept.refl _ _
        · (iterate 4 refine Kept.setCell ?_ (.inl (Nat.le_succ _)) _)
          exact HK6.out.next HKB.out (fun i hi e => by omega)
end Go.Proofs.Ytommabejmpafcaa

namespace Go.Proofs.Ytommabejmpafcaa
set_option maxRecDepth 100000
set_option maxHeartbeats 4000000
open Go.RowKit
set_option linter.unusedVariables false
set_option linter.unusedSimpArgs false
theorem load1_any (frame : Int) (page : Int) (u : Value) (bs : List Int) (C0 C1 C2 : Nat) (P : Nat) (hand : Int) (g n cap : Nat) (bl : List Nat) (ps : List EFrame) (w : World) (h : FP w P hand g n cap bl ps) (hn : n ≤ 16) (hbl : bs.length ≤ 1099511627776) (hu : Rd .u8 w u bs) (hc0 : Blk w C0 2 [.int .i64 frame]) (hc1 : Blk w C1 2 [.int .i64 page]) (hc2 : Blk w C2 22 [u]) :
    Calls Try.prog 55 #[.pointer (some ⟨P, 0, none⟩), .pointer (some ⟨C0, 0, none⟩), .pointer (some ⟨C1, 0, none⟩), .pointer (some ⟨C2, 0, none⟩)] w fun e w' => ∃ fr cd bl' qs', e = .returned (.tuple #[.int .i64 fr, .int .i64 cd]) ∧ FP w' P hand g n cap bl' qs' ∧ (cd, fr, datFrameS qs') = loadT frame page bs ps ∧ (∀ b, footS kFrame bl' qs' b → footS kFrame bl ps b ∨ w.heap.size ≤ b) ∧ Kept (footFP P g bl ps) w w' := by
  have d0 : w.cell? ⟨C0, 0, none⟩ = some (.int .i64 frame) := hc0.cell 0
  have d1 : w.cell? ⟨C1, 0, none⟩ = some (.int .i64 page) := hc1.cell 0
  have d2 : w.cell? ⟨C2, 0, none⟩ = some (u) := hc2.cell 0
  have k0 := loadM_any frame page u bs P hand g n cap bl ps w h hn hbl hu
  obtain ⟨au, cu, rfl⟩ := hu.form
  clear h hu hbl hc0 hc1 hc2
  go_enter Try.func55, Try.ntmps55
  go_wp2_with fail
  refine k0.mono ?_
  rintro e w1 ⟨fr, cd, bl', qs', rfl, hf, ht, hn', hk⟩
  have H1 := hid hf
  have H2 := hid ht
  have H3 := hid hn'
  have H4 := hid hk
  clear hf ht hn' hk k0
  go_wp2
  go_ret2
  exact ⟨fr, cd, bl', qs', rfl, H1.out, H2.out, H3.out, H4.out⟩
theorem enters_load1 : Enters 55 := fun args wx => by simp [callFunc, go_sem, Try.func55, Try.f55]
theorem implPoolLoad_any (v : Value) (hand : Int) (frame : Int) (page : Int) (u : Value) (bs : List Int) (ps : List EFrame) (w : World) (hv : RdR kFrame w v ps) (hbl : bs.length ≤ 1099511627776) (hu : Rd .u8 w u bs) :
    Calls Try.prog 15 #[.agg #[v, .int .i64 hand], .int .i64 frame, .int .i64 page, u] w fun e w' => ∃ cd fr a n c hd qs, e = .returned (.agg #[.int .i64 cd, .int .i64 fr, .slice a n c, .int .i64 hd]) ∧ (cd, fr, hd, datFrameS qs) = loadP ps hand frame page bs ∧ (∀ b, footR kFrame (.slice a n c) qs b → w.heap.size ≤ b) ∧ OwnR kFrame 0 36 5 w' (.slice a n c) qs ∧ Same w w' := by
  obtain ⟨a, c, rfl⟩ := hv.form
  obtain ⟨au, cu, rfl⟩ := hu.form
  obtain ⟨wa, hwa⟩ : ∃ x, x = ((((w.alloc (.cells #[.slice a ps.length c, .int .i64 hand] 25)).alloc (.cells #[.int .i64 frame] 2)).alloc (.cells #[.int .i64 page] 2)).alloc (.cells #[.slice au bs.length cu] 22)) := ⟨_, rfl⟩
  have hka : Same w wa := by rw [hwa]; exact (((((Kept.refl _ _).alloc _).alloc _).alloc _).alloc _)
  have hza : wa.heap.size = w.heap.size + 1 + 1 + 1 + 1 := by rw [hwa]; simp
  have b0 : Blk wa w.heap.size 25 [.slice a ps.length c, .int .i64 hand] := by rw [hwa]; exact (((Blk.newL w [.slice a ps.length c, .int .i64 hand] 25).alloc _).alloc _).alloc _
  have bC0 : Blk wa (w.heap.size + 1) 2 [.int .i64 frame] := by
    have h := (((Blk.newL (w.alloc (.cells #[.slice a ps.length c, .int .i64 hand] 25)) [.int .i64 frame] 2).alloc (.cells #[.int .i64 page] 2)).alloc (.cells #[.slice au bs.length cu] 22))
    rw [← hwa] at h
    simpa using h
  have bC1 : Blk wa (w.heap.size + 1 + 1) 2 [.int .i64 page] := by
    have h := ((Blk.newL ((w.alloc (.cells #[.slice a ps.length c, .int .i64 hand] 25)).alloc (.cells #[.int .i64 frame] 2)) [.int .i64 page] 2).alloc (.cells #[.slice au bs.length cu] 22))
    rw [← hwa] at h
    simpa using h
  have bC2 : Blk wa (w.heap.size + 1 + 1 + 1) 22 [.slice au bs.length cu] := by
    have h := (Blk.newL (((w.alloc (.cells #[.slice a ps.length c, .int .i64 hand] 25)).alloc (.cells #[.int .i64 frame] 2)).alloc (.cells #[.int .i64 page] 2)) [.slice au bs.length cu] 22)
    rw [← hwa] at h
    simpa using h
  have k0 := turned_any 55 #[.pointer (some ⟨w.heap.size + 1, 0, none⟩), .pointer (some ⟨w.heap.size + 1 + 1, 0, none⟩), .pointer (some ⟨w.heap.size + 1 + 1 + 1, 0, none⟩)] (.slice a ps.length c) hand ps (loadT frame page bs ps) (wa.alloc (.cells #[.int .i64 0, .int .i64 0, .slice none 0 0, .int .i64 0] 33)) (hv.same (hka.alloc _)) enters_load1 (fun wx P g n cap bl qs hf hn hd hq hk hb => by
    have h := load1_any frame page (.slice au bs.length cu) bs (w.heap.size + 1) (w.heap.size + 1 + 1) (w.heap.size + 1 + 1 + 1) P hand g n cap bl qs wx hf hn hbl (hu.same ((hka.alloc _).trans hk)) ((bC0.alloc _).same hk) ((bC1.alloc _).same hk) ((bC2.alloc _).same hk)
    rw [loadT_dat hd] at h
    exact h)
  have bR := Blk.newL wa [.int .i64 0, .int .i64 0, .slice none 0 0, .int .i64 0] 33
  obtain ⟨g0, g1⟩ := b0.all2
  have l0 := b0.lt
  have hmf : ∀ (fn : Fn) (first cap : Array Value) (w : World), (Instr.makeFunc fn first cap).run Try.prog w = .ok (.func fn first cap) w := fun _ _ _ _ => rfl
  rw [hza] at bR
  have HKA := hid hka
  have HZ := hid hza
  clear hv hu hbl bC0 bC1 bC2 b0 hka
  go_enter Try.func15, Try.ntmps15
  go_wp2_with fail
  rw [← hwa]
  clear hwa
  refine k0.mono ?_
  rintro e w1 ⟨cd, fr, a1, n1, c1, hd, qs, rfl, hR, hf, ho, hk1⟩
  have HR := (show Hid ((cd, fr, hd, datFrameS qs) = turnP (loadT frame page bs ps) ps hand) from hR)
  have HK1 := (show Hid (Same w w1) from (HKA.out.alloc _).trans hk1)
  have HB1 := (show Hid (Blk w1 (w.heap.size + 1 + 1 + 1 + 1) 33 [.int .i64 0, .int .i64 0, .slice none 0 0, .int .i64 0]) from bR.same hk1)
  have HF : Hid (∀ b, footR kFrame (.slice a1 n1 c1) qs b → w.heap.size + 1 + 1 + 1 + 1 < b) := fun b hb => by have h := hf b hb; simp only [World.size_alloc] at h; omega
  have HO := (show Hid (OwnR kFrame 0 36 5 w1 (.slice a1 n1 c1) qs) from ho)
  clear hk1 bR k0 hR hf ho g0 g1 hza
  obtain ⟨z0, z1, z2, z3⟩ := HB1.out.all4
  have fz := HB1.out.frozen
  have lz := HB1.out.lt
  go_wp2
  refine bodyPost_ret (v := .agg #[.int .i64 cd, .int .i64 fr, .slice a1 n1 c1, .int .i64 hd]) (by simp [results, Try.results15, go_sem, z0, z1, z2, z3]) rfl ⟨cd, fr, a1, n1, c1, hd, qs, rfl, HR.out, fun b hb => by have := HF.out b hb; omega, HO.out.kept (R := fun b => b = w.heap.size + 1 + 1 + 1 + 1) ?_ (fun b hb e => by have := HF.out b hb; omega), ?_⟩
  · (iterate 4 refine Kept.setCell (R := fun b => b = w.heap.size + 1 + 1 + 1 + 1) ?_ (.inr rfl) _)
    exact Kept.refl _ _
  · (iterate 4 refine Kept.setCell ?_ (.inl (by show w.heap.size ≤ w.heap.size + 1 + 1 + 1 + 1; omega)) _)
    exact HK1.out
end Go.Proofs.Ytommabejmpafcaa
