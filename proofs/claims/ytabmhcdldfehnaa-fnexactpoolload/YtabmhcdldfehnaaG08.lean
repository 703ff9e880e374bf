import Derived.Test.YtabmhcdldfehnaaG07
namespace Go.Proofs.Ytabmhcdldfehnaa
set_option maxRecDepth 100000
set_option maxHeartbeats 4000000
open Go.RowKit
set_option linter.unusedVariables false
set_option linter.unusedSimpArgs false
def pinsP (more : Int) (ps : List EFrame) (hand page : Int) : Int × Int × Int × List (Int × List Int × Int × Bool × Int × Bool) :=
  if (atP ps hand page).2 ≠ 0 then ((atP ps hand page).2, 0, 0, []) else
  match (datFrameS ps)[(atP ps hand page).1.toNat]? with
  | none => (0, 0, 0, [])
  | some d => if inB (d.2.2.1 + more) 0 2147483647 = false then (3, 0, 0, []) else (0, (atP ps hand page).1, hand, (datFrameS ps).set (atP ps hand page).1.toNat (d.1, d.2.1, d.2.2.1 + more, d.2.2.2.1, d.2.2.2.2.1, d.2.2.2.2.2 || decide (0 < more)))
theorem pinsP_dat {more : Int} {ps qs : List EFrame} {hand page : Int} (h : datFrameS qs = datFrameS ps) : pinsP more qs hand page = pinsP more ps hand page := by
  unfold pinsP
  rw [atP_dat h, h]
theorem frame_of {ps : List EFrame} {hand : Int} (h : poolF ps hand = 0) : ∀ p ∈ ps, (0 ≤ p.pins ∧ p.pins ≤ 2147483647) ∧ p.bs.length ≤ 4096 := by
  obtain ⟨h1, h2, h3, h4⟩ := poolF_len h
  unfold poolF at h
  rw [if_neg (by omega), if_neg (by omega)] at h
  have hb : ps.any bad3 = false := by
    cases hx : ps.any bad3 with
    | false => rfl
    | true => rw [hx] at h; simp at h
  intro p hp
  have hq : bad3 p = false := by
    cases hx : bad3 p with
    | false => rfl
    | true => rw [List.any_eq_true.2 ⟨p, hp, hx⟩] at hb; cases hb
  unfold bad3 at hq
  by_cases hm : p.page = -1
  · rw [if_pos hm] at hq
    simp at hq
    obtain ⟨⟨⟨⟨q1, q2⟩, q3⟩, q4⟩, q5⟩ := hq
    rw [q1, q2]
    exact ⟨by omega, by simp⟩
  · rw [if_neg hm] at hq
    simp [inB] at hq
    obtain ⟨⟨_, q2⟩, q3⟩ := hq
    exact ⟨by omega, by omega⟩
theorem pinsP_small {more : Int} {ps qs : List EFrame} {hand page a b c : Int} (h : (a, b, c, datFrameS qs) = pinsP more ps hand page) : SmallF (datFrameS qs) := by
  have none_small : SmallF [] := ⟨by simp, fun x hx => by simp at hx⟩
  unfold pinsP at h
  by_cases h1 : (atP ps hand page).2 ≠ 0
  · rw [if_pos h1] at h
    simp only [Prod.mk.injEq] at h
    rw [h.2.2.2]; exact none_small
  rw [if_neg h1] at h
  obtain ⟨h0, j, hj, hjl⟩ := atP_lt (at_ := (atP ps hand page).1) (show atP ps hand page = ((atP ps hand page).1, 0) from Prod.ext rfl (Classical.not_not.1 h1))
  cases hd : (datFrameS ps)[(atP ps hand page).1.toNat]? with
  | none =>
    rw [hd] at h
    simp only [Prod.mk.injEq] at h
    rw [h.2.2.2]; exact none_small
  | some d =>
    rw [hd] at h
    dsimp only at h
    have hl := (poolF_len h0).2.1
    have hsm : ∀ x ∈ datFrameS ps, x.2.1.length ≤ 1048576 := fun x hx => by
      obtain ⟨p, hp, rfl⟩ := List.mem_map.1 hx
      have := (frame_of h0 p hp).2
      exact Nat.le_trans this (by omega)
    split at h
    · simp only [Prod.mk.injEq] at h
      rw [h.2.2.2]; exact none_small
    · simp only [Prod.mk.injEq] at h
      rw [h.2.2.2]
      refine ⟨by rw [List.length_set, datFrameS_length]; omega, fun x hx => ?_⟩
      rcases List.mem_or_eq_of_mem_set hx with hx | rfl
      · exact hsm x hx
      · exact hsm d (List.mem_of_getElem? hd)
theorem l7Pins_any (v : Value) (hand page more : Int) (ps : List EFrame) (w : World) (hmo : more = 1 ∨ more = -1) (hv : RdR kFrame w v ps) :
    Calls Try.prog 49 #[.agg #[v, .int .i64 hand], .int .i64 page, .int .i64 more] w fun e w' => ∃ cd fr a n c hd qs, e = .returned (.agg #[.int .i64 cd, .int .i64 fr, .slice a n c, .int .i64 hd]) ∧ (cd, fr, hd, datFrameS qs) = pinsP more ps hand page ∧ (∀ b, footR kFrame (.slice a n c) qs b → w.heap.size ≤ b) ∧ OwnR kFrame 0 51 5 w' (.slice a n c) qs ∧ Same w w' := by
  obtain ⟨a, c, rfl⟩ := hv.form
  have hmax := hv.max
  unfold maxLen at hmax
  have HV := (show Hid (RdR kFrame w (.slice a ps.length c) ps) from hv)
  clear hv
  obtain ⟨at_, q, hA⟩ : ∃ x y, atP ps hand page = (x, y) := ⟨_, _, rfl⟩
  have HA : Hid (atP ps hand page = (at_, q)) := hA
  have hk0 : Same w ((w.alloc (.cells #[.slice a ps.length c, .int .i64 hand] 29)).alloc (.cells #[.int .i64 0, .int .i64 0, .slice none 0 0, .int .i64 0] 37)) := ((Kept.refl _ _).alloc _).alloc _
  have k0 := l7At_any (.slice a ps.length c) hand page ps _ (HV.out.same hk0)
  rw [hA] at k0
  have b0 := Blk.newA w [.slice a ps.length c, .int .i64 hand] 29 [.int .i64 0, .int .i64 0, .slice none 0 0, .int .i64 0] 37
  have b1 := Blk.newB w [.slice a ps.length c, .int .i64 hand] 29 [.int .i64 0, .int .i64 0, .slice none 0 0, .int .i64 0] 37
  go_enter Try.func49, Try.ntmps49
  go_wp2_with fail
  refine k0.mono ?_
  rintro e w1 ⟨rfl, hk1⟩
  have HK1 := (show Hid (Same w w1) from hk0.trans hk1)
  have HB0 := hid (b0.same hk1)
  have HB1 := hid (b1.same hk1)
  clear hk0 hk1 b0 b1 k0
  obtain ⟨g0, g1⟩ := HB0.out.all2
  obtain ⟨z0, z1, z2, z3⟩ := HB1.out.all4
  have fz := HB1.out.frozen
  have lz := HB1.out.lt
  by_cases hq : q = 0
  · subst hq
    obtain ⟨h0, k, rfl, hkl⟩ := atP_lt HA.out
    have hl16 := (poolF_len h0).2.1
    have hfr := frame_of h0
    obtain ⟨len, hl⟩ : ∃ n, ps.length = n := ⟨_, rfl⟩
    have HL : Hid (ps.length = len) := hl
    obtain ⟨b, off, rfl, hc⟩ : ∃ b off, a = some ⟨b, off, none⟩ ∧ ∀ j i, (h : j < ps.length) → i < 6 → w.cell? ⟨b, off + (j * 6 + i), none⟩ = (kFrame.cells ps[j])[i]? := by
      rcases HV.out.row with ⟨hps, _⟩ | ⟨b, off, c', he, hc⟩
      · rw [hps] at hkl; simp at hkl
      · injection he with he1 he2 he3
        exact ⟨b, off, he1, hc⟩
    have HC : Hid (∀ j i, (h : j < ps.length) → i < 6 → w.cell? ⟨b, off + (j * 6 + i), none⟩ = (kFrame.cells ps[j])[i]?) := hc
    clear hc
    obtain ⟨p, hp⟩ : ∃ p, ps[k] = p := ⟨_, rfl⟩
    have HPE : Hid (ps[k] = p) := hp
    have hpp := (hfr _ (List.getElem_mem hkl)).1
    have HM : Hid (∀ p ∈ ps, p.bs.length ≤ 1099511627776) := fun p hp => Nat.le_trans (hfr p hp).2 (by omega)
    have hc2 : w.cell? ⟨b, off + k * 6 + 2, none⟩ = some (.int .i64 p.pins) := by have h := HC.out k 2 hkl (by decide); rw [← Nat.add_assoc, hp] at h; exact h
    have hc5 : w.cell? ⟨b, off + k * 6 + 5, none⟩ = some (.bool p.rf) := by have h := HC.out k 5 hkl (by decide); rw [← Nat.add_assoc, hp] at h; exact h
    rw [hp] at hpp
    have HDK : Hid ((datFrameS ps)[k]? = some p.dat) := by unfold datFrameS Hid; rw [List.getElem?_map, List.getElem?_eq_getElem hkl, hp]; rfl
    clear hp hfr
    obtain ⟨pg, pv, fb, pn, dt, rl, rf⟩ := p
    dsimp only at hpp hc2 hc5
    have hlen : k < len := by rw [← hl]; exact hkl
    rw [hl] at HV HB0 g0 hmax hl16
    clear hl
    have HC2 : Hid (w.cell? ⟨b, off + k * 6 + 2, none⟩ = some (.int .i64 pn)) := hc2
    have HC5 : Hid (w.cell? ⟨b, off + k * 6 + 5, none⟩ = some (.bool rf)) := hc5
    have d2 := HK1.out.cellOf hc2 id
    have HPN : Hid (pinsP more ps hand page = if inB (pn + more) 0 2147483647 = false then (3, 0, 0, []) else (0, (k : Int), hand, (datFrameS ps).set k (pg, fb, pn + more, dt, rl, rf || decide (0 < more)))) := by
      unfold pinsP Hid
      rw [HA.out, if_neg (by simp)]
      dsimp only
      rw [Int.toNat_natCast, HDK.out]
      rfl
    obtain ⟨pm, hpm⟩ : ∃ x, pn + more = x := ⟨_, rfl⟩
    have hpm0 : -1 ≤ pm ∧ pm ≤ 2147483648 := by omega
    rw [hpm] at HPN
    have hwp : IntKind.i64.wrap pm = pm := by rw [IntKind.wrap_i64]; omega
    have hki : (k : Int) < (len : Int) := by omega
    have kin := l4In_any pm 0 2147483647
    cases f1 : inB pm 0 2147483647 with
    | false =>
      rw [f1] at kin HPN
      clear hc2 hc5
      go_wp2_with fail
      refine (kin _).mono ?_
      rintro e w2 ⟨rfl, hk2⟩
      have HK2 := (show Hid (Same w w2) from HK1.out.trans hk2)
      obtain ⟨z0, z1, z2, z3⟩ := (HB1.out.same hk2).all4
      have fz := (HB1.out.same hk2).frozen
      have lz := (HB1.out.same hk2).lt
      go_wp2
      refine bodyPost_ret (v := .agg #[.int .i64 3, .int .i64 0, .slice none 0 0, .int .i64 0]) (by simp [results, Try.results49, go_sem, z0, z1, z2, z3]) rfl ⟨3, 0, none, 0, 0, 0, [], rfl, ?_, fun b hb => absurd hb (footR_nil b), OwnR.nil _ _ _ _ _, ?_⟩
      · rw [HPN.out]; rfl
      · (iterate 4 refine Kept.setCell ?_ (.inl (Nat.le_succ _)) _)
        exact HK2.out
    | true =>
      rw [f1] at kin HPN
      clear hc2 hc5
      go_wp2_with fail
      refine (kin _).mono ?_
      rintro e w2 ⟨rfl, hk2⟩
      have HK2 := (show Hid (Same w w2) from HK1.out.trans hk2)
      have HB02 := hid (HB0.out.same hk2)
      have HB12 := hid (HB1.out.same hk2)
      clear hk2 z0 z1 z2 z3 fz lz g0 g1 d2
      obtain ⟨g0, g1⟩ := HB02.out.all2
      go_wp2_with fail
      refine (l7Copy_any (.slice (some ⟨b, off, none⟩) len c) hand ps _ (by have := HL.out; omega) HM.out (HV.out.same HK2.out)).mono ?_
      rintro e w3 ⟨a3, n3, c3, qs, rfl, hd3, hf3, ho3, hk3⟩
      have hql : qs.length = len := by rw [← HL.out]; exact dat_len hd3
      obtain ⟨g, e3⟩ : ∃ g, (Value.slice a3 n3 c3) = .slice (some ⟨g, 0, none⟩) len c3 := by
        rcases ho3.form with ⟨_, hps⟩ | ⟨g, cap, e, _⟩
        · rw [hps] at hql; simp at hql; omega
        · rw [hql] at e
          injection e with e1 e2 e3
          exact ⟨g, by rw [e1, e2]⟩
      injection e3 with e31 e32
      subst e31 e32
      have HQL : Hid (qs.length = n3) := hql
      have HK3 := (show Hid (Same w w3) from HK2.out.trans hk3)
      have HO3 := (show Hid (OwnR kFrame 0 51 5 w3 (.slice (some ⟨g, 0, none⟩) n3 c3) qs) from ho3)
      have hz2 : w.heap.size + 1 < w2.heap.size := HB12.out.lt
      have hz3 : w2.heap.size ≤ w3.heap.size := hk3.size
      have HF3 : Hid (∀ b, footR kFrame (.slice (some ⟨g, 0, none⟩) n3 c3) qs b → w.heap.size + 1 < b ∧ b < w3.heap.size) := fun b hb => ⟨by have := hf3 b hb; omega, (ho3.lt b hb).2⟩
      have HD3 : Hid (datFrameS qs = datFrameS ps) := hd3
      have HB03 := hid (HB02.out.same hk3)
      have HB13 := hid (HB12.out.same hk3)
      have hkq : k < qs.length := by omega
      clear hd3 hf3 ho3 hk3 g0 g1 hql
      have HB4 := (show Hid (Blk (w3.alloc (.cells #[.slice (some ⟨g, 0, none⟩) n3 c3, .int .i64 hand] 29)) w3.heap.size 29 [.slice (some ⟨g, 0, none⟩) n3 c3, .int .i64 hand]) from Blk.newL w3 [.slice (some ⟨g, 0, none⟩) n3 c3, .int .i64 hand] 29)
      have hgl : w.heap.size + 1 < g ∧ g < w3.heap.size := HF3.out g (.inl rfl)
      go_wp2_with fail
      have hk34 : Same w3 (w3.alloc (.cells #[.slice (some ⟨g, 0, none⟩) n3 c3, .int .i64 hand] 29)) := (Kept.refl _ _).alloc _
      obtain ⟨w4, hw4⟩ : ∃ x, x = (w3.alloc (.cells #[.slice (some ⟨g, 0, none⟩) n3 c3, .int .i64 hand] 29)) := ⟨_, rfl⟩
      rw [← hw4] at HB4 hk34 ⊢
      clear hw4
      have HO4 := hid (HO3.out.same hk34.drew)
      have y2 : ∃ u, w4.drew.cell? ⟨g, k * 6 + 2, none⟩ = some u := ⟨_, by have h := HO4.out.cell HQL.out.symm k 2 hkq (by decide); exact h⟩
      obtain ⟨u2, y2⟩ := y2
      have fg := HO4.out.frozen HQL.out.symm
      have hS : (fun wx : World => wx.cell? ⟨w3.heap.size, 0, none⟩ = some (.slice (some ⟨g, 0, none⟩) n3 c3) ∧ wx.cell? ⟨w.heap.size, 0, none⟩ = some (.slice (some ⟨b, off, none⟩) n3 c) ∧ wx.cell? ⟨b, off + k * 6 + 2, none⟩ = some (.int .i64 pn)) w4.drew := ⟨HB4.out.drew.cell 0, (HB03.out.same hk34.drew).cell 0, (HK3.out.trans hk34).drew.cellOf HC2.out id⟩
      refine wp_region_V (fun wx : World => wx.cell? ⟨w3.heap.size, 0, none⟩ = some (.slice (some ⟨g, 0, none⟩) n3 c3) ∧ wx.cell? ⟨w.heap.size, 0, none⟩ = some (.slice (some ⟨b, off, none⟩) n3 c) ∧ wx.cell? ⟨b, off + k * 6 + 2, none⟩ = some (.int .i64 pn)) 13 14 rfl (by kernel_rfl) ?_
      refine tk 0 33 hS ?_
      refine tk 1 34 hS ?_
      refine tk 2 35 hS ?_
      refine tk 3 36 hS ?_
      refine tk 4 37 hS ?_
      refine tk 5 38 hS ?_
      refine tkV 6 39 (.pointer (some ⟨b, off + k * 6, none⟩)) hS ?_
      refine tk 7 40 hS ?_
      refine tk 8 41 hS ?_
      refine tk 9 42 hS ?_
      refine tkV 10 43 (.int .i64 pm) hS ?_
      refine wpAnyV_one (i := 11) (by kernel_rfl) rfl (fun K hK => ?_)
      go_simp
      refine hK.out _ _ (fun _ => hS) ?_
      clear hK K
      try simp only [Act.put, sA, s0, sS]
      refine tk 12 45 hS ?_
      refine wpAnyV_one (i := 13) (by kernel_rfl) rfl (fun K hK => ?_)
      go_simp
      refine hK.out _ _ (fun h => absurd rfl h) ?_
      clear hK K
      refine wpAnyV_done (by kernel_rfl) ?_
      try simp only [Act.put, sA, s0, sS]
      go_wp2_with fail
      have hdq : qs[k].dat = (pg, fb, pn, dt, rl, rf) := by
        have h := datFrameS_at HD3.out k hkq hkl
        rw [h, HPE.out]
        rfl
      obtain ⟨e1, e2, e3', e4, e5, e6⟩ := (show qs[k].page = pg ∧ qs[k].bs = fb ∧ qs[k].pins = pn ∧ qs[k].dirty = dt ∧ qs[k].rl = rl ∧ qs[k].rf = rf from by simpa [EFrame.dat] using hdq)
      have HE2 : Hid (qs[k].bs = fb) := e2
      have HOA := (show Hid (OwnR kFrame 0 51 5 ((w4.setCell ⟨g, k * 6 + 2, none⟩ (.int .i64 pm)).drew) (.slice (some ⟨g, 0, none⟩) n3 c3) (qs.set k (⟨pg, qs[k].v, qs[k].bs, pm, dt, rl, rf⟩ : EFrame))) from
        OwnR.setAt (p' := (⟨pg, qs[k].v, qs[k].bs, pm, dt, rl, rf⟩ : EFrame)) HO4.out HQL.out.symm hkq 2 (.int .i64 pm) (by decide) (by simp only [kFrame, List.set, e1, e4, e5, e6]) rfl rfl _ rfl)
      have hkA : Kept (fun b => b = g) w4.drew ((w4.setCell ⟨g, k * 6 + 2, none⟩ (.int .i64 pm)).drew) := (Kept.setCell (R := fun b => b = g) ((Kept.refl _ _)) (p := ⟨g, k * 6 + 2, none⟩) (.inr rfl) _ : Kept (fun b => b = g) w4.drew (w4.drew.setCell ⟨g, k * 6 + 2, none⟩ (.int .i64 pm)))
      have HKA := (show Hid (Same w ((w4.setCell ⟨g, k * 6 + 2, none⟩ (.int .i64 pm)).drew)) from (HK3.out.trans hk34).drew.next hkA (fun i hi e => by omega))
      have HBA0 := (show Hid (Blk ((w4.setCell ⟨g, k * 6 + 2, none⟩ (.int .i64 pm)).drew) w.heap.size 29 [.slice (some ⟨b, off, none⟩) n3 c, .int .i64 hand]) from (HB03.out.same hk34.drew).kept hkA (by intro e; omega))
      have HBA1 := (show Hid (Blk ((w4.setCell ⟨g, k * 6 + 2, none⟩ (.int .i64 pm)).drew) (w.heap.size + 1) 37 [.int .i64 0, .int .i64 0, .slice none 0 0, .int .i64 0]) from (HB13.out.same hk34.drew).kept hkA (by intro e; omega))
      have HBA4 := (show Hid (Blk ((w4.setCell ⟨g, k * 6 + 2, none⟩ (.int .i64 pm)).drew) w3.heap.size 29 [.slice (some ⟨g, 0, none⟩) n3 c3, .int .i64 hand]) from HB4.out.drew.kept hkA (by intro e; omega))
      obtain ⟨wA, hwA⟩ : ∃ x, x = (w4.setCell ⟨g, k * 6 + 2, none⟩ (.int .i64 pm)).drew := ⟨_, rfl⟩
      rw [← hwA] at HOA HKA HBA0 HBA1 HBA4 ⊢
      clear hwA hkA HO4 HB4 y2 fg hS HB03 HB13 e1 e2 e3' e4 e5 e6 hdq
      have y5 : ∃ u, wA.drew.cell? ⟨g, k * 6 + 5, none⟩ = some u := ⟨_, by have h := (HOA.out.same (Kept.refl _ _).drew).cell (by rw [List.length_set]; exact HQL.out.symm) k 5 (by rw [List.length_set]; exact hkq) (by decide); exact h⟩
      obtain ⟨u5, y5⟩ := y5
      have fg := (HOA.out.same (Kept.refl _ _).drew).frozen (by rw [List.length_set]; exact HQL.out.symm)
      have hzA : w3.heap.size < wA.heap.size := HBA4.out.lt
      cases rf with
      | true =>
        have hS5 : (fun wx : World => wx.cell? ⟨w3.heap.size, 0, none⟩ = some (.slice (some ⟨g, 0, none⟩) n3 c3) ∧ wx.cell? ⟨w.heap.size, 0, none⟩ = some (.slice (some ⟨b, off, none⟩) n3 c) ∧ wx.cell? ⟨b, off + k * 6 + 5, none⟩ = some (.bool true)) wA.drew := ⟨HBA4.out.drew.cell 0, HBA0.out.drew.cell 0, HKA.out.drew.cellOf HC5.out id⟩
        refine wp_region_V (fun wx : World => wx.cell? ⟨w3.heap.size, 0, none⟩ = some (.slice (some ⟨g, 0, none⟩) n3 c3) ∧ wx.cell? ⟨w.heap.size, 0, none⟩ = some (.slice (some ⟨b, off, none⟩) n3 c) ∧ wx.cell? ⟨b, off + k * 6 + 5, none⟩ = some (.bool true)) 15 16 rfl (by kernel_rfl) ?_
        refine tk 0 46 hS5 ?_
        refine tk 1 47 hS5 ?_
        refine tk 2 48 hS5 ?_
        refine tk 3 49 hS5 ?_
        refine tk 4 50 hS5 ?_
        refine tk 5 51 hS5 ?_
        refine tkV 6 52 (.pointer (some ⟨b, off + k * 6, none⟩)) hS5 ?_
        refine tk 7 53 hS5 ?_
        refine tk 8 54 hS5 ?_
        refine tk 9 55 hS5 ?_
        refine tkS 10 56 hS5 ?_
        refine tkS 11 57 hS5 ?_
        refine tk 12 58 hS5 ?_
        refine wpAnyV_one (i := 13) (by kernel_rfl) rfl (fun K hK => ?_)
        go_simp
        refine hK.out _ _ (fun _ => hS5) ?_
        clear hK K
        try simp only [Act.put, sA, s0, sS]
        refine tk 14 60 hS5 ?_
        refine wpAnyV_one (i := 15) (by kernel_rfl) rfl (fun K hK => ?_)
        go_simp
        refine hK.out _ _ (fun h => absurd rfl h) ?_
        clear hK K
        refine wpAnyV_done (by kernel_rfl) ?_
        try simp only [Act.put, sA, s0, sS]
        have HOB := (show Hid (OwnR kFrame 0 51 5 ((wA.setCell ⟨g, k * 6 + 5, none⟩ (.bool true)).drew) (.slice (some ⟨g, 0, none⟩) n3 c3) ((qs.set k (⟨pg, qs[k].v, qs[k].bs, pm, dt, rl, true⟩ : EFrame)).set k (⟨pg, qs[k].v, qs[k].bs, pm, dt, rl, true⟩ : EFrame))) from
          (HOA.out.same (Kept.refl _ _).drew).setAt (by rw [List.length_set]; exact HQL.out.symm) (by rw [List.length_set]; exact hkq) 5 (.bool true) (by decide) (by first | (rw [List.getElem_set_self]; done) | (rw [List.getElem_set_self]; rfl)) (by first | (rw [List.getElem_set_self]; done) | (rw [List.getElem_set_self]; rfl)) (by first | (rw [List.getElem_set_self]; done) | (rw [List.getElem_set_self]; rfl)) _ rfl)
        have HKB := (show Hid (Kept (fun b => b = g) wA ((wA.setCell ⟨g, k * 6 + 5, none⟩ (.bool true)).drew)) from (Kept.setCell (R := fun b => b = g) (Kept.refl _ _) (p := ⟨g, k * 6 + 5, none⟩) (.inr rfl) _).drew)
        obtain ⟨wB, hwB⟩ : ∃ x, x = (wA.setCell ⟨g, k * 6 + 5, none⟩ (.bool true)).drew := ⟨_, rfl⟩
        rw [← hwB] at HOB HKB ⊢
        clear hwB
        have HBB1 := (show Hid (Blk wB (w.heap.size + 1) 37 [.int .i64 0, .int .i64 0, .slice none 0 0, .int .i64 0]) from HBA1.out.kept HKB.out (by intro e; omega))
        have HBB4 := (show Hid (Blk wB w3.heap.size 29 [.slice (some ⟨g, 0, none⟩) n3 c3, .int .i64 hand]) from HBA4.out.kept HKB.out (by intro e; omega))
        have HKW := (show Hid (Same w wB) from HKA.out.next HKB.out (fun i hi e => by omega))
        obtain ⟨z0, z1, z2, z3⟩ := HBB1.out.all4
        have fz := HBB1.out.frozen
        have lz := HBB1.out.lt
        obtain ⟨x0, x1⟩ := HBB4.out.all2
        have lx := HBB4.out.lt
        clear hS5 y5 fg
        go_wp2
        refine bodyPost_ret (v := .agg #[.int .i64 0, .int .i64 k, .slice (some ⟨g, 0, none⟩) n3 c3, .int .i64 hand]) (by simp [results, Try.results49, go_sem, z0, z1, z2, z3]) rfl ⟨0, k, _, _, _, hand, _, rfl, ?_, ?_, HOB.out.kept (R := fun b => b = w.heap.size + 1) ?_ ?_, ?_⟩
        · rw [HPN.out, if_neg (by simp)]
          have hset : datFrameS ((qs.set k (⟨pg, qs[k].v, qs[k].bs, pm, dt, rl, true⟩ : EFrame)).set k (⟨pg, qs[k].v, qs[k].bs, pm, dt, rl, true⟩ : EFrame)) = (datFrameS ps).set k (pg, fb, pm, dt, rl, true || decide (0 < more)) := by
            rw [List.set_set]
            unfold datFrameS
            rw [List.map_set]
            have h := HD3.out
            unfold datFrameS at h
            rw [h]
            simp [EFrame.dat, HE2.out]
          rw [hset]
        · intro b hb
          have h := footR_set (by rw [List.length_set]; exact hkq) (by first | (rw [List.getElem_set_self]; done) | (rw [List.getElem_set_self]; rfl)) b hb
          have h2 := footR_set hkq (by rfl) b h
          have := HF3.out b h2
          omega
        · (iterate 4 refine Kept.setCell (R := fun b => b = w.heap.size + 1) ?_ (.inr rfl) _)
          exact Kept.refl _ _
        · intro b hb e
          have h := footR_set (by rw [List.length_set]; exact hkq) (by first | (rw [List.getElem_set_self]; done) | (rw [List.getElem_set_self]; rfl)) b hb
          have h2 := footR_set hkq (by rfl) b h
          have := HF3.out b h2
          omega
        · (iterate 4 refine Kept.setCell ?_ (.inl (Nat.le_succ _)) _)
          exact HKW.out
      | false =>
        have hS5 : (fun wx : World => wx.cell? ⟨w3.heap.size, 0, none⟩ = some (.slice (some ⟨g, 0, none⟩) n3 c3) ∧ wx.cell? ⟨w.heap.size, 0, none⟩ = some (.slice (some ⟨b, off, none⟩) n3 c) ∧ wx.cell? ⟨b, off + k * 6 + 5, none⟩ = some (.bool false)) wA.drew := ⟨HBA4.out.drew.cell 0, HBA0.out.drew.cell 0, HKA.out.drew.cellOf HC5.out id⟩
        refine wp_region_V (fun wx : World => wx.cell? ⟨w3.heap.size, 0, none⟩ = some (.slice (some ⟨g, 0, none⟩) n3 c3) ∧ wx.cell? ⟨w.heap.size, 0, none⟩ = some (.slice (some ⟨b, off, none⟩) n3 c) ∧ wx.cell? ⟨b, off + k * 6 + 5, none⟩ = some (.bool false)) 15 16 rfl (by kernel_rfl) ?_
        refine tk 0 46 hS5 ?_
        refine tk 1 47 hS5 ?_
        refine tk 2 48 hS5 ?_
        refine tk 3 49 hS5 ?_
        refine tk 4 50 hS5 ?_
        refine tk 5 51 hS5 ?_
        refine tkV 6 52 (.pointer (some ⟨b, off + k * 6, none⟩)) hS5 ?_
        refine tk 7 53 hS5 ?_
        refine tk 8 54 hS5 ?_
        refine tk 9 55 hS5 ?_
        refine tk 10 56 hS5 ?_
        refine tk 11 57 hS5 ?_
        refine tk 12 58 hS5 ?_
        refine wpAnyV_one (i := 13) (by kernel_rfl) rfl (fun K hK => ?_)
        go_simp
        refine hK.out _ _ (fun _ => hS5) ?_
        clear hK K
        try simp only [Act.put, sA, s0, sS]
        refine tk 14 60 hS5 ?_
        refine wpAnyV_one (i := 15) (by kernel_rfl) rfl (fun K hK => ?_)
        go_simp
        refine hK.out _ _ (fun h => absurd rfl h) ?_
        clear hK K
        refine wpAnyV_done (by kernel_rfl) ?_
        try simp only [Act.put, sA, s0, sS]
        have HOB := (show Hid (OwnR kFrame 0 51 5 ((wA.setCell ⟨g, k * 6 + 5, none⟩ (.bool (decide (0 < more)))).drew) (.slice (some ⟨g, 0, none⟩) n3 c3) ((qs.set k (⟨pg, qs[k].v, qs[k].bs, pm, dt, rl, false⟩ : EFrame)).set k (⟨pg, qs[k].v, qs[k].bs, pm, dt, rl, (decide (0 < more))⟩ : EFrame))) from
          (HOA.out.same (Kept.refl _ _).drew).setAt (by rw [List.length_set]; exact HQL.out.symm) (by rw [List.length_set]; exact hkq) 5 (.bool (decide (0 < more))) (by decide) (by first | (rw [List.getElem_set_self]; done) | (rw [List.getElem_set_self]; rfl)) (by first | (rw [List.getElem_set_self]; done) | (rw [List.getElem_set_self]; rfl)) (by first | (rw [List.getElem_set_self]; done) | (rw [List.getElem_set_self]; rfl)) _ rfl)
        have HKB := (show Hid (Kept (fun b => b = g) wA ((wA.setCell ⟨g, k * 6 + 5, none⟩ (.bool (decide (0 < more)))).drew)) from (Kept.setCell (R := fun b => b = g) (Kept.refl _ _) (p := ⟨g, k * 6 + 5, none⟩) (.inr rfl) _).drew)
        obtain ⟨wB, hwB⟩ : ∃ x, x = (wA.setCell ⟨g, k * 6 + 5, none⟩ (.bool (decide (0 < more)))).drew := ⟨_, rfl⟩
        rw [← hwB] at HOB HKB ⊢
        clear hwB
        have HBB1 := (show Hid (Blk wB (w.heap.size + 1) 37 [.int .i64 0, .int .i64 0, .slice none 0 0, .int .i64 0]) from HBA1.out.kept HKB.out (by intro e; omega))
        have HBB4 := (show Hid (Blk wB w3.heap.size 29 [.slice (some ⟨g, 0, none⟩) n3 c3, .int .i64 hand]) from HBA4.out.kept HKB.out (by intro e; omega))
        have HKW := (show Hid (Same w wB) from HKA.out.next HKB.out (fun i hi e => by omega))
        obtain ⟨z0, z1, z2, z3⟩ := HBB1.out.all4
        have fz := HBB1.out.frozen
        have lz := HBB1.out.lt
        obtain ⟨x0, x1⟩ := HBB4.out.all2
        have lx := HBB4.out.lt
        clear hS5 y5 fg
        go_wp2
        refine bodyPost_ret (v := .agg #[.int .i64 0, .int .i64 k, .slice (some ⟨g, 0, none⟩) n3 c3, .int .i64 hand]) (by simp [results, Try.results49, go_sem, z0, z1, z2, z3]) rfl ⟨0, k, _, _, _, hand, _, rfl, ?_, ?_, HOB.out.kept (R := fun b => b = w.heap.size + 1) ?_ ?_, ?_⟩
        · rw [HPN.out, if_neg (by simp)]
          have hset : datFrameS ((qs.set k (⟨pg, qs[k].v, qs[k].bs, pm, dt, rl, false⟩ : EFrame)).set k (⟨pg, qs[k].v, qs[k].bs, pm, dt, rl, (decide (0 < more))⟩ : EFrame)) = (datFrameS ps).set k (pg, fb, pm, dt, rl, false || decide (0 < more)) := by
            rw [List.set_set]
            unfold datFrameS
            rw [List.map_set]
            have h := HD3.out
            unfold datFrameS at h
            rw [h]
            simp [EFrame.dat, HE2.out]
          rw [hset]
        · intro b hb
          have h := footR_set (by rw [List.length_set]; exact hkq) (by first | (rw [List.getElem_set_self]; done) | (rw [List.getElem_set_self]; rfl)) b hb
          have h2 := footR_set hkq (by rfl) b h
          have := HF3.out b h2
          omega
        · (iterate 4 refine Kept.setCell (R := fun b => b = w.heap.size + 1) ?_ (.inr rfl) _)
          exact Kept.refl _ _
        · intro b hb e
          have h := footR_set (by rw [List.length_set]; exact hkq) (by first | (rw [List.getElem_set_self]; done) | (rw [List.getElem_set_self]; rfl)) b hb
          have h2 := footR_set hkq (by rfl) b h
          have := HF3.out b h2
          omega
        · (iterate 4 refine Kept.setCell ?_ (.inl (Nat.le_succ _)) _)
          exact HKW.out
  · go_wp2
    refine bodyPost_ret (v := .agg #[.int .i64 q, .int .i64 0, .slice none 0 0, .int .i64 0]) (by simp [results, Try.results49, go_sem, z0, z1, z2, z3]) rfl ⟨q, 0, none, 0, 0, 0, [], rfl, ?_, fun b hb => absurd hb (footR_nil b), OwnR.nil _ _ _ _ _, ?_⟩
    · unfold pinsP
      rw [HA.out, if_pos hq]
      rfl
    · (iterate 4 refine Kept.setCell ?_ (.inl (Nat.le_succ _)) _)
      exact HK1.out
end Go.Proofs.Ytabmhcdldfehnaa

namespace Go.Proofs.Ytabmhcdldfehnaa
set_option maxRecDepth 100000
set_option maxHeartbeats 4000000
open Go.RowKit
set_option linter.unusedVariables false
set_option linter.unusedSimpArgs false
def Turns (fid : FuncId) (xs : Array Value) (hand : Int) (ps : List EFrame) (T : Int × Int × List (Int × List Int × Int × Bool × Int × Bool)) (w : World) : Prop :=
  ∀ (wx : World) (P g n cap : Nat) (bl : List Nat) (qs : List EFrame), FP wx P hand g n cap bl qs → n ≤ 16 → datFrameS qs = datFrameS ps → poolF ps hand = 0 → Same w wx → (∀ b, footFP P g bl qs b → w.heap.size ≤ b) →
    Calls Try.prog fid (#[.pointer (some ⟨P, 0, none⟩)] ++ xs) wx fun e w' => ∃ fr cd bl' qs', e = .returned (.tuple #[.int .i64 fr, .int .i64 cd]) ∧ FP w' P hand g n cap bl' qs' ∧ (cd, fr, datFrameS qs') = T ∧ (∀ b, footS kFrame bl' qs' b → footS kFrame bl qs b ∨ wx.heap.size ≤ b) ∧ Kept (footFP P g bl qs) wx w'
def turnP (T : Int × Int × List (Int × List Int × Int × Bool × Int × Bool)) (ps : List EFrame) (hand : Int) : Int × Int × Int × List (Int × List Int × Int × Bool × Int × Bool) :=
  if poolF ps hand ≠ 0 then (1, 0, 0, []) else if T.1 ≠ 0 then (T.1, 0, 0, []) else (0, T.2.1, hand, T.2.2)
theorem turned_any (fid : FuncId) (xs : Array Value) (v : Value) (hand : Int) (ps : List EFrame) (T : Int × Int × List (Int × List Int × Int × Bool × Int × Bool)) (w : World) (hv : RdR kFrame w v ps) (hent : Enters fid) (hT : Turns fid xs hand ps T w) :
    Calls Try.prog 44 #[.agg #[v, .int .i64 hand], .func (.func fid) #[] xs] w fun e w' => ∃ cd fr a n c hd qs, e = .returned (.agg #[.int .i64 cd, .int .i64 fr, .slice a n c, .int .i64 hd]) ∧ (cd, fr, hd, datFrameS qs) = turnP T ps hand ∧ (∀ b, footR kFrame (.slice a n c) qs b → w.heap.size ≤ b) ∧ OwnR kFrame 0 51 5 w' (.slice a n c) qs ∧ Same w w' := by
  obtain ⟨a, c, rfl⟩ := hv.form
  have hk0 : Same w ((w.alloc (.cells #[.slice a ps.length c, .int .i64 hand] 29)).alloc (.cells #[.int .i64 0, .int .i64 0, .slice none 0 0, .int .i64 0] 37)) := ((Kept.refl _ _).alloc _).alloc _
  have b0 := Blk.newA w [.slice a ps.length c, .int .i64 hand] 29 [.int .i64 0, .int .i64 0, .slice none 0 0, .int .i64 0] 37
  have b1 := Blk.newB w [.slice a ps.length c, .int .i64 hand] 29 [.int .i64 0, .int .i64 0, .slice none 0 0, .int .i64 0] 37
  have k0 := implPoolFault_any (.slice a ps.length c) hand ps _ (hv.same hk0)
  have HV := (show Hid (RdR kFrame w (.slice a ps.length c) ps) from hv)
  have HT := (show Hid (Turns fid xs hand ps T w) from hT)
  have hent' : ∀ (args : Array Value) (wx : World), (callFunc fid args).run Try.prog wx = .ok (.enter fid args) wx := hent
  clear hv hT hent
  obtain ⟨R, hR⟩ : ∃ R, turnP T ps hand = R := ⟨_, rfl⟩
  rw [hR]
  unfold turnP at hR
  obtain ⟨q, hq⟩ : ∃ q, poolF ps hand = q := ⟨_, rfl⟩
  have HQ : Hid (poolF ps hand = q) := hq
  rw [hq] at hR k0
  go_enter Try.func44, Try.ntmps44
  go_wp2_with fail
  refine k0.mono ?_
  rintro e w1 ⟨rfl, hk1⟩
  have HK1 := (show Hid (Same w w1) from hk0.trans hk1)
  have HB0 := hid (b0.same hk1)
  have HB1 := hid (b1.same hk1)
  clear hk0 hk1 b0 b1 k0
  obtain ⟨g0, g1⟩ := HB0.out.all2
  obtain ⟨z0, z1, z2, z3⟩ := HB1.out.all4
  have fz := HB1.out.frozen
  have lz := HB1.out.lt
  by_cases h0 : q = 0
  · subst h0
    rw [if_neg (by simp)] at hR
    obtain ⟨hl1, hl16, _, _⟩ := poolF_len hq
    have hfr := frame_of hq
    have HM : Hid (∀ p ∈ ps, p.bs.length ≤ 1099511627776) := fun p hp => Nat.le_trans (hfr p hp).2 (by omega)
    clear hfr hq
    go_wp2_with fail
    refine (openPool_any (.slice a ps.length c) hand ps _ (HV.out.same HK1.out) hl1 hl16 HM.out).mono ?_
    rintro e w2 ⟨P, g, n, cap, bl, qs, rfl, hd2, hf2, hn2, hk2⟩
    have hn : n ≤ 16 := by rw [hf2.len, dat_len hd2]; exact hl16
    have HF2 := (show Hid (FP w2 P hand g n cap bl qs) from hf2)
    have HD2 : Hid (datFrameS qs = datFrameS ps) := hd2
    have HN2 : Hid (∀ b, footFP P g bl qs b → w1.heap.size ≤ b) := hn2
    have HK2 := (show Hid (Same w w2) from HK1.out.trans hk2)
    have HB12 := hid (HB1.out.same hk2)
    have hz2 : w1.heap.size ≤ w2.heap.size := hk2.size
    have kt := HT.out w2 P g n cap bl qs hf2 hn hd2 HQ.out HK2.out (fun b hb => by have := hn2 b hb; omega)
    clear hd2 hf2 hn2 hk2 g0 g1 z0 z1 z2 z3 fz hl1 hl16
    go_wp2_with fail
    refine kt.mono ?_
    rintro e w3 ⟨fr, cd, bl', qs', rfl, hf3, ht3, hn3, hk3⟩
    have HT3 : Hid ((cd, fr, datFrameS qs') = T) := ht3
    have HF3 := (show Hid (FP w3 P hand g n cap bl' qs') from hf3)
    have HN3 : Hid (∀ b, footS kFrame bl' qs' b → w1.heap.size ≤ b) := fun b hb => by
      rcases hn3 b hb with h | h
      · exact HN2.out b (.inr (.inr h))
      · omega
    have HK3 := (show Hid (Same w w3) from HK2.out.next hk3 (fun i hi e => by have := HN2.out i e; omega))
    have HB13 := (show Hid (Blk w3 (w.heap.size + 1) 37 [.int .i64 0, .int .i64 0, .slice none 0 0, .int .i64 0]) from HB12.out.kept hk3 (fun e => by have := HN2.out _ e; omega))
    rw [← ht3] at hR
    dsimp only at hR
    clear kt hf3 ht3 hn3 hk3
    obtain ⟨z0, z1, z2, z3⟩ := HB13.out.all4
    have fz := HB13.out.frozen
    have lz3 := HB13.out.lt
    by_cases h3 : cd = 0
    · subst h3
      rw [if_neg (by simp)] at hR
      have HR := hid hR
      go_wp2_with fail
      refine (pool_any P hand g n cap bl' qs' _ HF3.out hn).mono ?_
      rintro e w4 ⟨a4, m4, c4, rfl, ho4, hf4, hk4⟩
      have HO4 := (show Hid (OwnR kFrame 0 51 5 w4 (.slice a4 m4 c4) qs') from ho4)
      have HF4 : Hid (∀ b, footR kFrame (.slice a4 m4 c4) qs' b → w1.heap.size ≤ b) := fun b hb => by
        rcases hf4 b hb with h | h
        · have h1 := HB13.out.lt
          have h2 := HF3.out.lt P (.inl rfl)
          have h3 := HN2.out P (.inl rfl)
          omega
        · exact HN3.out b h
      have HK4 := (show Hid (Same w w4) from HK3.out.trans hk4)
      have HB14 := hid (HB13.out.same hk4)
      clear ho4 hf4 hk4 z0 z1 z2 z3 fz
      obtain ⟨z0, z1, z2, z3⟩ := HB14.out.all4
      have fz := HB14.out.frozen
      have lz4 := HB14.out.lt
      go_wp2
      refine bodyPost_ret (v := .agg #[.int .i64 0, .int .i64 fr, .slice a4 m4 c4, .int .i64 hand]) (by simp [results, Try.results44, go_sem, z0, z1, z2, z3]) rfl ⟨0, fr, a4, m4, c4, hand, qs', rfl, HR.out, fun b hb => by have := HF4.out b hb; omega, HO4.out.kept (R := fun b => b = w.heap.size + 1) ?_ (fun b hb e => by have := HF4.out b hb; omega), ?_⟩
      · (iterate 4 refine Kept.setCell (R := fun b => b = w.heap.size + 1) ?_ (.inr rfl) _)
        exact Kept.refl _ _
      · (iterate 4 refine Kept.setCell ?_ (.inl (Nat.le_succ _)) _)
        exact HK4.out
    · rw [if_pos h3] at hR
      have HR := hid hR
      go_wp2
      refine bodyPost_ret (v := .agg #[.int .i64 cd, .int .i64 0, .slice none 0 0, .int .i64 0]) (by simp [results, Try.results44, go_sem, z0, z1, z2, z3]) rfl ⟨cd, 0, none, 0, 0, 0, [], rfl, ?_, fun b hb => absurd hb (footR_nil b), OwnR.nil _ _ _ _ _, ?_⟩
      · rw [← HR.out]; rfl
      · (iterate 4 refine Kept.setCell ?_ (.inl (Nat.le_succ _)) _)
        exact HK3.out
  · rw [if_pos h0] at hR
    have HR := hid hR
    go_wp2
    refine bodyPost_ret (v := .agg #[.int .i64 1, .int .i64 0, .slice none 0 0, .int .i64 0]) (by simp [results, Try.results44, go_sem, z0, z1, z2, z3]) rfl ⟨1, 0, none, 0, 0, 0, [], rfl, ?_, fun b hb => absurd hb (footR_nil b), OwnR.nil _ _ _ _ _, ?_⟩
    · rw [← HR.out]; rfl
    · (iterate 4 refine Kept.setCell ?_ (.inl (Nat.le_succ _)) _)
      exact HK1.out
end Go.Proofs.Ytabmhcdldfehnaa

namespace Go.Proofs.Ytabmhcdldfehnaa
open Go.RowKit
set_option linter.unusedVariables false
set_option linter.unusedSimpArgs false
theorem findB_dat {page : Int} {ps qs : List EFrame} (h : datFrameS qs = datFrameS ps) : findB page qs = findB page ps := by
  unfold findB
  rw [findFrom_dat h]
theorem atP_none {ps : List EFrame} {hand page : Int} (h : poolF ps hand = 0) (h2 : findB page ps = -1) : atP ps hand page = (0, 2) := by
  unfold atP
  rw [if_neg (by simp [h]), ← findB_eq page h, h2, if_pos (by decide)]
theorem atP_some {ps : List EFrame} {hand page : Int} (h : poolF ps hand = 0) (h2 : findB page ps ≠ -1) : atP ps hand page = (findB page ps, 0) := by
  obtain ⟨j, hj, _⟩ := findB_lt h2
  unfold atP
  rw [if_neg (by simp [h]), ← findB_eq page h, hj, if_neg (by omega)]
end Go.Proofs.Ytabmhcdldfehnaa
