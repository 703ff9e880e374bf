import Derived.Test.YtommabejmpafcabG08
namespace Go.Proofs.Ytommabejmpafcab
set_option maxRecDepth 100000
set_option maxHeartbeats 4000000
open Go.RowKit
set_option linter.unusedVariables false
set_option linter.unusedSimpArgs false
theorem cleanT_dat {page : Int} {ps qs : List EFrame} (h : datFrameS qs = datFrameS ps) : cleanT page qs = cleanT page ps := by
  unfold cleanT
  rw [findB_dat h, h]
def cleanP (ps : List EFrame) (hand page : Int) : Int × Int × Int × List (Int × List Int × Int × Bool × Int × Bool) := turnP (cleanT page ps) ps hand
theorem cleanP_turn (ps : List EFrame) (hand page : Int) : cleanP ps hand page = turnP (cleanT page ps) ps hand := rfl
theorem turnP_dat {T : Int × Int × List (Int × List Int × Int × Bool × Int × Bool)} {ps qs : List EFrame} {hand : Int} (h : datFrameS qs = datFrameS ps) : turnP T qs hand = turnP T ps hand := by
  unfold turnP
  rw [poolF_dat h]
theorem cleanP_dat {ps qs : List EFrame} {hand page : Int} (h : datFrameS qs = datFrameS ps) : cleanP qs hand page = cleanP ps hand page := by
  unfold cleanP
  rw [cleanT_dat h, turnP_dat h]
theorem small_dat {ps : List EFrame} {hand : Int} (h : poolF ps hand = 0) : SmallF (datFrameS ps) := by
  have hl := (poolF_len h).2.1
  refine ⟨by rw [datFrameS_length]; omega, fun x hx => ?_⟩
  obtain ⟨p, hp, rfl⟩ := List.mem_map.1 hx
  have := (frame_of h p hp).2
  exact Nat.le_trans this (by omega)
theorem small_set {l : List (Int × List Int × Int × Bool × Int × Bool)} {k : Nat} {x : Int × List Int × Int × Bool × Int × Bool} (h : SmallF l) (hx : x.2.1.length ≤ 1048576) : SmallF (l.set k x) :=
  ⟨by rw [List.length_set]; exact h.1, fun y hy => by
    rcases List.mem_or_eq_of_mem_set hy with hy | rfl
    · exact h.2 y hy
    · exact hx⟩
theorem small_nil : SmallF [] := ⟨by simp, fun x hx => by simp at hx⟩
theorem turnP_small {T : Int × Int × List (Int × List Int × Int × Bool × Int × Bool)} {ps qs : List EFrame} {hand a b c : Int} (h : (a, b, c, datFrameS qs) = turnP T ps hand) (hT : poolF ps hand = 0 → T.1 = 0 → SmallF T.2.2) : SmallF (datFrameS qs) := by
  unfold turnP at h
  by_cases h0 : poolF ps hand ≠ 0
  · rw [if_pos h0] at h
    simp only [Prod.mk.injEq] at h
    rw [h.2.2.2]; exact small_nil
  rw [if_neg h0] at h
  by_cases h1 : T.1 ≠ 0
  · rw [if_pos h1] at h
    simp only [Prod.mk.injEq] at h
    rw [h.2.2.2]; exact small_nil
  rw [if_neg h1] at h
  simp only [Prod.mk.injEq] at h
  rw [h.2.2.2]
  exact hT (Classical.not_not.1 h0) (Classical.not_not.1 h1)
theorem cleanP_small {ps qs : List EFrame} {hand page a b c : Int} (h : (a, b, c, datFrameS qs) = cleanP ps hand page) : SmallF (datFrameS qs) := by
  refine turnP_small h (fun h0 _ => ?_)
  unfold cleanT
  split
  · exact small_dat h0
  · split
    · exact small_nil
    · next d hd => exact small_set (small_dat h0) ((small_dat h0).2 d (List.mem_of_getElem? hd))
theorem specPoolClean_any (v : Value) (hand page : Int) (ps : List EFrame) (w : World) (hv : RdR kFrame w v ps) :
    Calls Try.prog 23 #[.agg #[v, .int .i64 hand], .int .i64 page] w fun e w' => ∃ cd fr a n c hd qs, e = .returned (.agg #[.int .i64 cd, .int .i64 fr, .slice a n c, .int .i64 hd]) ∧ (cd, fr, hd, datFrameS qs) = cleanP ps hand page ∧ (∀ b, footR kFrame (.slice a n c) qs b → w.heap.size ≤ b) ∧ OwnR kFrame 0 58 5 w' (.slice a n c) qs ∧ Same w w' := by
  obtain ⟨a, c, rfl⟩ := hv.form
  have hmax := hv.max
  unfold maxLen at hmax
  have HV := (show Hid (RdR kFrame w (.slice a ps.length c) ps) from hv)
  clear hv
  obtain ⟨at_, q, hA⟩ : ∃ x y, atP ps hand page = (x, y) := ⟨_, _, rfl⟩
  have HA : Hid (atP ps hand page = (at_, q)) := hA
  have hk0 : Same w ((w.alloc (.cells #[.slice a ps.length c, .int .i64 hand] 28)).alloc (.cells #[.int .i64 0, .int .i64 0, .slice none 0 0, .int .i64 0] 30)) := ((Kept.refl _ _).alloc _).alloc _
  have k0 := l7At_any (.slice a ps.length c) hand page ps _ (HV.out.same hk0)
  rw [hA] at k0
  have b0 := Blk.newA w [.slice a ps.length c, .int .i64 hand] 28 [.int .i64 0, .int .i64 0, .slice none 0 0, .int .i64 0] 30
  have b1 := Blk.newB w [.slice a ps.length c, .int .i64 hand] 28 [.int .i64 0, .int .i64 0, .slice none 0 0, .int .i64 0] 30
  go_enter Try.func23, Try.ntmps23
  go_wp2_with fail
  refine k0.mono ?_
  rintro e w1 ⟨rfl, hk1⟩
  have HK1 := (show Hid (Same w w1) from hk0.trans hk1)
  have HB0 := (show Hid (Blk w1 w.heap.size 28 [.slice a ps.length c, .int .i64 hand]) from b0.same hk1)
  have HB1 := (show Hid (Blk w1 (w.heap.size + 1) 30 [.int .i64 0, .int .i64 0, .slice none 0 0, .int .i64 0]) from b1.same hk1)
  clear hk0 hk1 b0 b1 k0
  obtain ⟨g0, g1⟩ := HB0.out.all2
  obtain ⟨z0, z1, z2, z3⟩ := HB1.out.all4
  have fz := HB1.out.frozen
  have lz := HB1.out.lt
  have HTU : Hid (cleanP ps hand page = if q ≠ 0 then (q, 0, 0, []) else match (datFrameS ps)[at_.toNat]? with
    | none => (0, 0, hand, [])
    | some d => (0, at_, hand, (datFrameS ps).set at_.toNat (d.1, d.2.1, d.2.2.1, false, 0, d.2.2.2.2.2))) := by
    unfold Hid cleanP turnP
    by_cases h0 : poolF ps hand ≠ 0
    · have e : atP ps hand page = (0, 1) := if_pos h0
      rw [hA] at e
      injection e with e1 e2
      subst e1 e2
      rw [if_pos h0, if_pos (by simp)]
    have h1 : poolF ps hand = 0 := Classical.not_not.1 h0
    rw [if_neg h0]
    by_cases h2 : findB page ps = -1
    · have e := atP_none h1 h2
      rw [hA] at e
      injection e with e1 e2
      subst e1 e2
      have e : cleanT page ps = (2, 0, datFrameS ps) := if_pos h2
      rw [e, if_pos (by simp), if_pos (by simp)]
    · have e := atP_some h1 h2
      rw [hA] at e
      injection e with e1 e2
      subst e1 e2
      rw [if_neg (show ¬ ((0 : Int) ≠ 0) from by simp)]
      have e : cleanT page ps = match (datFrameS ps)[(findB page ps).toNat]? with
        | none => (0, 0, [])
        | some d => (0, findB page ps, (datFrameS ps).set (findB page ps).toNat (d.1, d.2.1, d.2.2.1, false, 0, d.2.2.2.2.2)) := if_neg h2
      rw [e]
      cases (datFrameS ps)[(findB page ps).toNat]? with
      | none => rfl
      | some d => rfl
  clear hA
  by_cases hq : q = 0
  · subst hq
    obtain ⟨h0, k, rfl, hkl⟩ := atP_lt HA.out
    have hl16 := (poolF_len h0).2.1
    have hfr := frame_of h0
    have HM : Hid (∀ p ∈ ps, p.bs.length ≤ 1099511627776) := fun p hp => Nat.le_trans (hfr p hp).2 (by omega)
    clear hfr
    clear z0 z1 z2 z3 fz lz
    go_wp2_with fail
    refine (l7Copy_any (.slice a ps.length c) hand ps _ (by omega) HM.out (HV.out.same HK1.out)).mono ?_
    rintro e w3 ⟨a3, n3, c3, qs, rfl, hd3, hf3, ho3, hk3⟩
    have hql : qs.length = ps.length := dat_len hd3
    obtain ⟨g, e3⟩ : ∃ g, (Value.slice a3 n3 c3) = .slice (some ⟨g, 0, none⟩) ps.length c3 := by
      rcases ho3.form with ⟨_, hps⟩ | ⟨g, cap, e, _⟩
      · rw [hps] at hql; simp at hql; omega
      · rw [hql] at e
        injection e with e1 e2 e3
        exact ⟨g, by rw [e1, e2]⟩
    injection e3 with e31 e32
    subst e31 e32
    have HQL : Hid (qs.length = ps.length) := hql
    have HK3 := (show Hid (Same w w3) from HK1.out.trans hk3)
    have HO3 := (show Hid (OwnR kFrame 0 58 5 w3 (.slice (some ⟨g, 0, none⟩) ps.length c3) qs) from ho3)
    have hz1 : w.heap.size + 1 < w1.heap.size := HB1.out.lt
    have HF3 : Hid (∀ b, footR kFrame (.slice (some ⟨g, 0, none⟩) ps.length c3) qs b → w.heap.size + 1 < b ∧ b < w3.heap.size) := fun b hb => ⟨by have := hf3 b hb; omega, (ho3.lt b hb).2⟩
    have HD3 : Hid (datFrameS qs = datFrameS ps) := hd3
    have HB13 := (show Hid (Blk w3 (w.heap.size + 1) 30 [.int .i64 0, .int .i64 0, .slice none 0 0, .int .i64 0]) from HB1.out.same hk3)
    have hkq : k < qs.length := by omega
    have hgl : w.heap.size + 1 < g ∧ g < w3.heap.size := HF3.out g (.inl rfl)
    obtain ⟨hgl1, hgl2⟩ := hgl
    have hki : (k : Int) < (ps.length : Int) := by omega
    obtain ⟨p, hp⟩ : ∃ p, qs[k] = p := ⟨_, rfl⟩
    have HPE : Hid (qs[k] = p) := hp
    have y3 : w3.cell? ⟨g, k * 6 + 3, none⟩ = some (.bool p.dirty) := by have h := ho3.cell hql.symm k 3 hkq (by decide); rw [hp] at h; exact h
    have y4 : w3.cell? ⟨g, k * 6 + 4, none⟩ = some (.int .i64 p.rl) := by have h := ho3.cell hql.symm k 4 hkq (by decide); rw [hp] at h; exact h
    have fg := ho3.frozen hql.symm
    have HDK : Hid ((datFrameS ps)[k]? = some p.dat) := by unfold Hid; rw [← hd3, dat_at (List.getElem?_eq_getElem hkq), hp]
    obtain ⟨z0, z1, z2, z3⟩ := HB13.out.all4
    have fz := HB13.out.frozen
    have lz := HB13.out.lt
    clear hd3 hf3 ho3 hk3 g0 g1 hp hql
    have HOA := (show Hid (OwnR kFrame 0 58 5 (w3.setCell ⟨g, k * 6 + 3, none⟩ (.bool false)) (.slice (some ⟨g, 0, none⟩) ps.length c3) (qs.set k (⟨p.page, p.v, p.bs, p.pins, false, p.rl, p.rf⟩ : EFrame))) from
      OwnR.setAt (p' := (⟨p.page, p.v, p.bs, p.pins, false, p.rl, p.rf⟩ : EFrame)) HO3.out HQL.out.symm hkq 3 (.bool false) (by decide) (by rw [HPE.out]; rfl) (by rw [HPE.out]; rfl) (by rw [HPE.out]; rfl) _ rfl)
    have HOB := (show Hid (OwnR kFrame 0 58 5 ((w3.setCell ⟨g, k * 6 + 3, none⟩ (.bool false)).setCell ⟨g, k * 6 + 4, none⟩ (.int .i64 0)) (.slice (some ⟨g, 0, none⟩) ps.length c3) ((qs.set k (⟨p.page, p.v, p.bs, p.pins, false, p.rl, p.rf⟩ : EFrame)).set k (⟨p.page, p.v, p.bs, p.pins, false, 0, p.rf⟩ : EFrame))) from
      OwnR.setAt (p' := (⟨p.page, p.v, p.bs, p.pins, false, 0, p.rf⟩ : EFrame)) HOA.out (by rw [List.length_set]; exact HQL.out.symm) (by rw [List.length_set]; exact hkq) 4 (.int .i64 0) (by decide) (by rw [List.getElem_set_self]; rfl) (by rw [List.getElem_set_self]; rfl) (by rw [List.getElem_set_self]; rfl) _ rfl)
    have HKB := (show Hid (Kept (fun b => b = g) w3 ((w3.setCell ⟨g, k * 6 + 3, none⟩ (.bool false)).setCell ⟨g, k * 6 + 4, none⟩ (.int .i64 0))) from Kept.setCell (R := fun b => b = g) (Kept.setCell (R := fun b => b = g) (Kept.refl _ _) (p := ⟨g, k * 6 + 3, none⟩) (.inr rfl) _) (p := ⟨g, k * 6 + 4, none⟩) (.inr rfl) _)
    go_wp2
    have hfoot : ∀ b, footR kFrame (.slice (some ⟨g, 0, none⟩) ps.length c3) ((qs.set k (⟨p.page, p.v, p.bs, p.pins, false, p.rl, p.rf⟩ : EFrame)).set k (⟨p.page, p.v, p.bs, p.pins, false, 0, p.rf⟩ : EFrame)) b → w.heap.size + 1 < b := fun b hb => by
      rw [List.set_set] at hb
      exact (HF3.out b (footR_set hkq (by rw [HPE.out]; rfl) b hb)).1
    have hbf := (((((HB13.out.kept HKB.out (by intro e; omega)).stored 0 (.int .i64 0)).stored 1 (.int .i64 k)).stored 2 (.slice (some ⟨g, 0, none⟩) ps.length c3)).stored 3 (.int .i64 hand)).alloc (.cells #[.slice (some ⟨g, 0, none⟩) ps.length c3, .int .i64 hand] 28)
    obtain ⟨f0, f1, f2, f3⟩ := hbf.all4
    refine bodyPost_ret (v := .agg #[.int .i64 0, .int .i64 k, .slice (some ⟨g, 0, none⟩) ps.length c3, .int .i64 hand]) (by simp [results, Try.results23, go_sem, f0, f1, f2, f3]) rfl ⟨0, k, _, _, _, hand, _, rfl, ?_, fun b hb => by have := hfoot b hb; omega, HOB.out.kept (R := fun b => b = w.heap.size + 1) (Kept.alloc ?_ _) (fun b hb e => by have := hfoot b hb; omega), Kept.alloc ?_ _⟩
    · rw [HTU.out, if_neg (by simp), Int.toNat_natCast, HDK.out]
      simp only [List.set_set, dat_set, HD3.out]
      rfl
    · (iterate 4 refine Kept.setCell (R := fun b => b = w.heap.size + 1) ?_ (.inr rfl) _)
      exact Kept.refl _ _
    · (iterate 4 refine Kept.setCell ?_ (.inl (Nat.le_succ _)) _)
      exact HK3.out.next HKB.out (fun i hi e => by omega)
  · go_wp2
    refine bodyPost_ret (v := .agg #[.int .i64 q, .int .i64 0, .slice none 0 0, .int .i64 0]) (by simp [results, Try.results23, go_sem, z0, z1, z2, z3]) rfl ⟨q, 0, none, 0, 0, 0, [], rfl, ?_, fun b hb => absurd hb (footR_nil b), OwnR.nil _ _ _ _ _, ?_⟩
    · rw [HTU.out, if_pos hq]
      rfl
    · (iterate 4 refine Kept.setCell ?_ (.inl (Nat.le_succ _)) _)
      exact HK1.out
end Go.Proofs.Ytommabejmpafcab
