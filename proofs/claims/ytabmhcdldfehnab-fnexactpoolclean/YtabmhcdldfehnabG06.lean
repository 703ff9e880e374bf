import Derived.Test.YtabmhcdldfehnabG05
import Derived.Test.YtabmhcdldfehnabG00
import Derived.Test.YtabmhcdldfehnabG02
import Derived.Deep.DeepCutAuto
import Derived.Deep.RegionWith
import Derived.Deep.DeepMust
namespace Go.Proofs.Ytabmhcdldfehnab
set_option maxRecDepth 100000
set_option maxHeartbeats 4000000
open Go.RowKit
set_option linter.unusedVariables false
set_option linter.unusedSimpArgs false
def Turns (fid : FuncId) (xs : Array Value) (hand : Int) (ps : List EFrame) (T : Int × Int × List (Int × List Int × Int × Bool × Int × Bool)) (w : World) : Prop :=
  ∀ (wx : World) (P g n cap : Nat) (bl : List Nat) (qs : List EFrame), FP wx P hand g n cap bl qs → n ≤ 16 → datFrameS qs = datFrameS ps → poolF ps hand = 0 → Same w wx → (∀ b, footFP P g bl qs b → w.heap.size ≤ b) →
    Calls Try.prog fid (#[.pointer (some ⟨P, 0, none⟩)] ++ xs) wx fun e w' => ∃ fr cd bl' qs', e = .returned (.tuple #[.int .i64 fr, .int .i64 cd]) ∧ FP w' P hand g n cap bl' qs' ∧ (cd, fr, datFrameS qs') = T ∧ (∀ b, footS kFrame bl' qs' b → footS kFrame bl qs b ∨ wx.heap.size ≤ b) ∧ Kept (footFP P g bl qs) wx w'
def turnP (T : Int × Int × List (Int × List Int × Int × Bool × Int × Bool)) (ps : List EFrame) (hand : Int) : Int × Int × Int × List (Int × List Int × Int × Bool × Int × Bool) :=
  if poolF ps hand ≠ 0 then (1, 0, 0, []) else if T.1 ≠ 0 then (T.1, 0, 0, []) else (0, T.2.1, hand, T.2.2)
theorem turned_any (fid : FuncId) (xs : Array Value) (v : Value) (hand : Int) (ps : List EFrame) (T : Int × Int × List (Int × List Int × Int × Bool × Int × Bool)) (w : World) (hv : RdR kFrame w v ps) (hent : Enters fid) (hT : Turns fid xs hand ps T w) :
    Calls Try.prog 20 #[.agg #[v, .int .i64 hand], .func (.func fid) #[] xs] w fun e w' => ∃ cd fr a n c hd qs, e = .returned (.agg #[.int .i64 cd, .int .i64 fr, .slice a n c, .int .i64 hd]) ∧ (cd, fr, hd, datFrameS qs) = turnP T ps hand ∧ (∀ b, footR kFrame (.slice a n c) qs b → w.heap.size ≤ b) ∧ OwnR kFrame 0 46 5 w' (.slice a n c) qs ∧ Same w w' := by
  obtain ⟨a, c, rfl⟩ := hv.form
  have hk0 : Same w ((w.alloc (.cells #[.slice a ps.length c, .int .i64 hand] 28)).alloc (.cells #[.int .i64 0, .int .i64 0, .slice none 0 0, .int .i64 0] 30)) := ((Kept.refl _ _).alloc _).alloc _
  have b0 := Blk.newA w [.slice a ps.length c, .int .i64 hand] 28 [.int .i64 0, .int .i64 0, .slice none 0 0, .int .i64 0] 30
  have b1 := Blk.newB w [.slice a ps.length c, .int .i64 hand] 28 [.int .i64 0, .int .i64 0, .slice none 0 0, .int .i64 0] 30
  have k0 := implPoolFault_any (.slice a ps.length c) hand ps _ (hv.same hk0)
  have HV := (show Hid (RdR kFrame w (.slice a ps.length c) ps) from hv)
  have HT := (show Hid (Turns fid xs hand ps T w) from hT)
  have hent' : ∀ (args : Array Value) (wx : World), (callFunc fid args).run Try.prog wx = .ok (.enter fid args) wx := hent
  clear hv hT hent
  obtain ⟨R, hR⟩ : ∃ R, turnP T ps hand = R := ⟨_, rfl⟩
  rw [hR]
  unfold turnP at hR
  obtain ⟨q, hq⟩ : ∃ q, poolF ps hand = q := ⟨_, rfl⟩
  have HQ : Hid (poolF ps hand = q) := hq
  rw [hq] at hR k0
  go_enter Try.func20, Try.ntmps20
  go_wp2_with fail
  refine k0.mono ?_
  rintro e w1 ⟨rfl, hk1⟩
  have HK1 := (show Hid (Same w w1) from hk0.trans hk1)
  have HB0 := hid (b0.same hk1)
  have HB1 := hid (b1.same hk1)
  clear hk0 hk1 b0 b1 k0
  obtain ⟨g0, g1⟩ := HB0.out.all2
  obtain ⟨z0, z1, z2, z3⟩ := HB1.out.all4
  have fz := HB1.out.frozen
  have lz := HB1.out.lt
  by_cases h0 : q = 0
  · subst h0
    rw [if_neg (by simp)] at hR
    obtain ⟨hl1, hl16, _, _⟩ := poolF_len hq
    have hfr := frame_of hq
    have HM : Hid (∀ p ∈ ps, p.bs.length ≤ 1099511627776) := fun p hp => Nat.le_trans (hfr p hp).2 (by omega)
    clear hfr hq
    go_wp2_with fail
    refine (openPool_any (.slice a ps.length c) hand ps _ (HV.out.same HK1.out) hl1 hl16 HM.out).mono ?_
    rintro e w2 ⟨P, g, n, cap, bl, qs, rfl, hd2, hf2, hn2, hk2⟩
    have hn : n ≤ 16 := by rw [hf2.len, dat_len hd2]; exact hl16
    have HF2 := (show Hid (FP w2 P hand g n cap bl qs) from hf2)
    have HD2 : Hid (datFrameS qs = datFrameS ps) := hd2
    have HN2 : Hid (∀ b, footFP P g bl qs b → w1.heap.size ≤ b) := hn2
    have HK2 := (show Hid (Same w w2) from HK1.out.trans hk2)
    have HB12 := hid (HB1.out.same hk2)
    have hz2 : w1.heap.size ≤ w2.heap.size := hk2.size
    have kt := HT.out w2 P g n cap bl qs hf2 hn hd2 HQ.out HK2.out (fun b hb => by have := hn2 b hb; omega)
    clear hd2 hf2 hn2 hk2 g0 g1 z0 z1 z2 z3 fz hl1 hl16
    go_wp2_with fail
    refine kt.mono ?_
    rintro e w3 ⟨fr, cd, bl', qs', rfl, hf3, ht3, hn3, hk3⟩
    have HT3 : Hid ((cd, fr, datFrameS qs') = T) := ht3
    have HF3 := (show Hid (FP w3 P hand g n cap bl' qs') from hf3)
    have HN3 : Hid (∀ b, footS kFrame bl' qs' b → w1.heap.size ≤ b) := fun b hb => by
      rcases hn3 b hb with h | h
      · exact HN2.out b (.inr (.inr h))
      · omega
    have HK3 := (show Hid (Same w w3) from HK2.out.next hk3 (fun i hi e => by have := HN2.out i e; omega))
    have HB13 := (show Hid (Blk w3 (w.heap.size + 1) 30 [.int .i64 0, .int .i64 0, .slice none 0 0, .int .i64 0]) from HB12.out.kept hk3 (fun e => by have := HN2.out _ e; omega))
    rw [← ht3] at hR
    dsimp only at hR
    clear kt hf3 ht3 hn3 hk3
    obtain ⟨z0, z1, z2, z3⟩ := HB13.out.all4
    have fz := HB13.out.frozen
    have lz3 := HB13.out.lt
    by_cases h3 : cd = 0
    · subst h3
      rw [if_neg (by simp)] at hR
      have HR := hid hR
      go_wp2_with fail
      refine (pool_any P hand g n cap bl' qs' _ HF3.out hn).mono ?_
      rintro e w4 ⟨a4, m4, c4, rfl, ho4, hf4, hk4⟩
      have HO4 := (show Hid (OwnR kFrame 0 46 5 w4 (.slice a4 m4 c4) qs') from ho4)
      have HF4 : Hid (∀ b, footR kFrame (.slice a4 m4 c4) qs' b → w1.heap.size ≤ b) := fun b hb => by
        rcases hf4 b hb with h | h
        · have h1 := HB13.out.lt
          have h2 := HF3.out.lt P (.inl rfl)
          have h3 := HN2.out P (.inl rfl)
          omega
        · exact HN3.out b h
      have HK4 := (show Hid (Same w w4) from HK3.out.trans hk4)
      have HB14 := hid (HB13.out.same hk4)
      clear ho4 hf4 hk4 z0 z1 z2 z3 fz
      obtain ⟨z0, z1, z2, z3⟩ := HB14.out.all4
      have fz := HB14.out.frozen
      have lz4 := HB14.out.lt
      go_wp2
      refine bodyPost_ret (v := .agg #[.int .i64 0, .int .i64 fr, .slice a4 m4 c4, .int .i64 hand]) (by simp [results, Try.results20, go_sem, z0, z1, z2, z3]) rfl ⟨0, fr, a4, m4, c4, hand, qs', rfl, HR.out, fun b hb => by have := HF4.out b hb; omega, HO4.out.kept (R := fun b => b = w.heap.size + 1) ?_ (fun b hb e => by have := HF4.out b hb; omega), ?_⟩
      · (iterate 4 refine Kept.setCell (R := fun b => b = w.heap.size + 1) ?_ (.inr rfl) _)
        exact Kept.refl _ _
      · (iterate 4 refine Kept.setCell ?_ (.inl (Nat.le_succ _)) _)
        exact HK4.out
    · rw [if_pos h3] at hR
      have HR := hid hR
      go_wp2
      refine bodyPost_ret (v := .agg #[.int .i64 cd, .int .i64 0, .slice none 0 0, .int .i64 0]) (by simp [results, Try.results20, go_sem, z0, z1, z2, z3]) rfl ⟨cd, 0, none, 0, 0, 0, [], rfl, ?_, fun b hb => absurd hb (footR_nil b), OwnR.nil _ _ _ _ _, ?_⟩
      · rw [← HR.out]; rfl
      · (iterate 4 refine Kept.setCell ?_ (.inl (Nat.le_succ _)) _)
        exact HK3.out
  · rw [if_pos h0] at hR
    have HR := hid hR
    go_wp2
    refine bodyPost_ret (v := .agg #[.int .i64 1, .int .i64 0, .slice none 0 0, .int .i64 0]) (by simp [results, Try.results20, go_sem, z0, z1, z2, z3]) rfl ⟨1, 0, none, 0, 0, 0, [], rfl, ?_, fun b hb => absurd hb (footR_nil b), OwnR.nil _ _ _ _ _, ?_⟩
    · rw [← HR.out]; rfl
    · (iterate 4 refine Kept.setCell ?_ (.inl (Nat.le_succ _)) _)
      exact HK1.out
end Go.Proofs.Ytabmhcdldfehnab

namespace Go.Proofs.Ytabmhcdldfehnab
open Go.RowKit
set_option linter.unusedVariables false
set_option linter.unusedSimpArgs false
theorem findB_dat {page : Int} {ps qs : List EFrame} (h : datFrameS qs = datFrameS ps) : findB page qs = findB page ps := by
  unfold findB
  rw [findFrom_dat h]
theorem atP_none {ps : List EFrame} {hand page : Int} (h : poolF ps hand = 0) (h2 : findB page ps = -1) : atP ps hand page = (0, 2) := by
  unfold atP
  rw [if_neg (by simp [h]), ← findB_eq page h, h2, if_pos (by decide)]
theorem atP_some {ps : List EFrame} {hand page : Int} (h : poolF ps hand = 0) (h2 : findB page ps ≠ -1) : atP ps hand page = (findB page ps, 0) := by
  obtain ⟨j, hj, _⟩ := findB_lt h2
  unfold atP
  rw [if_neg (by simp [h]), ← findB_eq page h, hj, if_neg (by omega)]
end Go.Proofs.Ytabmhcdldfehnab

namespace Go.Proofs.Ytabmhcdldfehnab
set_option maxRecDepth 100000
set_option maxHeartbeats 4000000
open Go.RowKit
set_option linter.unusedVariables false
set_option linter.unusedSimpArgs false
theorem cleanT_dat {page : Int} {ps qs : List EFrame} (h : datFrameS qs = datFrameS ps) : cleanT page qs = cleanT page ps := by
  unfold cleanT
  rw [findB_dat h, h]
def cleanP (ps : List EFrame) (hand page : Int) : Int × Int × Int × List (Int × List Int × Int × Bool × Int × Bool) := turnP (cleanT page ps) ps hand
theorem cleanP_turn (ps : List EFrame) (hand page : Int) : cleanP ps hand page = turnP (cleanT page ps) ps hand := rfl
theorem turnP_dat {T : Int × Int × List (Int × List Int × Int × Bool × Int × Bool)} {ps qs : List EFrame} {hand : Int} (h : datFrameS qs = datFrameS ps) : turnP T qs hand = turnP T ps hand := by
  unfold turnP
  rw [poolF_dat h]
theorem cleanP_dat {ps qs : List EFrame} {hand page : Int} (h : datFrameS qs = datFrameS ps) : cleanP qs hand page = cleanP ps hand page := by
  unfold cleanP
  rw [cleanT_dat h, turnP_dat h]
theorem small_dat {ps : List EFrame} {hand : Int} (h : poolF ps hand = 0) : SmallF (datFrameS ps) := by
  have hl := (poolF_len h).2.1
  refine ⟨by rw [datFrameS_length]; omega, fun x hx => ?_⟩
  obtain ⟨p, hp, rfl⟩ := List.mem_map.1 hx
  have := (frame_of h p hp).2
  exact Nat.le_trans this (by omega)
theorem small_set {l : List (Int × List Int × Int × Bool × Int × Bool)} {k : Nat} {x : Int × List Int × Int × Bool × Int × Bool} (h : SmallF l) (hx : x.2.1.length ≤ 1048576) : SmallF (l.set k x) :=
  ⟨by rw [List.length_set]; exact h.1, fun y hy => by
    rcases List.mem_or_eq_of_mem_set hy with hy | rfl
    · exact h.2 y hy
    · exact hx⟩
theorem small_nil : SmallF [] := ⟨by simp, fun x hx => by simp at hx⟩
theorem turnP_small {T : Int × Int × List (Int × List Int × Int × Bool × Int × Bool)} {ps qs : List EFrame} {hand a b c : Int} (h : (a, b, c, datFrameS qs) = turnP T ps hand) (hT : poolF ps hand = 0 → T.1 = 0 → SmallF T.2.2) : SmallF (datFrameS qs) := by
  unfold turnP at h
  by_cases h0 : poolF ps hand ≠ 0
  · rw [if_pos h0] at h
    simp only [Prod.mk.injEq] at h
    rw [h.2.2.2]; exact small_nil
  rw [if_neg h0] at h
  by_cases h1 : T.1 ≠ 0
  · rw [if_pos h1] at h
    simp only [Prod.mk.injEq] at h
    rw [h.2.2.2]; exact small_nil
  rw [if_neg h1] at h
  simp only [Prod.mk.injEq] at h
  rw [h.2.2.2]
  exact hT (Classical.not_not.1 h0) (Classical.not_not.1 h1)
theorem cleanP_small {ps qs : List EFrame} {hand page a b c : Int} (h : (a, b, c, datFrameS qs) = cleanP ps hand page) : SmallF (datFrameS qs) := by
  refine turnP_small h (fun h0 _ => ?_)
  unfold cleanT
  split
  · exact small_dat h0
  · split
    · exact small_nil
    · next d hd => exact small_set (small_dat h0) ((small_dat h0).2 d (List.mem_of_getElem? hd))
theorem specPoolClean_any (v : Value) (hand page : Int) (ps : List EFrame) (w : World) (hv : RdR kFrame w v ps) :
    Calls Try.prog 6 #[.agg #[v, .int .i64 hand], .int .i64 page] w fun e w' => ∃ cd fr a n c hd qs, e = .returned (.agg #[.int .i64 cd, .int .i64 fr, .slice a n c, .int .i64 hd]) ∧ (cd, fr, hd, datFrameS qs) = cleanP ps hand page ∧ (∀ b, footR kFrame (.slice a n c) qs b → w.heap.size ≤ b) ∧ OwnR kFrame 0 46 5 w' (.slice a n c) qs ∧ Same w w' := by
  obtain ⟨a, c, rfl⟩ := hv.form
  have hmax := hv.max
  unfold maxLen at hmax
  have HV := (show Hid (RdR kFrame w (.slice a ps.length c) ps) from hv)
  clear hv
  obtain ⟨at_, q, hA⟩ : ∃ x y, atP ps hand page = (x, y) := ⟨_, _, rfl⟩
  have HA : Hid (atP ps hand page = (at_, q)) := hA
  have hk0 : Same w ((w.alloc (.cells #[.slice a ps.length c, .int .i64 hand] 28)).alloc (.cells #[.int .i64 0, .int .i64 0, .slice none 0 0, .int .i64 0] 30)) := ((Kept.refl _ _).alloc _).alloc _
  have k0 := l7At_any (.slice a ps.length c) hand page ps _ (HV.out.same hk0)
  rw [hA] at k0
  have b0 := Blk.newA w [.slice a ps.length c, .int .i64 hand] 28 [.int .i64 0, .int .i64 0, .slice none 0 0, .int .i64 0] 30
  have b1 := Blk.newB w [.slice a ps.length c, .int .i64 hand] 28 [.int .i64 0, .int .i64 0, .slice none 0 0, .int .i64 0] 30
  go_enter Try.func6, Try.ntmps6
  go_wp2_with fail
  refine k0.mono ?_
  rintro e w1 ⟨rfl, hk1⟩
  have HK1 := (show Hid (Same w w1) from hk0.trans hk1)
  have HB0 := hid (b0.same hk1)
  have HB1 := hid (b1.same hk1)
  clear hk0 hk1 b0 b1 k0
  obtain ⟨g0, g1⟩ := HB0.out.all2
  obtain ⟨z0, z1, z2, z3⟩ := HB1.out.all4
  have fz := HB1.out.frozen
  have lz := HB1.out.lt
  have HTU : Hid (cleanP ps hand page = if q ≠ 0 then (q, 0, 0, []) else match (datFrameS ps)[at_.toNat]? with
    | none => (0, 0, hand, [])
    | some d => (0, at_, hand, (datFrameS ps).set at_.toNat (d.1, d.2.1, d.2.2.1, false, 0, d.2.2.2.2.2))) := by
    unfold Hid cleanP turnP
    by_cases h0 : poolF ps hand ≠ 0
    · have e : atP ps hand page = (0, 1) := if_pos h0
      rw [hA] at e
      injection e with e1 e2
      subst e1 e2
      rw [if_pos h0, if_pos (by simp)]
    have h1 : poolF ps hand = 0 := Classical.not_not.1 h0
    rw [if_neg h0]
    by_cases h2 : findB page ps = -1
    · have e := atP_none h1 h2
      rw [hA] at e
      injection e with e1 e2
      subst e1 e2
      have e : cleanT page ps = (2, 0, datFrameS ps) := if_pos h2
      rw [e, if_pos (by simp), if_pos (by simp)]
    · have e := atP_some h1 h2
      rw [hA] at e
      injection e with e1 e2
      subst e1 e2
      rw [if_neg (show ¬ ((0 : Int) ≠ 0) from by simp)]
      have e : cleanT page ps = match (datFrameS ps)[(findB page ps).toNat]? with
        | none => (0, 0, [])
        | some d => (0, findB page ps, (datFrameS ps).set (findB page ps).toNat (d.1, d.2.1, d.2.2.1, false, 0, d.2.2.2.2.2)) := if_neg h2
      rw [e]
      cases (datFrameS ps)[(findB page ps).toNat]? with
      | none => rfl
      | some d => rfl
  clear hA
  by_cases hq : q = 0
  · subst hq
    obtain ⟨h0, k, rfl, hkl⟩ := atP_lt HA.out
    have hl16 := (poolF_len h0).2.1
    have hfr := frame_of h0
    have HM : Hid (∀ p ∈ ps, p.bs.length ≤ 1099511627776) := fun p hp => Nat.le_trans (hfr p hp).2 (by omega)
    clear hfr
    clear z0 z1 z2 z3 fz lz
    go_wp2_with fail
    refine (l7Copy_any (.slice a ps.length c) hand ps _ (by omega) HM.out (HV.out.same HK1.out)).mono ?_
    rintro e w3 ⟨a3, n3, c3, qs, rfl, hd3, hf3, ho3, hk3⟩
    have hql : qs.length = ps.length := dat_len hd3
    obtain ⟨g, e3⟩ : ∃ g, (Value.slice a3 n3 c3) = .slice (some ⟨g, 0, none⟩) ps.length c3 := by
      rcases ho3.form with ⟨_, hps⟩ | ⟨g, cap, e, _⟩
      · rw [hps] at hql; simp at hql; omega
      · rw [hql] at e
        injection e with e1 e2 e3
        exact ⟨g, by rw [e1, e2]⟩
    injection e3 with e31 e32
    subst e31 e32
    have HQL : Hid (qs.length = ps.length) := hql
    have HK3 := (show Hid (Same w w3) from HK1.out.trans hk3)
    have HO3 := (show Hid (OwnR kFrame 0 46 5 w3 (.slice (some ⟨g, 0, none⟩) ps.length c3) qs) from ho3)
    have hz1 : w.heap.size + 1 < w1.heap.size := HB1.out.lt
    have HF3 : Hid (∀ b, footR kFrame (.slice (some ⟨g, 0, none⟩) ps.length c3) qs b → w.heap.size + 1 < b ∧ b < w3.heap.size) := fun b hb => ⟨by have := hf3 b hb; omega, (ho3.lt b hb).2⟩
    have HD3 : Hid (datFrameS qs = datFrameS ps) := hd3
    have HB13 := hid (HB1.out.same hk3)
    have hkq : k < qs.length := by omega
    have hgl : w.heap.size + 1 < g ∧ g < w3.heap.size := HF3.out g (.inl rfl)
    obtain ⟨hgl1, hgl2⟩ := hgl
    have hki : (k : Int) < (ps.length : Int) := by omega
    obtain ⟨p, hp⟩ : ∃ p, qs[k] = p := ⟨_, rfl⟩
    have HPE : Hid (qs[k] = p) := hp
    have y3 : w3.cell? ⟨g, k * 6 + 3, none⟩ = some (.bool p.dirty) := by have h := ho3.cell hql.symm k 3 hkq (by decide); rw [hp] at h; exact h
    have y4 : w3.cell? ⟨g, k * 6 + 4, none⟩ = some (.int .i64 p.rl) := by have h := ho3.cell hql.symm k 4 hkq (by decide); rw [hp] at h; exact h
    have fg := ho3.frozen hql.symm
    have HDK : Hid ((datFrameS ps)[k]? = some p.dat) := by unfold Hid; rw [← hd3, dat_at (List.getElem?_eq_getElem hkq), hp]
    obtain ⟨z0, z1, z2, z3⟩ := HB13.out.all4
    have fz := HB13.out.frozen
    have lz := HB13.out.lt
    clear hd3 hf3 ho3 hk3 g0 g1 hp hql
    have HOA := (show Hid (OwnR kFrame 0 46 5 (w3.setCell ⟨g, k * 6 + 3, none⟩ (.bool false)) (.slice (some ⟨g, 0, none⟩) ps.length c3) (qs.set k (⟨p.page, p.v, p.bs, p.pins, false, p.rl, p.rf⟩ : EFrame))) from
      OwnR.setAt (p' := (⟨p.page, p.v, p.bs, p.pins, false, p.rl, p.rf⟩ : EFrame)) HO3.out HQL.out.symm hkq 3 (.bool false) (by decide) (by rw [HPE.out]; rfl) (by rw [HPE.out]; rfl) (by rw [HPE.out]; rfl) _ rfl)
    have HOB := (show Hid (OwnR kFrame 0 46 5 ((w3.setCell ⟨g, k * 6 + 3, none⟩ (.bool false)).setCell ⟨g, k * 6 + 4, none⟩ (.int .i64 0)) (.slice (some ⟨g, 0, none⟩) ps.length c3) ((qs.set k (⟨p.page, p.v, p.bs, p.pins, false, p.rl, p.rf⟩ : EFrame)).set k (⟨p.page, p.v, p.bs, p.pins, false, 0, p.rf⟩ : EFrame))) from
      OwnR.setAt (p' := (⟨p.page, p.v, p.bs, p.pins, false, 0, p.rf⟩ : EFrame)) HOA.out (by rw [List.length_set]; exact HQL.out.symm) (by rw [List.length_set]; exact hkq) 4 (.int .i64 0) (by decide) (by rw [List.getElem_set_self]; rfl) (by rw [List.getElem_set_self]; rfl) (by rw [List.getElem_set_self]; rfl) _ rfl)
    have HKB := (show Hid (Kept (fun b => b = g) w3 ((w3.setCell ⟨g, k * 6 + 3, none⟩ (.bool false)).setCell ⟨g, k * 6 + 4, none⟩ (.int .i64 0))) from Kept.setCell (R := fun b => b = g) (Kept.setCell (R := fun b => b = g) (Kept.refl _ _) (p := ⟨g, k * 6 + 3, none⟩) (.inr rfl) _) (p := ⟨g, k * 6 + 4, none⟩) (.inr rfl) _)
    go_wp2
    have hfoot : ∀ b, footR kFrame (.slice (some ⟨g, 0, none⟩) ps.length c3) ((qs.set k (⟨p.page, p.v, p.bs, p.pins, false, p.rl, p.rf⟩ : EFrame)).set k (⟨p.page, p.v, p.bs, p.pins, false, 0, p.rf⟩ : EFrame)) b → w.heap.size + 1 < b := fun b hb => by
      rw [List.set_set] at hb
      exact (HF3.out b (footR_set hkq (by rw [HPE.out]; rfl) b hb)).1
    have hbf := (((((HB13.out.kept HKB.out (by intro e; omega)).stored 0 (.int .i64 0)).stored 1 (.int .i64 k)).stored 2 (.slice (some ⟨g, 0, none⟩) ps.length c3)).stored 3 (.int .i64 hand)).alloc (.cells #[.slice (some ⟨g, 0, none⟩) ps.length c3, .int .i64 hand] 28)
    obtain ⟨f0, f1, f2, f3⟩ := hbf.all4
    refine bodyPost_ret (v := .agg #[.int .i64 0, .int .i64 k, .slice (some ⟨g, 0, none⟩) ps.length c3, .int .i64 hand]) (by simp [results, Try.results6, go_sem, f0, f1, f2, f3]) rfl ⟨0, k, _, _, _, hand, _, rfl, ?_, fun b hb => by have := hfoot b hb; omega, HOB.out.kept (R := fun b => b = w.heap.size + 1) (Kept.alloc ?_ _) (fun b hb e => by have := hfoot b hb; omega), Kept.alloc ?_ _⟩
    · rw [HTU.out, if_neg (by simp), Int.toNat_natCast, HDK.out]
      simp only [List.set_set, dat_set, HD3.out]
      rfl
    · (iterate 4 refine Kept.setCell (R := fun b => b = w.heap.size + 1) ?_ (.inr rfl) _)
      exact Kept.refl _ _
    · (iterate 4 refine Kept.setCell ?_ (.inl (Nat.le_succ _)) _)
      exact HK3.out.next HKB.out (fun i hi e => by omega)
  · go_wp2
    refine bodyPost_ret (v := .agg #[.int .i64 q, .int .i64 0, .slice none 0 0, .int .i64 0]) (by simp [results, Try.results6, go_sem, z0, z1, z2, z3]) rfl ⟨q, 0, none, 0, 0, 0, [], rfl, ?_, fun b hb => absurd hb (footR_nil b), OwnR.nil _ _ _ _ _, ?_⟩
    · rw [HTU.out, if_pos hq]
      rfl
    · (iterate 4 refine Kept.setCell ?_ (.inl (Nat.le_succ _)) _)
      exact HK1.out
end Go.Proofs.Ytabmhcdldfehnab

namespace Go.Proofs.Ytabmhcdldfehnab
set_option maxRecDepth 100000
set_option maxHeartbeats 4000000
open Go.RowKit
set_option linter.unusedVariables false
set_option linter.unusedSimpArgs false
theorem clean1_any (page : Int) (C : Nat) (P : Nat) (hand : Int) (g n cap : Nat) (bl : List Nat) (ps : List EFrame) (w : World) (h : FP w P hand g n cap bl ps) (hn : n ≤ 16) (hpin : ∀ p ∈ ps, 0 ≤ p.pins ∧ p.pins ≤ 2147483647) (hc : Blk w C 2 [.int .i64 page]) :
    Calls Try.prog 21 #[.pointer (some ⟨P, 0, none⟩), .pointer (some ⟨C, 0, none⟩)] w fun e w' => ∃ fr cd bl' qs', e = .returned (.tuple #[.int .i64 fr, .int .i64 cd]) ∧ FP w' P hand g n cap bl' qs' ∧ (cd, fr, datFrameS qs') = cleanT page ps ∧ (∀ b, footS kFrame bl' qs' b → footS kFrame bl ps b ∨ w.heap.size ≤ b) ∧ Kept (footFP P g bl ps) w w' := by
  have c0 := hc.c0
  have k0 := cleanM_any page P hand g n cap bl ps w h hn hpin
  clear h hpin hc
  go_enter Try.func21, Try.ntmps21
  go_wp2_with fail
  refine k0.mono ?_
  rintro e w1 ⟨fr, cd, bl', qs', rfl, hf, ht, hn', hk⟩
  have H1 := hid hf
  have H2 := hid ht
  have H3 := hid hn'
  have H4 := hid hk
  clear hf ht hn' hk k0
  go_wp2
  go_ret2
  exact ⟨fr, cd, bl', qs', rfl, H1.out, H2.out, H3.out, H4.out⟩
theorem enters_clean1 : Enters 21 := fun args wx => by simp [callFunc, go_sem, Try.func21, Try.f21]
theorem implPoolClean_any (v : Value) (hand page : Int) (ps : List EFrame) (w : World) (hv : RdR kFrame w v ps) :
    Calls Try.prog 8 #[.agg #[v, .int .i64 hand], .int .i64 page] w fun e w' => ∃ cd fr a n c hd qs, e = .returned (.agg #[.int .i64 cd, .int .i64 fr, .slice a n c, .int .i64 hd]) ∧ (cd, fr, hd, datFrameS qs) = cleanP ps hand page ∧ (∀ b, footR kFrame (.slice a n c) qs b → w.heap.size ≤ b) ∧ OwnR kFrame 0 46 5 w' (.slice a n c) qs ∧ Same w w' := by
  obtain ⟨a, c, rfl⟩ := hv.form
  obtain ⟨wa, hwa⟩ : ∃ x, x = (w.alloc (.cells #[.slice a ps.length c, .int .i64 hand] 28)).alloc (.cells #[.int .i64 page] 2) := ⟨_, rfl⟩
  have hka : Same w wa := by rw [hwa]; exact ((Kept.refl _ _).alloc _).alloc _
  have hza : wa.heap.size = w.heap.size + 1 + 1 := by rw [hwa]; simp
  have b0 : Blk wa w.heap.size 28 [.slice a ps.length c, .int .i64 hand] := by rw [hwa]; exact Blk.newA w _ _ _ _
  have bC : Blk wa (w.heap.size + 1) 2 [.int .i64 page] := by rw [hwa]; exact Blk.newB w _ _ _ _
  have k0 := turned_any 21 #[.pointer (some ⟨w.heap.size + 1, 0, none⟩)] (.slice a ps.length c) hand ps (cleanT page ps) (wa.alloc (.cells #[.int .i64 0, .int .i64 0, .slice none 0 0, .int .i64 0] 30)) (hv.same (hka.alloc _)) enters_clean1 (fun wx P g n cap bl qs hf hn hd hq hk hb => by
    have h := clean1_any page (w.heap.size + 1) P hand g n cap bl qs wx hf hn (fun p hp => (frame_of ((poolF_dat hd).trans hq) p hp).1) ((bC.alloc _).same hk)
    rw [cleanT_dat hd] at h
    exact h)
  have bR := Blk.newL wa [.int .i64 0, .int .i64 0, .slice none 0 0, .int .i64 0] 30
  obtain ⟨g0, g1⟩ := b0.all2
  have l0 := b0.lt
  have hmf : ∀ (fn : Fn) (first cap : Array Value) (w : World), (Instr.makeFunc fn first cap).run Try.prog w = .ok (.func fn first cap) w := fun _ _ _ _ => rfl
  rw [hza] at bR
  have HKA := hid hka
  have HZ := hid hza
  clear hv bC b0 hka
  go_enter Try.func8, Try.ntmps8
  go_wp2_with fail
  rw [← hwa]
  clear hwa
  refine k0.mono ?_
  rintro e w1 ⟨cd, fr, a1, n1, c1, hd, qs, rfl, hR, hf, ho, hk1⟩
  have HR := (show Hid ((cd, fr, hd, datFrameS qs) = turnP (cleanT page ps) ps hand) from hR)
  have HK1 := (show Hid (Same w w1) from (HKA.out.alloc _).trans hk1)
  have HB1 := hid (bR.same hk1)
  have HF : Hid (∀ b, footR kFrame (.slice a1 n1 c1) qs b → w.heap.size + 1 + 1 < b) := fun b hb => by have h := hf b hb; simp only [World.size_alloc] at h; omega
  have HO := (show Hid (OwnR kFrame 0 46 5 w1 (.slice a1 n1 c1) qs) from ho)
  clear hk1 bR k0 hR hf ho g0 g1 hza
  obtain ⟨z0, z1, z2, z3⟩ := HB1.out.all4
  have fz := HB1.out.frozen
  have lz := HB1.out.lt
  go_wp2
  refine bodyPost_ret (v := .agg #[.int .i64 cd, .int .i64 fr, .slice a1 n1 c1, .int .i64 hd]) (by simp [results, Try.results8, go_sem, z0, z1, z2, z3]) rfl ⟨cd, fr, a1, n1, c1, hd, qs, rfl, by rw [cleanP_turn]; exact HR.out, fun b hb => by have := HF.out b hb; omega, HO.out.kept (R := fun b => b = w.heap.size + 1 + 1) ?_ (fun b hb e => by have := HF.out b hb; omega), ?_⟩
  · (iterate 4 refine Kept.setCell (R := fun b => b = w.heap.size + 1 + 1) ?_ (.inr rfl) _)
    exact Kept.refl _ _
  · (iterate 4 refine Kept.setCell ?_ (.inl (by show w.heap.size ≤ w.heap.size + 1 + 1; omega)) _)
    exact HK1.out
end Go.Proofs.Ytabmhcdldfehnab

namespace Go.Proofs.Ytabmhcdldfehnab
set_option maxRecDepth 100000
set_option maxHeartbeats 16000000
open Go.RowKit
set_option linter.unusedVariables false
theorem poolClean_law (pv0 : Value) (ps0 : List EFrame) (hand0 : Int) (s1 : Int) (w : World) (hv0 : RdR kFrame w pv0 ps0) :
    Calls Try.prog 3 #[.agg #[pv0, .int .i64 hand0], .int .i64 s1] w fun e w' => e = .returned (.bool true) ∧ Same w w' := by
  obtain ⟨a0a, c0a, rfl⟩ := hv0.form
  have HV0 := (show Hid (RdR kFrame w (.slice a0a ps0.length c0a) ps0) from hv0)
  clear hv0
  go_enter Try.func3, Try.ntmps3
  have HKw : Hid (Same w w) := Kept.refl _ _
  go_wp2_with fail
  refine (szPool_any hand0 _ ps0 _ _ (by omega) (by omega) (HV0.out.same ((Kept.refl _ _).alloc _))).mono ?_
  rintro e w1 ⟨sz0, rfl, hr, hk⟩
  have hkk : Same w w1 := ((Kept.refl _ _).alloc _).trans hk
  have hzw1 := hk.size
  rw [World.size_alloc] at hzw1
  have HA0w1 := (show Hid (Blk w1 (w.heap.size) 24 [(.slice a0a ps0.length c0a), .int .i64 hand0]) from (Blk.new w #[(.slice a0a ps0.length c0a), .int .i64 hand0] 24).same hk)
  have HKw1 := (show Hid (Same w w1) from HKw.out.trans hkk)
  clear hkk hk
  rcases hr with rfl | ⟨hr, hr0⟩
  · go_wp2
    go_ret
    exact ⟨rfl, HKw1.out⟩
  have hp0 : ps0.length ≤ 1048576 := by omega
  have hsz0 : sizeFrameS ps0 ≤ 1048576 := by omega
  have HS0 : Hid (∀ p ∈ ps0, p.bs.length ≤ 1048576) := fun p hp => by have := sizeFrameS_mem ps0 p hp; omega
  have HT0 : Hid (∀ qs : List EFrame, datFrameS qs = datFrameS ps0 → qs.length ≤ 1048576 ∧ ∀ p ∈ qs, p.bs.length ≤ 1048576) := fun qs hq => ⟨by rw [← datFrameS_length, hq, datFrameS_length]; omega, fun p hp => by have := sizeFrameS_mem qs p hp; rw [datFrameS_size hq] at this; omega⟩
  clear hr
  have cA0_0 := HA0w1.out.c0
  have cA0_1 := HA0w1.out.c1
  have lA0 := HA0w1.out.lt
  go_wp2_with fail
  refine (toPool_any hand0 _ ps0 _ (by omega) (fun p hp => Nat.le_trans (HS0.out p hp) (by omega)) (HV0.out.same HKw1.out)).mono ?_
  rintro e w2 ⟨gC0, qsC0, rfl, hq, hf, ho, hk⟩
  have HQC0 : Hid (datFrameS qsC0 = datFrameS ps0) := hq
  have HFC0 := (show Hid (∀ b, footR kFrame (.slice (some ⟨gC0, 0, none⟩) ps0.length ps0.length) qsC0 b → w1.heap.size ≤ b ∧ b < w2.heap.size) from fun b hb => ⟨hf b hb, (ho.lt b hb).2⟩)
  have HC0w2 := (show Hid (OwnR kFrame 0 46 5 w2 (.slice (some ⟨gC0, 0, none⟩) ps0.length ps0.length) qsC0) from ho)
  clear hf ho hq
  have hkk : Same w1 w2 := hk
  have hzw2 := hkk.size
  have HA0w2 := hid (HA0w1.out.same hkk)
  have HKw2 := (show Hid (Same w w2) from HKw1.out.trans hkk)
  clear hkk hk
  clear cA0_0 cA0_1 lA0
  have cA0_0 := HA0w2.out.c0
  have cA0_1 := HA0w2.out.c1
  have lA0 := HA0w2.out.lt
  go_wp2_with fail
  refine (specPoolClean_any _ hand0 s1 qsC0 _ (HC0w2.out.rd)).mono ?_
  rintro e w3 ⟨cdW, frW, aW, nW, cW, hdW, qsW, rfl, hR, hf, ho, hk⟩
  rw [cleanP_dat HQC0.out] at hR
  have HR := (show Hid ((cdW, frW, hdW, datFrameS qsW) = cleanP ps0 hand0 s1) from hR)
  have HSM := (show Hid (SmallF (datFrameS qsW)) from cleanP_small HR.out)
  have HFW := (show Hid (∀ b, footR kFrame (.slice aW nW cW) qsW b → w2.heap.size ≤ b ∧ b < w3.heap.size) from fun b hb => ⟨hf b hb, (ho.lt b hb).2⟩)
  have HWw3 := (show Hid (OwnR kFrame 0 46 5 w3 (.slice aW nW cW) qsW) from ho)
  clear hf ho hR
  have hkk : Same w2 w3 := hk
  have hzw3 := hkk.size
  have HA0w3 := hid (HA0w2.out.same hkk)
  have HC0w3 := hid (HC0w2.out.same hkk)
  have HKw3 := (show Hid (Same w w3) from HKw2.out.trans hkk)
  clear hkk hk
  clear cA0_0 cA0_1 lA0
  have cA0_0 := HA0w3.out.c0
  have cA0_1 := HA0w3.out.c1
  have lA0 := HA0w3.out.lt
  go_wp2_with fail
  refine (toPool_any hand0 _ ps0 _ (by omega) (fun p hp => Nat.le_trans (HS0.out p hp) (by omega)) (HV0.out.same (HKw3.out.alloc _))).mono ?_
  rintro e w4 ⟨gX0, qsX0, rfl, hq, hf, ho, hk⟩
  have HQX0 : Hid (datFrameS qsX0 = datFrameS ps0) := hq
  simp only [World.size_alloc] at hf
  have HFX0 := (show Hid (∀ b, footR kFrame (.slice (some ⟨gX0, 0, none⟩) ps0.length ps0.length) qsX0 b → w3.heap.size < b ∧ b < w4.heap.size) from fun b hb => ⟨by have := hf b hb; omega, (ho.lt b hb).2⟩)
  have HX0w4 := (show Hid (OwnR kFrame 0 46 5 w4 (.slice (some ⟨gX0, 0, none⟩) ps0.length ps0.length) qsX0) from ho)
  clear hf ho hq
  have hkk : Same w3 w4 := ((Kept.refl _ _).alloc _).trans hk
  have hzw4 := hk.size
  rw [World.size_alloc] at hzw4
  have HA0w4 := hid (HA0w3.out.same hkk)
  have HWw4 := hid (HWw3.out.same hkk)
  have HZw4 := (show Hid (Blk w4 (w3.heap.size) 30 [.int .i64 cdW, .int .i64 frW, (.slice aW nW cW), .int .i64 hdW]) from (Blk.new w3 #[.int .i64 cdW, .int .i64 frW, (.slice aW nW cW), .int .i64 hdW] 30).same hk)
  have HKw4 := (show Hid (Same w w4) from HKw3.out.trans hkk)
  clear hkk hk
  clear cA0_0 cA0_1 lA0
  have cA0_0 := HA0w4.out.c0
  have cA0_1 := HA0w4.out.c1
  have lA0 := HA0w4.out.lt
  have cZ_0 := HZw4.out.c0
  have cZ_1 := HZw4.out.c1
  have cZ_2 := HZw4.out.c2
  have cZ_3 := HZw4.out.c3
  have lZ := HZw4.out.lt
  go_wp2_with fail
  refine (implPoolClean_any _ hand0 s1 qsX0 _ (HX0w4.out.rd.same ((Kept.refl _ _).alloc _))).mono ?_
  rintro e w5 ⟨cdG, frG, aG, nG, cG, hdG, qsG, rfl, hR, hf, ho, hk⟩
  rw [cleanP_dat HQX0.out] at hR
  have hR2 := hR.trans HR.out.symm
  simp only [Prod.mk.injEq] at hR2
  obtain ⟨hR3, hR4, hR5, hR6⟩ := hR2
  have hR3 := hR3.symm
  have hR4 := hR4.symm
  have hR5 := hR5.symm
  subst hR3 hR4 hR5
  have HQG : Hid (datFrameS qsG = datFrameS qsW) := hR6
  clear hR6
  simp only [World.size_alloc] at hf
  have HFG := (show Hid (∀ b, footR kFrame (.slice aG nG cG) qsG b → w4.heap.size < b ∧ b < w5.heap.size) from fun b hb => ⟨by have := hf b hb; omega, (ho.lt b hb).2⟩)
  have HGw5 := (show Hid (OwnR kFrame 0 46 5 w5 (.slice aG nG cG) qsG) from ho)
  clear hf ho hR
  have hkk : Same w4 w5 := ((Kept.refl _ _).alloc _).trans hk
  have hzw5 := hk.size
  rw [World.size_alloc] at hzw5
  have HA0w5 := hid (HA0w4.out.same hkk)
  have HWw5 := hid (HWw4.out.same hkk)
  have HZw5 := hid (HZw4.out.same hkk)
  have HX0w5 := hid (HX0w4.out.same hkk)
  have HT0w5 := (show Hid (Blk w5 (w4.heap.size) 28 [(.slice (some ⟨gX0, 0, none⟩) ps0.length ps0.length), .int .i64 hand0]) from (Blk.new w4 #[(.slice (some ⟨gX0, 0, none⟩) ps0.length ps0.length), .int .i64 hand0] 28).same hk)
  have HKw5 := (show Hid (Same w w5) from HKw4.out.trans hkk)
  clear hkk hk
  clear cA0_0 cA0_1 lA0 cZ_0 cZ_1 cZ_2 cZ_3 lZ
  have cA0_0 := HA0w5.out.c0
  have cA0_1 := HA0w5.out.c1
  have lA0 := HA0w5.out.lt
  have cZ_0 := HZw5.out.c0
  have cZ_1 := HZw5.out.c1
  have cZ_2 := HZw5.out.c2
  have cZ_3 := HZw5.out.c3
  have lZ := HZw5.out.lt
  have cT0_0 := HT0w5.out.c0
  have cT0_1 := HT0w5.out.c1
  have lT0 := HT0w5.out.lt
  go_wp2_with fail
  refine (eqPoolResult_own 0 cdW frW hdW _ _ qsG qsW _ (Nat.le_trans (HSM.out.of qsG HQG.out).1 (by omega)) HQG.out (fun p hp => Nat.le_trans ((HSM.out.of qsG HQG.out).2.1 p hp) (by omega)) (HGw5.out.same ((Kept.refl _ _).alloc _)) (HWw5.out.same ((Kept.refl _ _).alloc _))).mono ?_
  rintro e w6 ⟨rfl, hk⟩
  have hkk : Same w5 w6 := ((Kept.refl _ _).alloc _).trans hk
  have hzw6 := hk.size
  rw [World.size_alloc] at hzw6
  have HA0w6 := hid (HA0w5.out.same hkk)
  have HWw6 := hid (HWw5.out.same hkk)
  have HZw6 := hid (HZw5.out.same hkk)
  have HX0w6 := hid (HX0w5.out.same hkk)
  have HT0w6 := hid (HT0w5.out.same hkk)
  have HGw6 := hid (HGw5.out.same hkk)
  have HYw6 := (show Hid (Blk w6 (w5.heap.size) 30 [.int .i64 cdW, .int .i64 frW, (.slice aG nG cG), .int .i64 hdW]) from (Blk.new w5 #[.int .i64 cdW, .int .i64 frW, (.slice aG nG cG), .int .i64 hdW] 30).same hk)
  have HKw6 := (show Hid (Same w w6) from HKw5.out.trans hkk)
  clear hkk hk
  clear cA0_0 cA0_1 lA0 cZ_0 cZ_1 cZ_2 cZ_3 lZ cT0_0 cT0_1 lT0
  have cA0_0 := HA0w6.out.c0
  have cA0_1 := HA0w6.out.c1
  have lA0 := HA0w6.out.lt
  have cZ_0 := HZw6.out.c0
  have cZ_1 := HZw6.out.c1
  have cZ_2 := HZw6.out.c2
  have cZ_3 := HZw6.out.c3
  have lZ := HZw6.out.lt
  have cT0_0 := HT0w6.out.c0
  have cT0_1 := HT0w6.out.c1
  have lT0 := HT0w6.out.lt
  have cY_0 := HYw6.out.c0
  have cY_1 := HYw6.out.c1
  have cY_2 := HYw6.out.c2
  have cY_3 := HYw6.out.c3
  have lY := HYw6.out.lt
  go_wp2_with fail
  go_cut [35] (fun v wc => v = .bool false ∧ Hid (Same w6 wc))
  case first =>
    have HD1 : Hid (Same w w6.drew) := HKw6.out.drew
    have HD2 : Hid (Same w6 w6.drew) := (Kept.refl _ _).drew
    go_region_with (first | (go_at_call 7; refine (toPool_any hand0 _ ps0 _ (by omega) (fun p hp => Nat.le_trans (HS0.out p hp) (by omega)) (by exact HV0.out.same HD1.out)).mono ?_; rintro e wx7 ⟨g3, qs7, rfl, hq3, hf3, ho3, hk7⟩; have HO7 := (show Hid (OwnR kFrame 0 46 5 wx7 (.slice (some ⟨g3, 0, none⟩) ps0.length ps0.length) qs7) from ho3); have HQ7 : Hid (datFrameS qs7 = datFrameS ps0) := hq3; have HK7 : Hid (Same w6 wx7) := HD2.out.trans hk7; clear ho3 hq3 hf3 hk7; have y0 : wx7.cell? ⟨w4.heap.size, 0, none⟩ = some ((.slice (some ⟨gX0, 0, none⟩) ps0.length ps0.length)) := (HT0w6.out.same HK7.out).cell 0; have y1 : wx7.cell? ⟨w4.heap.size, 1, none⟩ = some (.int .i64 hand0) := (HT0w6.out.same HK7.out).cell 1) | (go_at_call 10; refine (eqPool_own 0 hand0 _ _ qsX0 qs7 _ (by have h := (HT0.out qsX0 HQX0.out).1; omega) (HQX0.out.trans HQ7.out.symm) (fun p hp => Nat.le_trans ((HT0.out qsX0 HQX0.out).2 p hp) (by omega)) (HX0w6.out.same HK7.out) HO7.out).mono ?_; rintro e wx8 ⟨rfl, hk8⟩))
    all_goals
      have HK8 : Hid (Same w6 wx8) := HK7.out.trans hk8
      clear hk8
      go_wp2_with fail
      go_meet
      case rel => exact ⟨rfl, HK8⟩
  case rest =>
  obtain ⟨rfl, HKC⟩ := hcut
  obtain ⟨w7, hwc⟩ : ∃ x, x = wc := ⟨_, rfl⟩
  subst hwc
  clear cA0_0 cA0_1 lA0 cZ_0 cZ_1 cZ_2 cZ_3 lZ cT0_0 cT0_1 lT0 cY_0 cY_1 cY_2 cY_3 lY
  have hkk : Same w6 w7 := HKC.out
  have hzw7 := hkk.size
  have HA0w7 := hid (HA0w6.out.same hkk)
  have HWw7 := hid (HWw6.out.same hkk)
  have HZw7 := hid (HZw6.out.same hkk)
  have HX0w7 := hid (HX0w6.out.same hkk)
  have HT0w7 := hid (HT0w6.out.same hkk)
  have HGw7 := hid (HGw6.out.same hkk)
  have HYw7 := hid (HYw6.out.same hkk)
  have HKw7 := (show Hid (Same w w7) from HKw6.out.trans hkk)
  clear hkk
  have hE0 : (0 : Int) ≤ 1 := by omega
  have hE0b : (1 : Int) ≤ 1 := by omega
  have hqlX0 := (HT0.out qsX0 HQX0.out).1
  obtain ⟨E1, hE⟩ : ∃ E, endR mFrame 1 qsX0 = E := ⟨_, rfl⟩
  have hE1 : 0 ≤ E1 := by rw [← hE, endFrameS_size]; omega
  have hE1b : E1 ≤ 7000001 := by rw [← hE, endFrameS_size, datFrameS_size HQX0.out]; omega
  have HE1 : Hid (endR mFrame 1 qsX0 = E1) := hE
  clear hE
  have cA0_0 := HA0w7.out.c0
  have cA0_1 := HA0w7.out.c1
  have lA0 := HA0w7.out.lt
  have cZ_0 := HZw7.out.c0
  have cZ_1 := HZw7.out.c1
  have cZ_2 := HZw7.out.c2
  have cZ_3 := HZw7.out.c3
  have lZ := HZw7.out.lt
  have cT0_0 := HT0w7.out.c0
  have cT0_1 := HT0w7.out.c1
  have lT0 := HT0w7.out.lt
  have cY_0 := HYw7.out.c0
  have cY_1 := HYw7.out.c1
  have cY_2 := HYw7.out.c2
  have cY_3 := HYw7.out.c3
  have lY := HYw7.out.lt
  go_wp2_with fail
  have hm := markPool_own hand0 (.slice (some ⟨gX0, 0, none⟩) ps0.length ps0.length) qsX0 1 w7 (by omega) (by rw [HE1.out]; omega) (by omega) HX0w7.out
  rw [HE1.out] at hm
  refine hm.mono ?_
  clear hm
  rintro e w8 ⟨rfl, _, hk⟩
  have hzw8 := hk.size
  have HA0w8 := (show Hid (Blk w8 (w.heap.size) 24 [(.slice a0a ps0.length c0a), .int .i64 hand0]) from HA0w7.out.kept hk (fun e => by have h1 := HFX0.out _ e; omega))
  have HWw8 := (show Hid (OwnR kFrame 0 46 5 w8 (.slice aW nW cW) qsW) from HWw7.out.kept hk (fun b hb e => by have h1 := HFX0.out _ e; have h2 := HFW.out b hb; omega))
  have HZw8 := (show Hid (Blk w8 (w3.heap.size) 30 [.int .i64 cdW, .int .i64 frW, (.slice aW nW cW), .int .i64 hdW]) from HZw7.out.kept hk (fun e => by have h1 := HFX0.out _ e; omega))
  have HT0w8 := (show Hid (Blk w8 (w4.heap.size) 28 [(.slice (some ⟨gX0, 0, none⟩) ps0.length ps0.length), .int .i64 hand0]) from HT0w7.out.kept hk (fun e => by have h1 := HFX0.out _ e; omega))
  have HGw8 := (show Hid (OwnR kFrame 0 46 5 w8 (.slice aG nG cG) qsG) from HGw7.out.kept hk (fun b hb e => by have h1 := HFX0.out _ e; have h2 := HFG.out b hb; omega))
  have HYw8 := (show Hid (Blk w8 (w5.heap.size) 30 [.int .i64 cdW, .int .i64 frW, (.slice aG nG cG), .int .i64 hdW]) from HYw7.out.kept hk (fun e => by have h1 := HFX0.out _ e; omega))
  have HKw8 := (show Hid (Same w w8) from HKw7.out.next hk (fun b hb e => by have h1 := HFX0.out _ e; omega))
  clear cA0_0 cA0_1 lA0 cZ_0 cZ_1 cZ_2 cZ_3 lZ cT0_0 cT0_1 lT0 cY_0 cY_1 cY_2 cY_3 lY
  clear hk
  have hEn : ¬ E1 < 0 := by omega
  have cA0_0 := HA0w8.out.c0
  have cA0_1 := HA0w8.out.c1
  have lA0 := HA0w8.out.lt
  have cZ_0 := HZw8.out.c0
  have cZ_1 := HZw8.out.c1
  have cZ_2 := HZw8.out.c2
  have cZ_3 := HZw8.out.c3
  have lZ := HZw8.out.lt
  have cY_0 := HYw8.out.c0
  have cY_1 := HYw8.out.c1
  have cY_2 := HYw8.out.c2
  have cY_3 := HYw8.out.c3
  have lY := HYw8.out.lt
  go_wp2_with fail
  refine (eqPoolResult_own 0 cdW frW hdW _ _ qsG qsW _ (Nat.le_trans (HSM.out.of qsG HQG.out).1 (by omega)) HQG.out (fun p hp => Nat.le_trans ((HSM.out.of qsG HQG.out).2.1 p hp) (by omega)) HGw8.out HWw8.out).mono ?_
  rintro e w9 ⟨rfl, hk⟩
  have hkk : Same w8 w9 := hk
  have hzw9 := hkk.size
  have HA0w9 := hid (HA0w8.out.same hkk)
  have HWw9 := hid (HWw8.out.same hkk)
  have HZw9 := hid (HZw8.out.same hkk)
  have HGw9 := hid (HGw8.out.same hkk)
  have HYw9 := hid (HYw8.out.same hkk)
  have HKw9 := (show Hid (Same w w9) from HKw8.out.trans hkk)
  clear hkk hk
  clear cA0_0 cA0_1 lA0 cZ_0 cZ_1 cZ_2 cZ_3 lZ cY_0 cY_1 cY_2 cY_3 lY
  obtain ⟨hgl, _, hg0, hg1⟩ := HSM.out.of qsG HQG.out
  obtain ⟨M, hM⟩ : ∃ M, endR mFrame 1 qsG = M := ⟨_, rfl⟩
  rw [hM] at hg0 hg1
  have HM : Hid (endR mFrame 1 qsG = M) := hM
  clear hM
  have hM2 : ¬ M < 0 := by omega
  have cA0_0 := HA0w9.out.c0
  have cA0_1 := HA0w9.out.c1
  have lA0 := HA0w9.out.lt
  have cZ_0 := HZw9.out.c0
  have cZ_1 := HZw9.out.c1
  have cZ_2 := HZw9.out.c2
  have cZ_3 := HZw9.out.c3
  have lZ := HZw9.out.lt
  have cY_0 := HYw9.out.c0
  have cY_1 := HYw9.out.c1
  have cY_2 := HYw9.out.c2
  have cY_3 := HYw9.out.c3
  have lY := HYw9.out.lt
  go_wp2_with fail
  have hm := markPoolResult_own cdW frW hdW (.slice aG nG cG) qsG 1 w9 (by omega) (by rw [HM.out]; exact hg1) (by omega) HGw9.out
  rw [HM.out] at hm
  refine hm.mono ?_
  clear hm
  rintro e w10 ⟨rfl, ho, hk⟩
  have hzw10 := hk.size
  have HA0w10 := (show Hid (Blk w10 (w.heap.size) 24 [(.slice a0a ps0.length c0a), .int .i64 hand0]) from HA0w9.out.kept hk (fun e => by have h1 := HFG.out _ e; omega))
  have HWw10 := (show Hid (OwnR kFrame 0 46 5 w10 (.slice aW nW cW) qsW) from HWw9.out.kept hk (fun b hb e => by have h1 := HFG.out _ e; have h2 := HFW.out b hb; omega))
  have HZw10 := (show Hid (Blk w10 (w3.heap.size) 30 [.int .i64 cdW, .int .i64 frW, (.slice aW nW cW), .int .i64 hdW]) from HZw9.out.kept hk (fun e => by have h1 := HFG.out _ e; omega))
  have HYw10 := (show Hid (Blk w10 (w5.heap.size) 30 [.int .i64 cdW, .int .i64 frW, (.slice aG nG cG), .int .i64 hdW]) from HYw9.out.kept hk (fun e => by have h1 := HFG.out _ e; omega))
  have HKw10 := (show Hid (Same w w10) from HKw9.out.next hk (fun b hb e => by have h1 := HFG.out _ e; omega))
  have HUw10 := (show Hid (OwnR kFrame 0 46 5 w10 (.slice aG nG cG) (markR mFrame 1 qsG)) from ho)
  clear cA0_0 cA0_1 lA0 cZ_0 cZ_1 cZ_2 cZ_3 lZ cY_0 cY_1 cY_2 cY_3 lY
  clear hk ho
  have cA0_0 := HA0w10.out.c0
  have cA0_1 := HA0w10.out.c1
  have lA0 := HA0w10.out.lt
  have cZ_0 := HZw10.out.c0
  have cZ_1 := HZw10.out.c1
  have cZ_2 := HZw10.out.c2
  have cZ_3 := HZw10.out.c3
  have lZ := HZw10.out.lt
  have cY_0 := HYw10.out.c0
  have cY_1 := HYw10.out.c1
  have cY_2 := HYw10.out.c2
  have cY_3 := HYw10.out.c3
  have lY := HYw10.out.lt
  go_wp2_with fail
  have hm := heldPoolResult_own cdW frW hdW (.slice aG nG cG) qsG 1 w10 (by omega) (by rw [HM.out]; exact hg1) (by omega) HUw10.out
  rw [HM.out] at hm
  refine hm.mono ?_
  clear hm
  rintro e w11 ⟨rfl, hk⟩
  have hkk : Same w10 w11 := hk
  have hzw11 := hkk.size
  have HA0w11 := hid (HA0w10.out.same hkk)
  have HWw11 := hid (HWw10.out.same hkk)
  have HZw11 := hid (HZw10.out.same hkk)
  have HYw11 := hid (HYw10.out.same hkk)
  have HUw11 := hid (HUw10.out.same hkk)
  have HKw11 := (show Hid (Same w w11) from HKw10.out.trans hkk)
  clear hkk hk
  clear cA0_0 cA0_1 lA0 cZ_0 cZ_1 cZ_2 cZ_3 lZ cY_0 cY_1 cY_2 cY_3 lY
  have cA0_0 := HA0w11.out.c0
  have cA0_1 := HA0w11.out.c1
  have lA0 := HA0w11.out.lt
  have cZ_0 := HZw11.out.c0
  have cZ_1 := HZw11.out.c1
  have cZ_2 := HZw11.out.c2
  have cZ_3 := HZw11.out.c3
  have lZ := HZw11.out.lt
  have cY_0 := HYw11.out.c0
  have cY_1 := HYw11.out.c1
  have cY_2 := HYw11.out.c2
  have cY_3 := HYw11.out.c3
  have lY := HYw11.out.lt
  go_wp2_with fail
  refine (toPool_any hand0 _ ps0 _ (by omega) (fun p hp => Nat.le_trans (HS0.out p hp) (by omega)) (HV0.out.same HKw11.out)).mono ?_
  rintro e w12 ⟨gJ0, qsJ0, rfl, hq, hf, ho, hk⟩
  have HQJ0 : Hid (datFrameS qsJ0 = datFrameS ps0) := hq
  have HFJ0 := (show Hid (∀ b, footR kFrame (.slice (some ⟨gJ0, 0, none⟩) ps0.length ps0.length) qsJ0 b → w11.heap.size ≤ b ∧ b < w12.heap.size) from fun b hb => ⟨hf b hb, (ho.lt b hb).2⟩)
  have HJ0w12 := (show Hid (OwnR kFrame 0 46 5 w12 (.slice (some ⟨gJ0, 0, none⟩) ps0.length ps0.length) qsJ0) from ho)
  clear hf ho hq
  have hkk : Same w11 w12 := hk
  have hzw12 := hkk.size
  have HA0w12 := hid (HA0w11.out.same hkk)
  have HWw12 := hid (HWw11.out.same hkk)
  have HZw12 := hid (HZw11.out.same hkk)
  have HYw12 := hid (HYw11.out.same hkk)
  have HUw12 := hid (HUw11.out.same hkk)
  have HKw12 := (show Hid (Same w w12) from HKw11.out.trans hkk)
  clear hkk hk
  clear cA0_0 cA0_1 lA0 cZ_0 cZ_1 cZ_2 cZ_3 lZ cY_0 cY_1 cY_2 cY_3 lY
  have cA0_0 := HA0w12.out.c0
  have cA0_1 := HA0w12.out.c1
  have lA0 := HA0w12.out.lt
  have cZ_0 := HZw12.out.c0
  have cZ_1 := HZw12.out.c1
  have cZ_2 := HZw12.out.c2
  have cZ_3 := HZw12.out.c3
  have lZ := HZw12.out.lt
  have cY_0 := HYw12.out.c0
  have cY_1 := HYw12.out.c1
  have cY_2 := HYw12.out.c2
  have cY_3 := HYw12.out.c3
  have lY := HYw12.out.lt
  go_wp2_with fail
  refine (implPoolClean_any _ hand0 s1 qsJ0 _ (HJ0w12.out.rd)).mono ?_
  rintro e w13 ⟨cdL, frL, aL, nL, cL, hdL, qsL, rfl, hR, hf, ho, hk⟩
  rw [cleanP_dat HQJ0.out] at hR
  have hR2 := hR.trans HR.out.symm
  simp only [Prod.mk.injEq] at hR2
  obtain ⟨hR3, hR4, hR5, hR6⟩ := hR2
  have hR3 := hR3.symm
  have hR4 := hR4.symm
  have hR5 := hR5.symm
  subst hR3 hR4 hR5
  have HQL : Hid (datFrameS qsL = datFrameS qsW) := hR6
  clear hR6
  have HFL := (show Hid (∀ b, footR kFrame (.slice aL nL cL) qsL b → w12.heap.size ≤ b ∧ b < w13.heap.size) from fun b hb => ⟨hf b hb, (ho.lt b hb).2⟩)
  have HLw13 := (show Hid (OwnR kFrame 0 46 5 w13 (.slice aL nL cL) qsL) from ho)
  clear hf ho hR
  have hkk : Same w12 w13 := hk
  have hzw13 := hkk.size
  have HA0w13 := hid (HA0w12.out.same hkk)
  have HWw13 := hid (HWw12.out.same hkk)
  have HZw13 := hid (HZw12.out.same hkk)
  have HYw13 := hid (HYw12.out.same hkk)
  have HUw13 := hid (HUw12.out.same hkk)
  have HJ0w13 := hid (HJ0w12.out.same hkk)
  have HKw13 := (show Hid (Same w w13) from HKw12.out.trans hkk)
  clear hkk hk
  clear cA0_0 cA0_1 lA0 cZ_0 cZ_1 cZ_2 cZ_3 lZ cY_0 cY_1 cY_2 cY_3 lY
  have cA0_0 := HA0w13.out.c0
  have cA0_1 := HA0w13.out.c1
  have lA0 := HA0w13.out.lt
  have cZ_0 := HZw13.out.c0
  have cZ_1 := HZw13.out.c1
  have cZ_2 := HZw13.out.c2
  have cZ_3 := HZw13.out.c3
  have lZ := HZw13.out.lt
  have cY_0 := HYw13.out.c0
  have cY_1 := HYw13.out.c1
  have cY_2 := HYw13.out.c2
  have cY_3 := HYw13.out.c3
  have lY := HYw13.out.lt
  go_wp2_with fail
  refine (eqPoolResult_own 0 cdW frW hdW _ _ qsL qsW _ (Nat.le_trans (HSM.out.of qsL HQL.out).1 (by omega)) HQL.out (fun p hp => Nat.le_trans ((HSM.out.of qsL HQL.out).2.1 p hp) (by omega)) (HLw13.out.same ((Kept.refl _ _).alloc _)) (HWw13.out.same ((Kept.refl _ _).alloc _))).mono ?_
  rintro e w14 ⟨rfl, hk⟩
  have hkk : Same w13 w14 := ((Kept.refl _ _).alloc _).trans hk
  have hzw14 := hk.size
  rw [World.size_alloc] at hzw14
  have HA0w14 := hid (HA0w13.out.same hkk)
  have HWw14 := hid (HWw13.out.same hkk)
  have HZw14 := hid (HZw13.out.same hkk)
  have HYw14 := hid (HYw13.out.same hkk)
  have HUw14 := hid (HUw13.out.same hkk)
  have HLw14 := hid (HLw13.out.same hkk)
  have HVw14 := (show Hid (Blk w14 (w13.heap.size) 30 [.int .i64 cdW, .int .i64 frW, (.slice aL nL cL), .int .i64 hdW]) from (Blk.new w13 #[.int .i64 cdW, .int .i64 frW, (.slice aL nL cL), .int .i64 hdW] 30).same hk)
  have HKw14 := (show Hid (Same w w14) from HKw13.out.trans hkk)
  clear hkk hk
  clear cA0_0 cA0_1 lA0 cZ_0 cZ_1 cZ_2 cZ_3 lZ cY_0 cY_1 cY_2 cY_3 lY
  have cA0_0 := HA0w14.out.c0
  have cA0_1 := HA0w14.out.c1
  have lA0 := HA0w14.out.lt
  have cY_0 := HYw14.out.c0
  have cY_1 := HYw14.out.c1
  have cY_2 := HYw14.out.c2
  have cY_3 := HYw14.out.c3
  have lY := HYw14.out.lt
  go_wp2_with fail
  have hm := heldPoolResult_own cdW frW hdW (.slice aG nG cG) qsG 1 w14 (by omega) (by rw [HM.out]; exact hg1) (by omega) HUw14.out
  rw [HM.out] at hm
  refine hm.mono ?_
  clear hm
  rintro e w15 ⟨rfl, hk⟩
  have hkk : Same w14 w15 := hk
  have hzw15 := hkk.size
  have HA0w15 := hid (HA0w14.out.same hkk)
  have HYw15 := hid (HYw14.out.same hkk)
  have HUw15 := hid (HUw14.out.same hkk)
  have HKw15 := (show Hid (Same w w15) from HKw14.out.trans hkk)
  clear hkk hk
  clear cA0_0 cA0_1 lA0 cY_0 cY_1 cY_2 cY_3 lY
  go_wp2
  go_ret
  exact ⟨rfl, HKw15.out⟩
end Go.Proofs.Ytabmhcdldfehnab

namespace Go.Proofs.Ytabmhcdldfehnab.fnExactPoolClean
open Go.ChangeShapes Go.WideShapes Go.ChangeAt Go.RowKit
set_option linter.unusedVariables false
theorem own : ownKnob Try.prog.godebug = none := by kernel_rfl
theorem laidOut : laidOutB Try.prog = true := by kernel_rfl
set_option maxRecDepth 100000 in
theorem lifted (os : Os) (started : os.Started) (H : Type) (enc : TypeId × Value → H) :
    ReturnsInHanded {} Try.checked os 3 .any (Rows.fnExactPoolCleanSpec.pre6 enc Try.prog Try.f3 Rows.fnExactPoolCleanRow.domain false) (Rows.fnExactPoolCleanSpec.post enc Try.prog Try.f3 false true false false) := by
  refine returnsInHanded_of_change (C := Try.checked) own started (by kernel_rfl) Try.func3
    (ChangeSpec.witness6 (enc := enc) (C := Try.checked) false ⟨#[], #[.agg #[.slice none 0 0, .int .i64 0], .int .i64 0], []⟩ 8 (by kernel_rfl) (by kernel_rfl) (by kernel_rfl) (by kernel_rfl)) ?_
  intro W base args ds gs before hval0 hW hcnd _
  have hval : ∀ (j : Nat) t v, Try.f3.params[j]? = some t → args[j]? = some v → Value.okWide Try.prog W .any base t v := hval0
  have hW' := hW
  obtain ⟨p, q, hA0, hV, rfl, hfz, hnd⟩ := hW
  have hA : DataW.TrodAll enc Try.prog W 0 (fun _ => true) true Try.f3.params.toList args.toList ds p := hA0
  rw [Try.params3] at hA hval
  obtain ⟨v0, vs0, d0, ds0, p0, q0, hargs, rfl, rfl, h0, r0⟩ := trodAll_cons hA
  obtain ⟨v1, vs1, d1, ds1, p1, q1, rfl, rfl, rfl, h1, r1⟩ := trodAll_cons r0
  obtain ⟨rfl, rfl, rfl⟩ := trodAll_nil r1
  obtain rfl : args = #[v0, v1] := by cases args; simp_all
  obtain ⟨rfl, rfl⟩ := trodVars_none hV
  have k0 := h0
  have lt0 : ∀ x ∈ p0, x.block < W.heap.size := by obtain ⟨m, hm⟩ := k0; exact DataW.trod_lt m _ _ _ hm
  obtain ⟨pv0, ps0, hand0, rfl, rd0, bd0, hd0⟩ := open_pool (hval 0 24 v0 rfl rfl) h0
  obtain ⟨a1, rfl, rfl, rfl, w1⟩ := open_int Try.underlying2 (hval 1 2 v1 rfl rfl) h1
  clear hA0 hval0
  refine (poolClean_law pv0 ps0 hand0 a1 W rd0).mono fun e W' ⟨he, hk⟩ => ?_
  have bel : Below W.heap.size W W' := hk.below (Nat.le_refl _) (fun _ _ => id)
  subst he
  exact ⟨_, rfl, _, _, _, [], _, [], hW', trodAll_mk1 (shut_bool Try.underlying4 _), (trodAll_cons_mk (Below.trod laidOut (by kernel_rfl) (of_decide_eq_true (by kernel_rfl)) k0 bel lt0) (trodAll_cons_mk (shut_int Try.underlying2 w1) trodAll_mk0)), rfl, bel.frame _, fun h => by cases h⟩
theorem over : Rows.fnExactPoolCleanRow.holds Try.pinned (OpenSpec.ofChange Rows.fnExactPoolCleanSpec) :=
  OpenClaim.holds_of_wide 3 Try.f3 rfl rfl rfl rfl rfl rfl rfl ⟨rfl, rfl, rfl, rfl, rfl⟩ rfl rfl rfl rfl rfl (by kernel_rfl) Try.func3 (by kernel_rfl)
    (of_decide_eq_true (by kernel_rfl)) (by unfold Func.isWrapper; first | (rw [if_pos (by decide +kernel)]; kernel_rfl) | (rw [if_neg (by decide +kernel)]; exact ⟨rfl, rfl⟩))
    (fun os started H enc _ => lifted os started H enc)
end Go.Proofs.Ytabmhcdldfehnab.fnExactPoolClean
namespace Go.Proofs.Ytabmhcdldfehnab
theorem poolClean_proved : Rows.FnExactPoolCleanSaid := fnExactPoolClean.over
#print axioms poolClean_proved
end Go.Proofs.Ytabmhcdldfehnab
