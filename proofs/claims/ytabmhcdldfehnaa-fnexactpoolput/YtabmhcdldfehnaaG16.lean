import Derived.Test.YtabmhcdldfehnaaG08
import Derived.Test.YtabmhcdldfehnaaG09
namespace Go.Proofs.Ytabmhcdldfehnaa
set_option maxRecDepth 100000
set_option maxHeartbeats 4000000
open Go.RowKit
set_option linter.unusedVariables false
set_option linter.unusedSimpArgs false
section
variable {w : World} {P : Nat} {hand : Int} {g n cap : Nat} {bl : List Nat} {ps : List EFrame}
theorem FP.storeNew {k b i : Nat} {p p' : EFrame} {u : Value} (h : FP w P hand g n cap bl ps) (hb : bl[k]? = some b) (hp : ps[k]? = some p) (hc : kFrame.cells p' = (kFrame.cells p).set i u) (hu : Own 0 5 .u8 w p'.v p'.bs) (hx : ∀ x, p'.v.ownBlock = some x → ¬ footFP P g bl ps x) :
    FP (w.setCell ⟨b, i, none⟩ u) P hand g n cap bl (ps.set k p') := by
  have hbm : b ∈ bl := List.mem_of_getElem? hb
  have hk : Kept (fun x => x = b) w (w.setCell ⟨b, i, none⟩ u) := Kept.setCell (R := fun x => x = b) (Kept.refl _ _) (p := ⟨b, i, none⟩) (.inr rfl) _
  have hfs : ∀ x, footS kFrame bl (ps.set k p') x → footS kFrame bl ps x ∨ p'.v.ownBlock = some x := fun x hf => by
    rcases hf with hf | ⟨q, hq, hf⟩
    · exact .inl (.inl hf)
    · rcases List.mem_or_eq_of_mem_set hq with hq | rfl
      · exact .inl (.inr ⟨q, hq, hf⟩)
      · exact .inr hf
  refine ⟨h.top.kept hk (fun e => h.outP (.inl (e ▸ hbm))), by rw [List.length_set]; exact h.len, hk.owns h.row (fun x hx e => h.outg (.inl (by simp [Value.ownBlock] at hx; rw [hx, e]; exact hbm))), h.ptr.store hb hp hc hu (fun x hx' => ⟨fun hm => hx x hx' (.inr (.inr (.inl hm))), fun j q _ hq e => hx x hx' (.inr (.inr (.inr ⟨q, List.mem_of_getElem? hq, e⟩)))⟩), h.pg, fun hf => ?_, fun hf => ?_⟩
  · rcases hfs _ hf with hf | hf
    · exact h.outP hf
    · exact hx _ hf (.inl rfl)
  · rcases hfs _ hf with hf | hf
    · exact h.outg hf
    · exact hx _ hf (.inr (.inl rfl))
end
def putT (page : Int) (bs : List Int) (lsn : Int) (ps : List EFrame) : Int × Int × List (Int × List Int × Int × Bool × Int × Bool) :=
  if findB page ps = -1 then (2, 0, datFrameS ps) else
  if bs.length ≠ 4096 ∨ inB lsn 1 1099511627776 = false then (3, 0, datFrameS ps) else
  match (datFrameS ps)[(findB page ps).toNat]? with
  | none => (0, 0, [])
  | some d => (0, findB page ps, (datFrameS ps).set (findB page ps).toNat (d.1, bs, d.2.2.1, true, (if d.2.2.2.1 = true then d.2.2.2.2.1 else lsn), true))
theorem putT_dat {page lsn : Int} {bs : List Int} {ps qs : List EFrame} (h : datFrameS qs = datFrameS ps) : putT page bs lsn qs = putT page bs lsn ps := by
  unfold putT
  rw [findB_dat h, h]
theorem putM_any (page : Int) (u : Value) (bs : List Int) (lsn : Int) (P : Nat) (hand : Int) (g n cap : Nat) (bl : List Nat) (ps : List EFrame) (w : World) (h : FP w P hand g n cap bl ps) (hn : n ≤ 16) (hbl : bs.length ≤ 1099511627776) (hu : Rd .u8 w u bs) :
    Calls Try.prog 56 #[.pointer (some ⟨P, 0, none⟩), .int .i64 page, u, .int .i64 lsn] w fun e w' => ∃ fr cd bl' qs', e = .returned (.tuple #[.int .i64 fr, .int .i64 cd]) ∧ FP w' P hand g n cap bl' qs' ∧ (cd, fr, datFrameS qs') = putT page bs lsn ps ∧ (∀ b, footS kFrame bl' qs' b → footS kFrame bl ps b ∨ w.heap.size ≤ b) ∧ Kept (footFP P g bl ps) w w' := by
  have k0 := find_any page P hand g n cap bl ps w h hn
  have HF := (show Hid (FP w P hand g n cap bl ps) from h)
  obtain ⟨au, cu, rfl⟩ := hu.form
  have HU := (show Hid (Rd .u8 w (.slice au bs.length cu) bs) from hu)
  have HBL := hid hbl
  obtain ⟨fi, hfi⟩ : ∃ x, findB page ps = x := ⟨_, rfl⟩
  have HFI : Hid (findB page ps = fi) := hfi
  rw [hfi] at k0
  clear hu hbl
  by_cases h1 : fi = -1
  · subst h1
    clear h hfi
    go_enter Try.func56, Try.ntmps56
    go_wp2_with fail
    refine k0.mono ?_
    rintro e w1 ⟨rfl, hk1⟩
    go_wp2
    go_ret2
    exact ⟨0, 2, bl, ps, rfl, HF.out.same hk1, by unfold putT; rw [HFI.out, if_pos rfl], fun b hb => .inl hb, hk1.mono (fun _ _ e => e.elim)⟩
  obtain ⟨k, hk, hkl⟩ := findB_lt (by rw [hfi]; exact h1)
  obtain rfl : fi = (k : Int) := by rw [← hfi]; exact hk
  have kc := chLSN_any lsn
  obtain ⟨nb, hnb⟩ : ∃ x, bs.length = x := ⟨_, rfl⟩
  have HNB : Hid (bs.length = nb) := hnb
  rw [hnb] at HU ⊢
  have HT0 : Hid (nb ≠ 4096 ∨ inB lsn 1 1099511627776 = false → putT page bs lsn ps = (3, 0, datFrameS ps)) := fun hh => by
    unfold putT
    rw [HFI.out, if_neg h1, hnb, if_pos hh]
  by_cases h2 : nb = 4096
  case neg =>
    have h2' : ¬ (nb : Int) = 4096 := by omega
    clear h hfi hnb
    go_enter Try.func56, Try.ntmps56
    go_wp2_with fail
    refine k0.mono ?_
    rintro e w1 ⟨rfl, hk1⟩
    go_wp2
    go_ret2
    exact ⟨0, 3, bl, ps, rfl, HF.out.same hk1, by rw [HT0.out (.inl h2)], fun b hb => .inl hb, hk1.mono (fun _ _ e => e.elim)⟩
  subst h2
  cases h3 : inB lsn 1 1099511627776 with
  | false =>
    rw [h3] at kc
    have HT1 := hid (HT0.out (.inr h3))
    clear h hfi hnb
    go_enter Try.func56, Try.ntmps56
    go_wp2_with fail
    refine k0.mono ?_
    rintro e w1 ⟨rfl, hk1⟩
    have HK1 := (show Hid (Same w w1) from hk1)
    clear hk1
    go_wp2_with fail
    refine (kc _).mono ?_
    rintro e w2 ⟨rfl, rfl⟩
    go_wp2
    go_ret2
    exact ⟨0, 3, bl, ps, rfl, HF.out.same HK1.out, by rw [HT1.out], fun b hb => .inl hb, HK1.out.mono (fun _ _ e => e.elim)⟩
  | true =>
    rw [h3] at kc
    have hkn : k < n := by rw [h.len]; exact hkl
    obtain ⟨bk, p, hbk, hpk, hck, hb⟩ := h.at k hkn
    have hdat := h.ptr.data p (List.mem_of_getElem? hpk)
    have HBK : Hid (bl[k]? = some bk) := hbk
    have HPK : Hid (ps[k]? = some p) := hpk
    have HIN : Hid (footFP P g bl ps bk) := .inr (.inr (.inl (List.mem_of_getElem? hbk)))
    obtain ⟨pg, pv, fb, pn, dt, rl, rf⟩ := p
    obtain ⟨a1, n1, c1, e1⟩ := slice_of_own (show Own 0 5 .u8 w pv fb from hdat)
    subst e1
    have HB := (show Hid (Blk w bk 51 [.int .i64 pg, .slice a1 n1 c1, .int .i64 pn, .bool dt, .int .i64 rl, .bool rf]) from hb)
    obtain ⟨x0, x1⟩ := h.top.all2
    have HT : Hid (putT page bs lsn ps = (0, (k : Int), (datFrameS ps).set k (pg, bs, pn, true, (if dt = true then rl else lsn), true))) := by
      unfold putT Hid
      rw [HFI.out, if_neg h1, if_neg (by rw [hnb, h3]; simp), Int.toNat_natCast, dat_at HPK.out]
      rfl
    have hki : (k : Int) < (n : Int) := by omega
    have HBI : Hid (bk < w.heap.size) := HF.out.lt bk HIN.out
    have HFL : Hid (∀ x, footFP P g bl ps x → x < w.heap.size) := fun x hx => HF.out.lt x hx
    clear hb hdat hbk hpk hfi hk hnb h
    go_enter Try.func56, Try.ntmps56
    go_wp2_with fail
    refine k0.mono ?_
    rintro e w1 ⟨rfl, hk1⟩
    have HK1 := (show Hid (Same w w1) from hk1)
    have HB1 := hid (HB.out.same hk1)
    have y0 : w1.cell? ⟨P, 0, none⟩ = some (.slice (some ⟨g, 0, none⟩) n cap) := hk1.cellOf x0 id
    have yk : w1.cell? ⟨g, k, none⟩ = some (.pointer (some ⟨bk, 0, none⟩)) := hk1.cellOf hck id
    clear hk1 x0 x1 hck
    go_wp2_with fail
    refine (kc _).mono ?_
    rintro e w1' ⟨rfl, rfl⟩
    go_wp2_with fail
    refine (cloneS_any (.slice au 4096 cu) bs _ HBL.out (HU.out.same HK1.out)).mono ?_
    rintro e w2 ⟨a4, n4, c4, rfl, ho4, hf4, hk4⟩
    have HK2 := (show Hid (Same w w2) from HK1.out.trans hk4)
    have HB2 := hid (HB1.out.same hk4)
    have HO4 := (show Hid (Own 0 5 .u8 w2 (.slice a4 n4 c4) bs) from ho4)
    have HZ1 := hid HK1.out.size
    have HF4 : Hid (∀ b, (Value.slice a4 n4 c4).ownBlock = some b → w.heap.size ≤ b) := fun b hb => Nat.le_trans HZ1.out (hf4 b hb)
    clear ho4 hf4 hk4 y0 yk
    obtain ⟨c0, c1', c2, c3, c4', c5⟩ := HB2.out.all6
    have fz := HB2.out.frozen
    have HF2 := (show Hid (FP w2 P hand g n cap bl ps) from HF.out.same HK2.out)
    have f0 := FP.storeNew (i := 1) (u := .slice a4 n4 c4) (p' := (⟨pg, .slice a4 n4 c4, bs, pn, dt, rl, rf⟩ : EFrame)) HF2.out HBK.out HPK.out rfl HO4.out (fun x hx hf => by have h1 := HF4.out x hx; have h2 := HFL.out x hf; omega)
    have f1 := FP.storeOwn (i := 5) (u := .bool true) (p' := (⟨pg, .slice a4 n4 c4, bs, pn, dt, rl, true⟩ : EFrame)) f0 HBK.out (set_again hkl _) rfl rfl rfl
    have HFT : Hid (∀ (q : EFrame) b, q.v = .slice a4 n4 c4 → footS kFrame bl (ps.set k q) b → footS kFrame bl ps b ∨ w.heap.size ≤ b) := fun q b hq hb => by
      rcases hb with hb | ⟨r, hr, hb⟩
      · exact .inl (.inl hb)
      · rcases List.mem_or_eq_of_mem_set hr with hr | rfl
        · exact .inl (.inr ⟨r, hr, hb⟩)
        · exact .inr (HF4.out b (by rw [← hq]; exact hb))
    cases dt with
    | true =>
      have H1 := hid f1
      clear f0 f1
      go_wp2
      go_ret2
      refine ⟨(k : Int), 0, bl, _, rfl, H1.out, ?_, ?_, ?_⟩
      · rw [HT.out]
        simp only [List.set_set, dat_set]
        rfl
      · intro b hb
        rw [List.set_set] at hb
        exact HFT.out _ b rfl hb
      · refine Kept.next (R := footFP P g bl ps) (R' := fun b => b = bk) (HK2.out.mono (fun _ _ e => e.elim)) ?_ (fun i hi e => by rw [e]; exact HIN.out)
        (iterate 2 refine Kept.setCell (R := fun b => b = bk) ?_ (.inr rfl) _)
        exact Kept.refl _ _
    | false =>
      have f2 := FP.storeOwn (i := 3) (u := .bool true) (p' := (⟨pg, .slice a4 n4 c4, bs, pn, true, rl, true⟩ : EFrame)) f1 HBK.out (set_again (by simpa using hkl) _) rfl rfl rfl
      have f3 := FP.storeOwn (i := 4) (u := .int .i64 lsn) (p' := (⟨pg, .slice a4 n4 c4, bs, pn, true, lsn, true⟩ : EFrame)) f2 HBK.out (set_again (by simpa using hkl) _) rfl rfl rfl
      have H3 := hid f3
      clear f0 f1 f2 f3
      go_wp2
      go_ret2
      refine ⟨(k : Int), 0, bl, _, rfl, H3.out, ?_, ?_, ?_⟩
      · rw [HT.out]
        simp only [List.set_set, dat_set]
        rfl
      · intro b hb
        rw [List.set_set, List.set_set, List.set_set] at hb
        exact HFT.out _ b rfl hb
      · refine Kept.next (R := footFP P g bl ps) (R' := fun b => b = bk) (HK2.out.mono (fun _ _ e => e.elim)) ?_ (fun i hi e => by rw [e]; exact HIN.out)
        (iterate 4 refine Kept.setCell (R := fun b => b = bk) ?_ (.inr rfl) _)
        exact Kept.refl _ _
end Go.Proofs.Ytabmhcdldfehnaa

namespace Go.Proofs.Ytabmhcdldfehnaa
set_option maxRecDepth 100000
set_option maxHeartbeats 8000000
open Go.RowKit
set_option linter.unusedVariables false
set_option linter.unusedSimpArgs false
def putP (ps : List EFrame) (hand page : Int) (bs : List Int) (lsn : Int) : Int × Int × Int × List (Int × List Int × Int × Bool × Int × Bool) := turnP (putT page bs lsn ps) ps hand
theorem putP_dat {ps qs : List EFrame} {hand page lsn : Int} {bs : List Int} (h : datFrameS qs = datFrameS ps) : putP qs hand page bs lsn = putP ps hand page bs lsn := by
  unfold putP
  rw [putT_dat h, turnP_dat h]
theorem putP_small {ps qs : List EFrame} {hand page a b c lsn : Int} {bs : List Int} (h : (a, b, c, datFrameS qs) = putP ps hand page bs lsn) : SmallF (datFrameS qs) := by
  refine turnP_small h (fun h0 h1 => ?_)
  unfold putT at h1 ⊢
  by_cases h2 : findB page ps = -1
  · rw [if_pos h2]; exact small_dat h0
  rw [if_neg h2] at h1 ⊢
  by_cases h3 : bs.length ≠ 4096 ∨ inB lsn 1 1099511627776 = false
  · rw [if_pos h3]; exact small_dat h0
  rw [if_neg h3] at h1 ⊢
  have h4 : bs.length = 4096 := Classical.byContradiction fun e => h3 (.inl e)
  split
  · exact small_nil
  · next d hd => exact small_set (small_dat h0) (by dsimp only; omega)
theorem specPoolPut_any (v : Value) (hand page : Int) (u : Value) (bs : List Int) (lsn : Int) (ps : List EFrame) (w : World) (hv : RdR kFrame w v ps) (hbl : bs.length ≤ 1099511627776) (hu : Rd .u8 w u bs) :
    Calls Try.prog 29 #[.agg #[v, .int .i64 hand], .int .i64 page, u, .int .i64 lsn] w fun e w' => ∃ cd fr a n c hd qs, e = .returned (.agg #[.int .i64 cd, .int .i64 fr, .slice a n c, .int .i64 hd]) ∧ (cd, fr, hd, datFrameS qs) = putP ps hand page bs lsn ∧ (∀ b, footR kFrame (.slice a n c) qs b → w.heap.size ≤ b) ∧ OwnR kFrame 0 51 5 w' (.slice a n c) qs ∧ Same w w' := by
  obtain ⟨a, c, rfl⟩ := hv.form
  obtain ⟨au, cu, rfl⟩ := hu.form
  have HV := (show Hid (RdR kFrame w (.slice a ps.length c) ps) from hv)
  have HU := (show Hid (Rd .u8 w (.slice au bs.length cu) bs) from hu)
  have HBL := hid hbl
  clear hv hu hbl
  obtain ⟨at_, q, hA⟩ : ∃ x y, atP ps hand page = (x, y) := ⟨_, _, rfl⟩
  have HA : Hid (atP ps hand page = (at_, q)) := hA
  have hk0 : Same w ((w.alloc (.cells #[.slice a ps.length c, .int .i64 hand] 29)).alloc (.cells #[.int .i64 0, .int .i64 0, .slice none 0 0, .int .i64 0] 37)) := ((Kept.refl _ _).alloc _).alloc _
  have k0 := l7At_any (.slice a ps.length c) hand page ps _ (HV.out.same hk0)
  rw [hA] at k0
  have b0 := Blk.newA w [.slice a ps.length c, .int .i64 hand] 29 [.int .i64 0, .int .i64 0, .slice none 0 0, .int .i64 0] 37
  have b1 := Blk.newB w [.slice a ps.length c, .int .i64 hand] 29 [.int .i64 0, .int .i64 0, .slice none 0 0, .int .i64 0] 37
  obtain ⟨nb, hnb⟩ : ∃ x, bs.length = x := ⟨_, rfl⟩
  have HTU : Hid (putP ps hand page bs lsn = if q ≠ 0 then (q, 0, 0, []) else if nb ≠ 4096 ∨ inB lsn 1 1099511627776 = false then (3, 0, 0, []) else match (datFrameS ps)[at_.toNat]? with
    | none => (0, 0, hand, [])
    | some d => (0, at_, hand, (datFrameS ps).set at_.toNat (d.1, bs, d.2.2.1, true, (if d.2.2.2.1 = true then d.2.2.2.2.1 else lsn), true))) := by
    unfold Hid putP turnP
    by_cases h0 : poolF ps hand ≠ 0
    · have e : atP ps hand page = (0, 1) := if_pos h0
      rw [hA] at e
      injection e with e1 e2
      subst e1 e2
      rw [if_pos h0, if_pos (by simp)]
    have h1 : poolF ps hand = 0 := Classical.not_not.1 h0
    rw [if_neg h0]
    by_cases h2 : findB page ps = -1
    · have e := atP_none h1 h2
      rw [hA] at e
      injection e with e1 e2
      subst e1 e2
      have e : putT page bs lsn ps = (2, 0, datFrameS ps) := if_pos h2
      rw [e, if_pos (by simp), if_pos (by simp)]
    · have e := atP_some h1 h2
      rw [hA] at e
      injection e with e1 e2
      subst e1 e2
      rw [if_neg (show ¬ ((0 : Int) ≠ 0) from by simp)]
      by_cases h3 : nb ≠ 4096 ∨ inB lsn 1 1099511627776 = false
      · have e : putT page bs lsn ps = (3, 0, datFrameS ps) := by unfold putT; rw [if_neg h2, hnb, if_pos h3]
        rw [e, if_pos h3, if_pos (by simp)]
      · have e : putT page bs lsn ps = match (datFrameS ps)[(findB page ps).toNat]? with
          | none => (0, 0, [])
          | some d => (0, findB page ps, (datFrameS ps).set (findB page ps).toNat (d.1, bs, d.2.2.1, true, (if d.2.2.2.1 = true then d.2.2.2.2.1 else lsn), true)) := by unfold putT; rw [if_neg h2, hnb, if_neg h3] <;> rfl
        rw [e, if_neg h3]
        cases (datFrameS ps)[(findB page ps).toNat]? with
        | none => rfl
        | some d => rfl
  have HNB : Hid (bs.length = nb) := hnb
  rw [hnb] at HU ⊢
  clear hA hnb
  go_enter Try.func29, Try.ntmps29
  go_wp2_with fail
  refine k0.mono ?_
  rintro e w1 ⟨rfl, hk1⟩
  have HK1 := (show Hid (Same w w1) from hk0.trans hk1)
  have HB0 := hid (b0.same hk1)
  have HB1 := hid (b1.same hk1)
  clear hk0 hk1 b0 b1 k0
  obtain ⟨g0, g1⟩ := HB0.out.all2
  obtain ⟨z0, z1, z2, z3⟩ := HB1.out.all4
  have fz := HB1.out.frozen
  have lz := HB1.out.lt
  by_cases hq : q = 0
  case neg =>
    have HT0 := (show Hid (putP ps hand page bs lsn = (q, 0, 0, [])) from (by unfold Hid; rw [HTU.out, if_pos hq]))
    go_wp2
    refine bodyPost_ret (v := .agg #[.int .i64 q, .int .i64 0, .slice none 0 0, .int .i64 0]) (by simp [results, Try.results29, go_sem, z0, z1, z2, z3]) rfl ⟨q, 0, none, 0, 0, 0, [], rfl, ?_, fun b hb => absurd hb (footR_nil b), OwnR.nil _ _ _ _ _, ?_⟩
    · rw [HT0.out]
      rfl
    · (iterate 4 refine Kept.setCell ?_ (.inl (Nat.le_succ _)) _)
      exact HK1.out
  subst hq
  have HT1 : Hid (nb ≠ 4096 ∨ inB lsn 1 1099511627776 = false → putP ps hand page bs lsn = (3, 0, 0, [])) := fun h => by rw [HTU.out, if_neg (by simp), if_pos h]
  by_cases h2 : nb = 4096
  case neg =>
    have h2' : ¬ (nb : Int) = 4096 := by omega
    have HT2 := hid (HT1.out (.inl h2))
    go_wp2
    refine bodyPost_ret (v := .agg #[.int .i64 3, .int .i64 0, .slice none 0 0, .int .i64 0]) (by simp [results, Try.results29, go_sem, z0, z1, z2, z3]) rfl ⟨3, 0, none, 0, 0, 0, [], rfl, ?_, fun b hb => absurd hb (footR_nil b), OwnR.nil _ _ _ _ _, ?_⟩
    · rw [HT2.out]
      rfl
    · (iterate 4 refine Kept.setCell ?_ (.inl (Nat.le_succ _)) _)
      exact HK1.out
  subst h2
  have kin := l4In_any lsn 1 1099511627776
  cases h3 : inB lsn 1 1099511627776 with
  | false =>
    rw [h3] at kin
    have HT2 := hid (HT1.out (.inr h3))
    clear z0 z1 z2 z3 fz lz
    go_wp2_with fail
    refine (kin _).mono ?_
    rintro e w2 ⟨rfl, hk2⟩
    have HK2 := (show Hid (Same w w2) from HK1.out.trans hk2)
    obtain ⟨z0, z1, z2, z3⟩ := (HB1.out.same hk2).all4
    have fz := (HB1.out.same hk2).frozen
    have lz := (HB1.out.same hk2).lt
    go_wp2
    refine bodyPost_ret (v := .agg #[.int .i64 3, .int .i64 0, .slice none 0 0, .int .i64 0]) (by simp [results, Try.results29, go_sem, z0, z1, z2, z3]) rfl ⟨3, 0, none, 0, 0, 0, [], rfl, ?_, fun b hb => absurd hb (footR_nil b), OwnR.nil _ _ _ _ _, ?_⟩
    · rw [HT2.out]
      rfl
    · (iterate 4 refine Kept.setCell ?_ (.inl (Nat.le_succ _)) _)
      exact HK2.out
  | true =>
    rw [h3] at kin
    obtain ⟨h0, k, rfl, hkl⟩ := atP_lt HA.out
    have hl16 := (poolF_len h0).2.1
    have hfr := frame_of h0
    have HM : Hid (∀ p ∈ ps, p.bs.length ≤ 1099511627776) := fun p hp => Nat.le_trans (hfr p hp).2 (by omega)
    have HT3 : Hid (putP ps hand page bs lsn = match (datFrameS ps)[k]? with
      | none => (0, 0, hand, [])
      | some d => (0, (k : Int), hand, (datFrameS ps).set k (d.1, bs, d.2.2.1, true, (if d.2.2.2.1 = true then d.2.2.2.2.1 else lsn), true))) := by
      unfold Hid
      rw [HTU.out, if_neg (by simp), if_neg (by rw [h3]; simp), Int.toNat_natCast]
    clear hfr z0 z1 z2 z3 fz lz
    go_wp2_with fail
    refine (kin _).mono ?_
    rintro e w2 ⟨rfl, hk2⟩
    have HK2 := (show Hid (Same w w2) from HK1.out.trans hk2)
    have HB02 := hid (HB0.out.same hk2)
    have HB12 := hid (HB1.out.same hk2)
    clear hk2 g0 g1
    obtain ⟨g0, g1⟩ := HB02.out.all2
    go_wp2_with fail
    refine (l7Copy_any (.slice a ps.length c) hand ps _ (by omega) HM.out (HV.out.same HK2.out)).mono ?_
    rintro e w3 ⟨a3, n3, c3, qs, rfl, hd3, hf3, ho3, hk3⟩
    have hql : qs.length = ps.length := dat_len hd3
    obtain ⟨g, e3⟩ : ∃ g, (Value.slice a3 n3 c3) = .slice (some ⟨g, 0, none⟩) ps.length c3 := by
      rcases ho3.form with ⟨_, hps⟩ | ⟨g, cap, e, _⟩
      · rw [hps] at hql; simp at hql; omega
      · rw [hql] at e
        injection e with e1 e2 e3
        exact ⟨g, by rw [e1, e2]⟩
    injection e3 with e31 e32
    subst e31 e32
    have HQL : Hid (qs.length = ps.length) := hql
    have HK3 := (show Hid (Same w w3) from HK2.out.trans hk3)
    have HO3 := (show Hid (OwnR kFrame 0 51 5 w3 (.slice (some ⟨g, 0, none⟩) ps.length c3) qs) from ho3)
    have hz1 : w.heap.size + 1 < w2.heap.size := HB12.out.lt
    have hz3 : w2.heap.size ≤ w3.heap.size := hk3.size
    have HF3 : Hid (∀ b, footR kFrame (.slice (some ⟨g, 0, none⟩) ps.length c3) qs b → w.heap.size + 1 < b ∧ b < w3.heap.size) := fun b hb => ⟨by have := hf3 b hb; omega, (ho3.lt b hb).2⟩
    have HD3 : Hid (datFrameS qs = datFrameS ps) := hd3
    have HB13 := hid (HB12.out.same hk3)
    have hkq : k < qs.length := by omega
    obtain ⟨hgl1, hgl2⟩ : w.heap.size + 1 < g ∧ g < w3.heap.size := HF3.out g (.inl rfl)
    have hki : (k : Int) < (ps.length : Int) := by omega
    obtain ⟨p, hp⟩ : ∃ p, qs[k] = p := ⟨_, rfl⟩
    have HPE : Hid (qs[k] = p) := hp
    have HDK : Hid ((datFrameS ps)[k]? = some p.dat) := by unfold Hid; rw [← hd3, dat_at (List.getElem?_eq_getElem hkq), hp]
    clear hd3 hf3 ho3 hk3 g0 g1 hp hql
    have HB4 := (show Hid (Blk (w3.alloc (.cells #[.slice (some ⟨g, 0, none⟩) ps.length c3, .int .i64 hand] 29)) w3.heap.size 29 [.slice (some ⟨g, 0, none⟩) ps.length c3, .int .i64 hand]) from Blk.newL w3 [.slice (some ⟨g, 0, none⟩) ps.length c3, .int .i64 hand] 29)
    go_wp2_with fail
    have hk34 : Same w3 (w3.alloc (.cells #[.slice (some ⟨g, 0, none⟩) ps.length c3, .int .i64 hand] 29)) := (Kept.refl _ _).alloc _
    obtain ⟨w4, hw4⟩ : ∃ x, x = (w3.alloc (.cells #[.slice (some ⟨g, 0, none⟩) ps.length c3, .int .i64 hand] 29)) := ⟨_, rfl⟩
    rw [← hw4] at HB4 hk34 ⊢
    clear hw4
    have hS : (fun wx : World => wx.cell? ⟨w3.heap.size, 0, none⟩ = some (.slice (some ⟨g, 0, none⟩) ps.length c3)) w4.drew := HB4.out.drew.cell 0
    refine wp_region_V (fun wx : World => wx.cell? ⟨w3.heap.size, 0, none⟩ = some (.slice (some ⟨g, 0, none⟩) ps.length c3)) 7 8 rfl (by kernel_rfl) ?_
    refine tk 0 33 hS ?_
    refine tk 1 34 hS ?_
    refine tk 2 35 hS ?_
    refine tk 3 36 hS ?_
    refine wpAnyV_one (i := 4) (by kernel_rfl) rfl (fun K hK => ?_)
    go_simp
    refine (l1Copy_any (.slice au 4096 cu) bs _ HBL.out (HU.out.same ((HK3.out.trans hk34).drew))).mono ?_
    rintro e w5 ⟨a5, n5, c5, rfl, ho5, hf5, hk5⟩
    have hk45 : Same w4 w5 := (Kept.refl (fun _ => False) w4).drew.trans hk5
    have HK5 := (show Hid (Same w w5) from (HK3.out.trans hk34).trans hk45)
    have HO5 := (show Hid (OwnR kFrame 0 51 5 w5 (.slice (some ⟨g, 0, none⟩) ps.length c3) qs) from (HO3.out.same hk34).same hk45)
    have HU5 := (show Hid (Own 0 5 .u8 w5 (.slice a5 n5 c5) bs) from ho5)
    have hzl : w3.heap.size < w4.heap.size := HB4.out.lt
    have HF5 : Hid (∀ b, (Value.slice a5 n5 c5).ownBlock = some b → w3.heap.size < b) := fun b hb => by have h : w4.heap.size ≤ b := hf5 b hb; omega
    have HB45 := hid (HB4.out.same hk45)
    have HB15 := (show Hid (Blk w5 (w.heap.size + 1) 37 [.int .i64 0, .int .i64 0, .slice none 0 0, .int .i64 0]) from (HB13.out.same hk34).same hk45)
    clear ho5 hf5 hk5 hk45 hk34
    go_wp2_with fail
    have hS5 : (fun wx : World => wx.cell? ⟨w3.heap.size, 0, none⟩ = some (.slice (some ⟨g, 0, none⟩) ps.length c3)) w5 := HB45.out.cell 0
    refine hK.out _ _ (fun _ => hS5) ?_
    clear hK K hS
    try simp only [Act.put, sA, s0, sS]
    have y0 : w5.cell? ⟨g, k * 6, none⟩ = some (.int .i64 p.page) := by have h := HO5.out.cell HQL.out.symm k 0 hkq (by decide); rw [HPE.out] at h; exact h
    have y1 : w5.cell? ⟨g, k * 6 + 1, none⟩ = some p.v := by have h := HO5.out.cell HQL.out.symm k 1 hkq (by decide); rw [HPE.out] at h; exact h
    have y3 : w5.cell? ⟨g, k * 6 + 3, none⟩ = some (.bool p.dirty) := by have h := HO5.out.cell HQL.out.symm k 3 hkq (by decide); rw [HPE.out] at h; exact h
    have y4 : w5.cell? ⟨g, k * 6 + 4, none⟩ = some (.int .i64 p.rl) := by have h := HO5.out.cell HQL.out.symm k 4 hkq (by decide); rw [HPE.out] at h; exact h
    have y5 : w5.cell? ⟨g, k * 6 + 5, none⟩ = some (.bool p.rf) := by have h := HO5.out.cell HQL.out.symm k 5 hkq (by decide); rw [HPE.out] at h; exact h
    have fg := HO5.out.frozen HQL.out.symm
    refine wpAnyV_one (i := 5) (by kernel_rfl) rfl (fun K hK => ?_)
    go_simp
    refine hK.out _ _ (fun _ => hS5) ?_
    clear hK K
    try simp only [Act.put, sA, s0, sS]
    refine wpAnyV_one (i := 6) (by kernel_rfl) rfl (fun K hK => ?_)
    go_simp
    refine hK.out _ _ (fun _ => hS5) ?_
    clear hK K
    try simp only [Act.put, sA, s0, sS]
    refine wpAnyV_one (i := 7) (by kernel_rfl) rfl (fun K hK => ?_)
    go_simp
    refine hK.out _ _ (fun h => absurd rfl h) ?_
    clear hK K
    refine wpAnyV_done (by kernel_rfl) ?_
    try simp only [Act.put, sA, s0, sS]
    obtain ⟨x0, x1⟩ := HB45.out.all2
    obtain ⟨z0, z1, z2, z3⟩ := HB15.out.all4
    have fz := HB15.out.frozen
    have lz := HB15.out.lt
    have lx := HB45.out.lt
    have HLQ := hid hkq
    have HOA := (show Hid (OwnR kFrame 0 51 5 (w5.setCell ⟨g, k * 6 + 1, none⟩ (.slice a5 n5 c5)) (.slice (some ⟨g, 0, none⟩) ps.length c3) (qs.set k (⟨p.page, .slice a5 n5 c5, bs, p.pins, p.dirty, p.rl, p.rf⟩ : EFrame))) from
      OwnR.setNew (p' := (⟨p.page, .slice a5 n5 c5, bs, p.pins, p.dirty, p.rl, p.rf⟩ : EFrame)) HO5.out HQL.out.symm hkq 1 (.slice a5 n5 c5) (by decide) (by rw [HPE.out]; rfl) HU5.out (fun b hb hf => by have h1 := HF5.out b hb; have h2 := (HF3.out b hf).2; omega) _ rfl)
    have HOB := (show Hid (OwnR kFrame 0 51 5 ((w5.setCell ⟨g, k * 6 + 1, none⟩ (.slice a5 n5 c5)).setCell ⟨g, k * 6 + 5, none⟩ (.bool true)) (.slice (some ⟨g, 0, none⟩) ps.length c3) ((qs.set k (⟨p.page, .slice a5 n5 c5, bs, p.pins, p.dirty, p.rl, p.rf⟩ : EFrame)).set k (⟨p.page, .slice a5 n5 c5, bs, p.pins, p.dirty, p.rl, true⟩ : EFrame))) from
      OwnR.setAt (p' := (⟨p.page, .slice a5 n5 c5, bs, p.pins, p.dirty, p.rl, true⟩ : EFrame)) HOA.out (by rw [List.length_set]; exact HQL.out.symm) (by rw [List.length_set]; exact hkq) 5 (.bool true) (by decide) (by rw [List.getElem_set_self]; rfl) (by rw [List.getElem_set_self]; rfl) (by rw [List.getElem_set_self]; rfl) _ rfl)
    have HFT : Hid (∀ (q : EFrame) b, q.v = .slice a5 n5 c5 → footR kFrame (.slice (some ⟨g, 0, none⟩) ps.length c3) (qs.set k q) b → w.heap.size + 1 < b) := fun q b hq hb => by
      rcases footR_setNew b hb with h | h
      · exact (HF3.out b h).1
      · have := HF5.out b (by rw [← hq]; exact h); omega
    cases hdt : p.dirty with
    | true =>
      rw [hdt] at y3
      have HO0' := (show Hid (OwnR kFrame 0 51 5 (((w5.setCell ⟨g, k * 6 + 1, none⟩ (.slice a5 n5 c5)).setCell ⟨g, k * 6 + 5, none⟩ (.bool true)).setCell ⟨g, k * 6 + 3, none⟩ (.bool true)) (.slice (some ⟨g, 0, none⟩) ps.length c3) (((qs.set k (⟨p.page, .slice a5 n5 c5, bs, p.pins, p.dirty, p.rl, p.rf⟩ : EFrame)).set k (⟨p.page, .slice a5 n5 c5, bs, p.pins, p.dirty, p.rl, true⟩ : EFrame)).set k (⟨p.page, .slice a5 n5 c5, bs, p.pins, true, p.rl, true⟩ : EFrame))) from OwnR.setAt (p' := (⟨p.page, .slice a5 n5 c5, bs, p.pins, true, p.rl, true⟩ : EFrame)) HOB.out (by simp only [List.length_set]; exact HQL.out.symm) (by simp only [List.length_set]; exact hkq) 3 (.bool true) (by decide) (by rw [List.getElem_set_self]; rfl) (by rw [List.getElem_set_self]; rfl) (by rw [List.getElem_set_self]; rfl) _ rfl)
      have HKB := (show Hid (Kept (fun b => b = g) w5 (((w5.setCell ⟨g, k * 6 + 1, none⟩ (.slice a5 n5 c5)).setCell ⟨g, k * 6 + 5, none⟩ (.bool true)).setCell ⟨g, k * 6 + 3, none⟩ (.bool true))) from Kept.setCell (R := fun b => b = g) (Kept.setCell (R := fun b => b = g) (Kept.setCell (R := fun b => b = g) (Kept.refl _ _) (p := ⟨g, k * 6 + 1, none⟩) (.inr rfl) _) (p := ⟨g, k * 6 + 5, none⟩) (.inr rfl) _) (p := ⟨g, k * 6 + 3, none⟩) (.inr rfl) _)
      go_wp2
      have hbf := ((((HB15.out.kept HKB.out (by intro e; omega)).stored 0 (.int .i64 0)).stored 1 (.int .i64 k)).stored 2 (.slice (some ⟨g, 0, none⟩) ps.length c3)).stored 3 (.int .i64 hand)
      obtain ⟨f0, f1, f2, f3⟩ := hbf.all4
      refine bodyPost_ret (v := .agg #[.int .i64 0, .int .i64 k, .slice (some ⟨g, 0, none⟩) ps.length c3, .int .i64 hand]) (by simp [results, Try.results29, go_sem, f0, f1, f2, f3]) rfl ?_
      refine ⟨0, (k : Int), some ⟨g, 0, none⟩, ps.length, c3, hand, rfl, _, ?_, ?_, HO0'.out.kept (R := fun b => b = w.heap.size + 1) ?_ ?_, ?_⟩
      · rw [HT3.out, HDK.out]
        simp only [List.set_set, dat_set, HD3.out]
        simp [EFrame.dat, hdt]
      · intro b hb
        simp only [List.set_set] at hb
        have := HFT.out _ b rfl hb
        omega
      · (iterate 4 refine Kept.setCell (R := fun b => b = w.heap.size + 1) ?_ (.inr rfl) _)
        exact Kept.refl _ _
      · intro b hb e
        simp only [List.set_set] at hb
        have := HFT.out _ b rfl hb
        omega
      · (iterate 4 refine Kept.setCell ?_ (.inl (Nat.le_succ _)) _)
        exact HK5.out.next HKB.out (fun i hi e => by omega)
    | false =>
      rw [hdt] at y3
      have HO0' := (show Hid (OwnR kFrame 0 51 5 (((w5.setCell ⟨g, k * 6 + 1, none⟩ (.slice a5 n5 c5)).setCell ⟨g, k * 6 + 5, none⟩ (.bool true)).setCell ⟨g, k * 6 + 4, none⟩ (.int .i64 lsn)) (.slice (some ⟨g, 0, none⟩) ps.length c3) (((qs.set k (⟨p.page, .slice a5 n5 c5, bs, p.pins, p.dirty, p.rl, p.rf⟩ : EFrame)).set k (⟨p.page, .slice a5 n5 c5, bs, p.pins, p.dirty, p.rl, true⟩ : EFrame)).set k (⟨p.page, .slice a5 n5 c5, bs, p.pins, p.dirty, lsn, true⟩ : EFrame))) from OwnR.setAt (p' := (⟨p.page, .slice a5 n5 c5, bs, p.pins, p.dirty, lsn, true⟩ : EFrame)) HOB.out (by simp only [List.length_set]; exact HQL.out.symm) (by simp only [List.length_set]; exact hkq) 4 (.int .i64 lsn) (by decide) (by rw [List.getElem_set_self]; rfl) (by rw [List.getElem_set_self]; rfl) (by rw [List.getElem_set_self]; rfl) _ rfl)
      have HO1' := (show Hid (OwnR kFrame 0 51 5 ((((w5.setCell ⟨g, k * 6 + 1, none⟩ (.slice a5 n5 c5)).setCell ⟨g, k * 6 + 5, none⟩ (.bool true)).setCell ⟨g, k * 6 + 4, none⟩ (.int .i64 lsn)).setCell ⟨g, k * 6 + 3, none⟩ (.bool true)) (.slice (some ⟨g, 0, none⟩) ps.length c3) ((((qs.set k (⟨p.page, .slice a5 n5 c5, bs, p.pins, p.dirty, p.rl, p.rf⟩ : EFrame)).set k (⟨p.page, .slice a5 n5 c5, bs, p.pins, p.dirty, p.rl, true⟩ : EFrame)).set k (⟨p.page, .slice a5 n5 c5, bs, p.pins, p.dirty, lsn, true⟩ : EFrame)).set k (⟨p.page, .slice a5 n5 c5, bs, p.pins, true, lsn, true⟩ : EFrame))) from OwnR.setAt (p' := (⟨p.page, .slice a5 n5 c5, bs, p.pins, true, lsn, true⟩ : EFrame)) HO0'.out (by simp only [List.length_set]; exact HQL.out.symm) (by simp only [List.length_set]; exact hkq) 3 (.bool true) (by decide) (by rw [List.getElem_set_self]; rfl) (by rw [List.getElem_set_self]; rfl) (by rw [List.getElem_set_self]; rfl) _ rfl)
      have HKB := (show Hid (Kept (fun b => b = g) w5 ((((w5.setCell ⟨g, k * 6 + 1, none⟩ (.slice a5 n5 c5)).setCell ⟨g, k * 6 + 5, none⟩ (.bool true)).setCell ⟨g, k * 6 + 4, none⟩ (.int .i64 lsn)).setCell ⟨g, k * 6 + 3, none⟩ (.bool true))) from Kept.setCell (R := fun b => b = g) (Kept.setCell (R := fun b => b = g) (Kept.setCell (R := fun b => b = g) (Kept.setCell (R := fun b => b = g) (Kept.refl _ _) (p := ⟨g, k * 6 + 1, none⟩) (.inr rfl) _) (p := ⟨g, k * 6 + 5, none⟩) (.inr rfl) _) (p := ⟨g, k * 6 + 4, none⟩) (.inr rfl) _) (p := ⟨g, k * 6 + 3, none⟩) (.inr rfl) _)
      go_wp2
      have hbf := ((((HB15.out.kept HKB.out (by intro e; omega)).stored 0 (.int .i64 0)).stored 1 (.int .i64 k)).stored 2 (.slice (some ⟨g, 0, none⟩) ps.length c3)).stored 3 (.int .i64 hand)
      obtain ⟨f0, f1, f2, f3⟩ := hbf.all4
      refine bodyPost_ret (v := .agg #[.int .i64 0, .int .i64 k, .slice (some ⟨g, 0, none⟩) ps.length c3, .int .i64 hand]) (by simp [results, Try.results29, go_sem, f0, f1, f2, f3]) rfl ?_
      refine ⟨0, (k : Int), some ⟨g, 0, none⟩, ps.length, c3, hand, rfl, _, ?_, ?_, HO1'.out.kept (R := fun b => b = w.heap.size + 1) ?_ ?_, ?_⟩
      · rw [HT3.out, HDK.out]
        simp only [List.set_set, dat_set, HD3.out]
        simp [EFrame.dat, hdt]
      · intro b hb
        simp only [List.set_set] at hb
        have := HFT.out _ b rfl hb
        omega
      · (iterate 4 refine Kept.setCell (R := fun b => b = w.heap.size + 1) ?_ (.inr rfl) _)
        exact Kept.refl _ _
      · intro b hb e
        simp only [List.set_set] at hb
        have := HFT.out _ b rfl hb
        omega
      · (iterate 4 refine Kept.setCell ?_ (.inl (Nat.le_succ _)) _)
        exact HK5.out.next HKB.out (fun i hi e => by omega)
end Go.Proofs.Ytabmhcdldfehnaa

namespace Go.Proofs.Ytabmhcdldfehnaa
set_option maxRecDepth 100000
set_option maxHeartbeats 4000000
open Go.RowKit
set_option linter.unusedVariables false
set_option linter.unusedSimpArgs false
theorem put1_any (page : Int) (u : Value) (bs : List Int) (lsn : Int) (C0 C1 C2 : Nat) (P : Nat) (hand : Int) (g n cap : Nat) (bl : List Nat) (ps : List EFrame) (w : World) (h : FP w P hand g n cap bl ps) (hn : n ≤ 16) (hbl : bs.length ≤ 1099511627776) (hu : Rd .u8 w u bs) (hc0 : Blk w C0 2 [.int .i64 page]) (hc1 : Blk w C1 35 [u]) (hc2 : Blk w C2 2 [.int .i64 lsn]) :
    Calls Try.prog 55 #[.pointer (some ⟨P, 0, none⟩), .pointer (some ⟨C0, 0, none⟩), .pointer (some ⟨C1, 0, none⟩), .pointer (some ⟨C2, 0, none⟩)] w fun e w' => ∃ fr cd bl' qs', e = .returned (.tuple #[.int .i64 fr, .int .i64 cd]) ∧ FP w' P hand g n cap bl' qs' ∧ (cd, fr, datFrameS qs') = putT page bs lsn ps ∧ (∀ b, footS kFrame bl' qs' b → footS kFrame bl ps b ∨ w.heap.size ≤ b) ∧ Kept (footFP P g bl ps) w w' := by
  have d0 := hc0.c0
  have d1 := hc1.c0
  have d2 := hc2.c0
  have k0 := putM_any page u bs lsn P hand g n cap bl ps w h hn hbl hu
  obtain ⟨au, cu, rfl⟩ := hu.form
  clear h hu hbl hc0 hc1 hc2
  go_enter Try.func55, Try.ntmps55
  go_wp2_with fail
  refine k0.mono ?_
  rintro e w1 ⟨fr, cd, bl', qs', rfl, hf, ht, hn', hk⟩
  have H1 := hid hf
  have H2 := hid ht
  have H3 := hid hn'
  have H4 := hid hk
  clear hf ht hn' hk k0
  go_wp2
  go_ret2
  exact ⟨fr, cd, bl', qs', rfl, H1.out, H2.out, H3.out, H4.out⟩
theorem enters_put1 : Enters 55 := fun args wx => by simp [callFunc, go_sem, Try.func55, Try.f55]
theorem implPoolPut_any (v : Value) (hand : Int) (page : Int) (u : Value) (bs : List Int) (lsn : Int) (ps : List EFrame) (w : World) (hv : RdR kFrame w v ps) (hbl : bs.length ≤ 1099511627776) (hu : Rd .u8 w u bs) :
    Calls Try.prog 30 #[.agg #[v, .int .i64 hand], .int .i64 page, u, .int .i64 lsn] w fun e w' => ∃ cd fr a n c hd qs, e = .returned (.agg #[.int .i64 cd, .int .i64 fr, .slice a n c, .int .i64 hd]) ∧ (cd, fr, hd, datFrameS qs) = putP ps hand page bs lsn ∧ (∀ b, footR kFrame (.slice a n c) qs b → w.heap.size ≤ b) ∧ OwnR kFrame 0 51 5 w' (.slice a n c) qs ∧ Same w w' := by
  obtain ⟨a, c, rfl⟩ := hv.form
  obtain ⟨au, cu, rfl⟩ := hu.form
  obtain ⟨wa, hwa⟩ : ∃ x, x = ((((w.alloc (.cells #[.slice a ps.length c, .int .i64 hand] 29)).alloc (.cells #[.int .i64 page] 2)).alloc (.cells #[.slice au bs.length cu] 35)).alloc (.cells #[.int .i64 lsn] 2)) := ⟨_, rfl⟩
  have hka : Same w wa := by rw [hwa]; exact (((((Kept.refl _ _).alloc _).alloc _).alloc _).alloc _)
  have hza : wa.heap.size = w.heap.size + 1 + 1 + 1 + 1 := by rw [hwa]; simp
  have b0 : Blk wa w.heap.size 29 [.slice a ps.length c, .int .i64 hand] := by rw [hwa]; exact (((Blk.newL w [.slice a ps.length c, .int .i64 hand] 29).alloc _).alloc _).alloc _
  have bC0 : Blk wa (w.heap.size + 1) 2 [.int .i64 page] := by
    have h := (((Blk.newL (w.alloc (.cells #[.slice a ps.length c, .int .i64 hand] 29)) [.int .i64 page] 2).alloc (.cells #[.slice au bs.length cu] 35)).alloc (.cells #[.int .i64 lsn] 2))
    rw [← hwa] at h
    simpa using h
  have bC1 : Blk wa (w.heap.size + 1 + 1) 35 [.slice au bs.length cu] := by
    have h := ((Blk.newL ((w.alloc (.cells #[.slice a ps.length c, .int .i64 hand] 29)).alloc (.cells #[.int .i64 page] 2)) [.slice au bs.length cu] 35).alloc (.cells #[.int .i64 lsn] 2))
    rw [← hwa] at h
    simpa using h
  have bC2 : Blk wa (w.heap.size + 1 + 1 + 1) 2 [.int .i64 lsn] := by
    have h := (Blk.newL (((w.alloc (.cells #[.slice a ps.length c, .int .i64 hand] 29)).alloc (.cells #[.int .i64 page] 2)).alloc (.cells #[.slice au bs.length cu] 35)) [.int .i64 lsn] 2)
    rw [← hwa] at h
    simpa using h
  have k0 := turned_any 55 #[.pointer (some ⟨w.heap.size + 1, 0, none⟩), .pointer (some ⟨w.heap.size + 1 + 1, 0, none⟩), .pointer (some ⟨w.heap.size + 1 + 1 + 1, 0, none⟩)] (.slice a ps.length c) hand ps (putT page bs lsn ps) (wa.alloc (.cells #[.int .i64 0, .int .i64 0, .slice none 0 0, .int .i64 0] 37)) (hv.same (hka.alloc _)) enters_put1 (fun wx P g n cap bl qs hf hn hd hq hk hb => by
    have h := put1_any page (.slice au bs.length cu) bs lsn (w.heap.size + 1) (w.heap.size + 1 + 1) (w.heap.size + 1 + 1 + 1) P hand g n cap bl qs wx hf hn hbl (hu.same ((hka.alloc _).trans hk)) ((bC0.alloc _).same hk) ((bC1.alloc _).same hk) ((bC2.alloc _).same hk)
    rw [putT_dat hd] at h
    exact h)
  have bR := Blk.newL wa [.int .i64 0, .int .i64 0, .slice none 0 0, .int .i64 0] 37
  obtain ⟨g0, g1⟩ := b0.all2
  have l0 := b0.lt
  have hmf : ∀ (fn : Fn) (first cap : Array Value) (w : World), (Instr.makeFunc fn first cap).run Try.prog w = .ok (.func fn first cap) w := fun _ _ _ _ => rfl
  rw [hza] at bR
  have HKA := hid hka
  have HZ := hid hza
  clear hv hu hbl bC0 bC1 bC2 b0 hka
  go_enter Try.func30, Try.ntmps30
  go_wp2_with fail
  rw [← hwa]
  clear hwa
  refine k0.mono ?_
  rintro e w1 ⟨cd, fr, a1, n1, c1, hd, qs, rfl, hR, hf, ho, hk1⟩
  have HR := (show Hid ((cd, fr, hd, datFrameS qs) = turnP (putT page bs lsn ps) ps hand) from hR)
  have HK1 := (show Hid (Same w w1) from (HKA.out.alloc _).trans hk1)
  have HB1 := hid (bR.same hk1)
  have HF : Hid (∀ b, footR kFrame (.slice a1 n1 c1) qs b → w.heap.size + 1 + 1 + 1 + 1 < b) := fun b hb => by have h := hf b hb; simp only [World.size_alloc] at h; omega
  have HO := (show Hid (OwnR kFrame 0 51 5 w1 (.slice a1 n1 c1) qs) from ho)
  clear hk1 bR k0 hR hf ho g0 g1 hza
  obtain ⟨z0, z1, z2, z3⟩ := HB1.out.all4
  have fz := HB1.out.frozen
  have lz := HB1.out.lt
  go_wp2
  refine bodyPost_ret (v := .agg #[.int .i64 cd, .int .i64 fr, .slice a1 n1 c1, .int .i64 hd]) (by simp [results, Try.results30, go_sem, z0, z1, z2, z3]) rfl ⟨cd, fr, a1, n1, c1, hd, qs, rfl, HR.out, fun b hb => by have := HF.out b hb; omega, HO.out.kept (R := fun b => b = w.heap.size + 1 + 1 + 1 + 1) ?_ (fun b hb e => by have := HF.out b hb; omega), ?_⟩
  · (iterate 4 refine Kept.setCell (R := fun b => b = w.heap.size + 1 + 1 + 1 + 1) ?_ (.inr rfl) _)
    exact Kept.refl _ _
  · (iterate 4 refine Kept.setCell ?_ (.inl (by show w.heap.size ≤ w.heap.size + 1 + 1 + 1 + 1; omega)) _)
    exact HK1.out
end Go.Proofs.Ytabmhcdldfehnaa
