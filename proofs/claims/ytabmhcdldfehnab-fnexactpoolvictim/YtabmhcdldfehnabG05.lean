import Derived.Test.YtabmhcdldfehnabG04
import Derived.Test.YtabmhcdldfehnabG01
import Derived.Test.YtabmhcdldfehnabG02
import Derived.Laws.AppendOwnNone
import Derived.Deep.AppendLies
namespace Go.Proofs.Ytabmhcdldfehnab
set_option maxRecDepth 100000
set_option maxHeartbeats 4000000
open Go.RowKit
set_option linter.unusedVariables false
set_option linter.unusedSimpArgs false
theorem findB_lt {page : Int} {ps : List EFrame} (h : findB page ps ≠ -1) : ∃ j : Nat, findB page ps = (j : Int) ∧ j < ps.length := by
  unfold findB at h ⊢
  by_cases hp : isPageB page = false
  · rw [if_pos hp] at h; exact absurd rfl h
  rw [if_neg hp] at h ⊢
  by_cases h0 : findFrom page 0 ps < 0
  · exfalso
    have key : ∀ (qs : List EFrame) (k : Nat), findFrom page k qs = -1 ∨ 0 ≤ findFrom page k qs := fun qs => by
      induction qs with
      | nil => exact fun k => .inl rfl
      | cons q qs ih =>
        intro k
        by_cases hq : q.page = page
        · rw [show findFrom page k (q :: qs) = k from if_pos hq]; exact .inr (by omega)
        · rw [show findFrom page k (q :: qs) = findFrom page (k + 1) qs from if_neg hq]; exact ih (k + 1)
    rcases key ps 0 with h1 | h1
    · exact h h1
    · omega
  · obtain ⟨j, e, _, hj⟩ := findFrom_lt ps 0 h0
    exact ⟨j, e, by omega⟩
section
variable {w : World} {P : Nat} {hand : Int} {g n cap : Nat} {bl : List Nat} {ps : List EFrame}
theorem FP.storeOwn {k b i : Nat} {p p' : EFrame} {u : Value} (h : FP w P hand g n cap bl ps) (hb : bl[k]? = some b) (hp : ps[k]? = some p) (hc : kFrame.cells p' = (kFrame.cells p).set i u) (hv : p'.v = p.v) (hs : p'.bs = p.bs) :
    FP (w.setCell ⟨b, i, none⟩ u) P hand g n cap bl (ps.set k p') := by
  have hbm : b ∈ bl := List.mem_of_getElem? hb
  have hk : Kept (fun x => x = b) w (w.setCell ⟨b, i, none⟩ u) := Kept.setCell (R := fun x => x = b) (Kept.refl _ _) (p := ⟨b, i, none⟩) (.inr rfl) _
  refine ⟨h.top.kept hk (fun e => h.outP (.inl (e ▸ hbm))), by rw [List.length_set]; exact h.len, hk.owns h.row (fun x hx e => h.outg (.inl (by simp [Value.ownBlock] at hx; rw [hx, e]; exact hbm))), h.ptr.storeOwn hb hp hc hv hs, h.pg, fun hf => h.outP (footS_set hp hv _ hf), fun hf => h.outg (footS_set hp hv _ hf)⟩
end
theorem set_again {ps : List EFrame} {k : Nat} (h : k < ps.length) (p : EFrame) : (ps.set k p)[k]? = some p := List.getElem?_set_self h
theorem dat_set (ps : List EFrame) (k : Nat) (p : EFrame) : datFrameS (ps.set k p) = (datFrameS ps).set k p.dat := by unfold datFrameS; rw [List.map_set]
theorem dat_at {ps : List EFrame} {k : Nat} {p : EFrame} (h : ps[k]? = some p) : (datFrameS ps)[k]? = some p.dat := by unfold datFrameS; rw [List.getElem?_map, h]; rfl
def cleanT (page : Int) (ps : List EFrame) : Int × Int × List (Int × List Int × Int × Bool × Int × Bool) :=
  if findB page ps = -1 then (2, 0, datFrameS ps) else
  match (datFrameS ps)[(findB page ps).toNat]? with
  | none => (0, 0, [])
  | some d => (0, findB page ps, (datFrameS ps).set (findB page ps).toNat (d.1, d.2.1, d.2.2.1, false, 0, d.2.2.2.2.2))
theorem cleanM_any (page : Int) (P : Nat) (hand : Int) (g n cap : Nat) (bl : List Nat) (ps : List EFrame) (w : World) (h : FP w P hand g n cap bl ps) (hn : n ≤ 16) (hpin : ∀ p ∈ ps, 0 ≤ p.pins ∧ p.pins ≤ 2147483647) :
    Calls Try.prog 22 #[.pointer (some ⟨P, 0, none⟩), .int .i64 page] w fun e w' => ∃ fr cd bl' qs', e = .returned (.tuple #[.int .i64 fr, .int .i64 cd]) ∧ FP w' P hand g n cap bl' qs' ∧ (cd, fr, datFrameS qs') = cleanT page ps ∧ (∀ b, footS kFrame bl' qs' b → footS kFrame bl ps b ∨ w.heap.size ≤ b) ∧ Kept (footFP P g bl ps) w w' := by
  have k0 := find_any page P hand g n cap bl ps w h hn
  have HF := (show Hid (FP w P hand g n cap bl ps) from h)
  obtain ⟨fi, hfi⟩ : ∃ x, findB page ps = x := ⟨_, rfl⟩
  have HFI : Hid (findB page ps = fi) := hfi
  rw [hfi] at k0
  by_cases h1 : fi = -1
  · subst h1
    clear h hpin hfi
    go_enter Try.func22, Try.ntmps22
    go_wp2_with fail
    refine k0.mono ?_
    rintro e w1 ⟨rfl, hk1⟩
    go_wp2
    go_ret2
    exact ⟨0, 2, bl, ps, rfl, HF.out.same hk1, by unfold cleanT; rw [HFI.out, if_pos rfl], fun b hb => .inl hb, hk1.mono (fun _ _ e => e.elim)⟩
  obtain ⟨k, hk, hkl⟩ := findB_lt (by rw [hfi]; exact h1)
  obtain rfl : fi = (k : Int) := by rw [← hfi]; exact hk
  have hkn : k < n := by rw [h.len]; exact hkl
  obtain ⟨bk, p, hbk, hpk, hck, hb⟩ := h.at k hkn
  have hpp := hpin p (List.mem_of_getElem? hpk)
  have hdat := h.ptr.data p (List.mem_of_getElem? hpk)
  have HBK : Hid (bl[k]? = some bk) := hbk
  have HPK : Hid (ps[k]? = some p) := hpk
  have HIN : Hid (footFP P g bl ps bk) := .inr (.inr (.inl (List.mem_of_getElem? hbk)))
  obtain ⟨pg, pv, fb, pn, dt, rl, rf⟩ := p
  obtain ⟨a1, n1, c1, e1⟩ := slice_of_own (show Own 0 5 .u8 w pv fb from hdat)
  subst e1
  have HB := (show Hid (Blk w bk 46 [.int .i64 pg, .slice a1 n1 c1, .int .i64 pn, .bool dt, .int .i64 rl, .bool rf]) from hb)
  obtain ⟨x0, x1⟩ := h.top.all2
  dsimp only at hpp
  have HT : Hid (cleanT page ps = (0, (k : Int), (datFrameS ps).set k (pg, fb, pn, false, 0, rf))) := by
    unfold cleanT Hid
    rw [HFI.out, if_neg h1, Int.toNat_natCast, dat_at HPK.out]
    rfl
  have hki : (k : Int) < (n : Int) := by omega
  clear hb hdat hpin hbk hpk hfi hk
  go_enter Try.func22, Try.ntmps22
  go_wp2_with fail
  refine k0.mono ?_
  rintro e w1 ⟨rfl, hk1⟩
  have HK1 := (show Hid (Same w w1) from hk1)
  have HB1 := hid (HB.out.same hk1)
  obtain ⟨c0, c1', c2, c3, c4, c5⟩ := HB1.out.all6
  have fz := HB1.out.frozen
  have y0 : w1.cell? ⟨P, 0, none⟩ = some (.slice (some ⟨g, 0, none⟩) n cap) := hk1.cellOf x0 id
  have yk : w1.cell? ⟨g, k, none⟩ = some (.pointer (some ⟨bk, 0, none⟩)) := hk1.cellOf hck id
  clear hk1 x0 x1 hck
  go_wp2
  go_ret2
  have f0 := FP.storeOwn (i := 3) (u := .bool (false)) (p' := (⟨pg, .slice a1 n1 c1, fb, pn, false, rl, rf⟩ : EFrame)) (HF.out.same HK1.out) HBK.out HPK.out rfl rfl rfl
  have f1 := FP.storeOwn (i := 4) (u := .int .i64 (0)) (p' := (⟨pg, .slice a1 n1 c1, fb, pn, false, 0, rf⟩ : EFrame)) f0 HBK.out (set_again (by exact hkl) _) rfl rfl rfl
  refine ⟨(k : Int), 0, bl, _, rfl, f1, ?_, ?_, ?_⟩
  · rw [HT.out]
    simp only [List.set_set, dat_set]
    rfl
  · intro b hb
    left
    rw [List.set_set] at hb
    exact footS_set (p' := (⟨pg, .slice a1 n1 c1, fb, pn, false, 0, rf⟩ : EFrame)) HPK.out rfl _ hb
  · refine Kept.next (R := footFP P g bl ps) (R' := fun b => b = bk) (HK1.out.mono (fun _ _ e => e.elim)) ?_ (fun i hi e => by rw [e]; exact HIN.out)
    (iterate 2 refine Kept.setCell (R := fun b => b = bk) ?_ (.inr rfl) _)
    exact Kept.refl _ _
end Go.Proofs.Ytabmhcdldfehnab

namespace Go.Proofs.Ytabmhcdldfehnab
set_option maxHeartbeats 400000
open Go.RowKit
theorem l1Copy_any (v : Value) (bs : List Int) (w : World) (hn : bs.length ≤ 1099511627776) (hv : Rd .u8 w v bs) :
    Calls Try.prog 31 #[v] w fun e w' => ∃ a n c, e = .returned (.slice a n c) ∧ Own 0 5 .u8 w' (.slice a n c) bs ∧ (∀ b, (Value.slice a n c).ownBlock = some b → w.heap.size ≤ b) ∧ Same w w' := by
  obtain ⟨i0, hi, hz0, hz1, hz2⟩ := info_parts Try.infoByte'
  rcases hv.2 with ⟨rfl, a, c, rfl, hac⟩ | ⟨b, off, c, rfl, _, hc⟩
  · cases a with
    | none =>
      obtain rfl : c = 0 := hac rfl
      clear hv hn hac
      go_enter Try.func31, Try.ntmps31
      go_wp2_with (at_builtin; refine wpList_append_own_none rfl (.tmp 3) (.tmp 4) 44 rfl w.heap.size 5 i0 1 Try.underlying44 hi _ 0 [] rfl (World.ownsRow_made w #[] 0 (Nat.le_refl _) (by simp) (by simp)) rfl ?_)
      go_ret
      exact ⟨_, _, _, rfl, (World.ownsRow_made w #[] 0 (Nat.zero_le _) (by simp) (by simp)), fun b hb => by simp [Value.ownBlock] at hb; omega, (Kept.refl _ _).alloc _⟩
    | some ad =>
      clear hv hn hac
      go_enter Try.func31, Try.ntmps31
      go_wp2_with (at_builtin; refine wpList_append_own _ rfl (.tmp 3) (.tmp 4) 44 rfl w.heap.size 5 i0 (.int .u8 0) 1 1 Try.underlying44 hi hz0 hz1 hz2 rfl (by decide) (.slice (some ⟨w.heap.size, 0, none⟩) 0 0) 0 [] rfl (World.ownsRow_made w #[] 0 (Nat.le_refl _) (by simp) (by simp)) ad 0 c [] rfl rfl (fun j u h => by simp at h) (fun u h => by simp at h) (by simp) (by simp) (by simp) ?_; intro v' w1 hown1 hgrow1 _; have HF := (show Hid (Own w.heap.size 5 .u8 w1 v' []) from hown1); have HK : Hid (Same w w1) := ((Kept.refl _ _).alloc _).grown hgrow1 (fun k e => .inl (by simp [Value.ownBlock] at e; omega)); obtain ⟨aa, na, ca, rfl⟩ := slice_of_own HF.out; clear hown1 hgrow1)
      go_ret
      exact ⟨_, _, _, rfl, HF.out.mono (fun b _ => Nat.zero_le b), fun b hb => (HF.out.lt b hb).1, HK.out⟩
  · have HC : Hid (∀ i, i < bs.length → (w.alloc (.cells #[] 5)).cell? ⟨b, off + i, none⟩ = some (.int .u8 (bs.getD i 0))) := fun i hi => ((Kept.refl (fun _ => False) w).alloc _).cellOf (hc i hi) id
    clear hv hc
    go_enter Try.func31, Try.ntmps31
    go_wp2_with (at_builtin; refine wpList_append_own _ rfl (.tmp 3) (.tmp 4) 44 rfl w.heap.size 5 i0 (.int .u8 0) 1 1 Try.underlying44 hi hz0 hz1 hz2 rfl (by decide) (.slice (some ⟨w.heap.size, 0, none⟩) 0 0) 0 [] rfl (World.ownsRow_made w #[] 0 (Nat.le_refl _) (by simp) (by simp)) ⟨b, off, none⟩ bs.length c (vals .u8 bs) rfl (by simp [vals_length]) (news_of HC.out) vals_one (by unfold maxLen; omega) (by omega) (by simp) ?_; intro v' w1 hown1 hgrow1 _; have HF := (show Hid (Own w.heap.size 5 .u8 w1 v' bs) from (by simpa [Own, Hid] using hown1)); have HK : Hid (Same w w1) := ((Kept.refl _ _).alloc _).grown hgrow1 (fun k e => .inl (by simp [Value.ownBlock] at e; omega)); obtain ⟨aa, na, ca, rfl⟩ := slice_of_own HF.out; clear hown1 hgrow1)
    go_ret
    exact ⟨_, _, _, rfl, HF.out.mono (fun b _ => Nat.zero_le b), fun b hb => (HF.out.lt b hb).1, HK.out⟩
end Go.Proofs.Ytabmhcdldfehnab

namespace Go.Proofs.Ytabmhcdldfehnab
set_option maxRecDepth 100000
set_option maxHeartbeats 4000000
open Go.RowKit
set_option linter.unusedVariables false
set_option linter.unusedSimpArgs false
theorem l7Copy_any (v : Value) (hand : Int) (ps : List EFrame) (w : World) (hn : ps.length ≤ 1073741824) (hs : ∀ p ∈ ps, p.bs.length ≤ 1099511627776) (hv : RdR kFrame w v ps) :
    Calls Try.prog 18 #[.agg #[v, .int .i64 hand]] w fun e w' => ∃ a n c qs, e = .returned (.agg #[.slice a n c, .int .i64 hand]) ∧ datFrameS qs = datFrameS ps ∧
      (∀ b, footR kFrame (.slice a n c) qs b → w.heap.size ≤ b) ∧ OwnR kFrame 0 46 5 w' (.slice a n c) qs ∧ Same w w' := by
  obtain ⟨a, c, rfl⟩ := hv.form
  obtain ⟨i0, hi, hz0, hz1, hz2⟩ := info_parts Try.infoRFrame
  have hmax := hv.max
  unfold maxLen at hmax
  have HV := (show Hid (RdR kFrame w (.slice a ps.length c) ps) from hv)
  have HS : Hid (∀ p ∈ ps, p.bs.length ≤ 1099511627776) := hs
  clear hv hs
  obtain ⟨len, hl⟩ : ∃ n, ps.length = n := ⟨_, rfl⟩
  have HL : Hid (ps.length = len) := hl
  rw [hl] at HV hmax hn ⊢
  clear hl
  have b0 := ((Blk.newL w [.slice a len c, .int .i64 hand] 28).same ((Kept.refl _ _).alloc (.cells #[.slice none 0 0, .int .i64 0] 28))).same ((Kept.refl _ _).alloc (.cells #[.slice none 0 0, .int .i64 hand] 28))
  have b1 := (Blk.newB w [.slice a len c, .int .i64 hand] 28 [.slice none 0 0, .int .i64 0] 28).same ((Kept.refl _ _).alloc (.cells #[.slice none 0 0, .int .i64 hand] 28))
  have b2 := Blk.newL ((w.alloc (.cells #[.slice a len c, .int .i64 hand] 28)).alloc (.cells #[.slice none 0 0, .int .i64 0] 28)) [.slice none 0 0, .int .i64 hand] 28
  simp only [World.size_alloc] at b1 b2
  have hkb : Same w (((w.alloc (.cells #[.slice a len c, .int .i64 hand] 28)).alloc (.cells #[.slice none 0 0, .int .i64 0] 28)).alloc (.cells #[.slice none 0 0, .int .i64 hand] 28)) := (((Kept.refl _ _).alloc _).alloc _).alloc _
  go_enter Try.func18, Try.ntmps18
  go_wp2_with fail
  obtain ⟨wb, hwb⟩ : ∃ x, x = (((w.alloc (.cells #[.slice a len c, .int .i64 hand] 28)).alloc (.cells #[.slice none 0 0, .int .i64 0] 28)).alloc (.cells #[.slice none 0 0, .int .i64 hand] 28)) := ⟨_, rfl⟩
  rw [← hwb]
  rw [← hwb] at b0 b1 b2 hkb
  have hzw : wb.heap.size = w.heap.size + 3 := by rw [hwb]; simp [World.size_alloc]
  clear hwb
  have HB0 := (show Hid (Blk wb w.heap.size 28 [.slice a len c, .int .i64 hand]) from b0)
  have HB1 := (show Hid (Blk wb (w.heap.size + 1) 28 [.slice none 0 0, .int .i64 0]) from b1)
  have HB2 := (show Hid (Blk wb (w.heap.size + 1 + 1) 28 [.slice none 0 0, .int .i64 hand]) from b2)
  have HKB := (show Hid (Same w wb) from hkb)
  clear b0 b1 b2 hkb
  go_loopw [4] (fun i wr => ∃ (k : Nat) (aa : Option Addr) (na ca : Nat) (qs : List EFrame), k ≤ len ∧ i = .int .i64 k ∧ Hid (qs.length = k) ∧ Hid (datFrameS qs = datFrameS (ps.take k)) ∧ Hid (Blk wr (w.heap.size + 1 + 1) 28 [.slice aa na ca, .int .i64 hand]) ∧
      Hid (∀ b, footR kFrame (.slice aa na ca) qs b → w.heap.size + 1 + 1 < b) ∧ Hid (OwnR kFrame 0 46 5 wr (.slice aa na ca) qs) ∧ Hid (Kept (fun b => b = w.heap.size + 1 + 1) wb wr)) (fun i _ => len - (intOf i).toNat)
  case atStart => exact ⟨0, none, 0, 0, [], Nat.zero_le _, rfl, rfl, rfl, HB2, fun b hb => absurd hb (footR_nil b), OwnR.nil _ _ _ _ _, Kept.refl _ _⟩
  case round =>
    obtain ⟨k, aa, na, ca, qs, hk, rfl, HQL, HQ, HX, HFP, HOP, HKr⟩ := hrel
    have HP := (show Hid (Blk wr w.heap.size 28 [.slice a len c, .int .i64 hand]) from HB0.out.kept HKr.out (by intro e; omega))
    obtain ⟨g0, g1⟩ := HP.out.all2
    have HKW := (show Hid (Same w wr) from HKB.out.next HKr.out (fun b hb e => by omega))
    by_cases hlt : k < len
    · have hlp : k < ps.length := by rw [HL.out]; exact hlt
      obtain ⟨b, off, rfl, hc⟩ : ∃ b off, a = some ⟨b, off, none⟩ ∧ ∀ j i, (h : j < ps.length) → i < 6 → w.cell? ⟨b, off + (j * 6 + i), none⟩ = (kFrame.cells ps[j])[i]? := by
        rcases HV.out.row with ⟨hps, _⟩ | ⟨b, off, c', he, hc⟩
        · rw [hps] at hlp; simp at hlp
        · injection he with he1 he2 he3
          exact ⟨b, off, he1, hc⟩
      obtain ⟨p, hp⟩ : ∃ p, ps[k] = p := ⟨_, rfl⟩
      have hrd : Rd .u8 w ps[k].v ps[k].bs := HV.out.data _ (List.getElem_mem hlp)
      have hm1 := HS.out _ (List.getElem_mem hlp)
      have hcc : ∀ i, i < 6 → wr.cell? ⟨b, off + (k * 6 + i), none⟩ = (kFrame.cells ps[k])[i]? := fun i hi => by
        have h := hc k i hlp hi
        have hlen : (kFrame.cells ps[k]).length = 6 := kFrame.len _
        rw [List.getElem?_eq_getElem (by omega)] at h ⊢
        exact HKW.out.cellOf h id
      rw [hp] at hrd hm1 hcc
      have HPE : Hid (ps[k] = p) := hp
      clear hp hc
      obtain ⟨pg, pv, fb, pn, dt, rl, rf⟩ := p
      dsimp only at hrd hm1
      obtain ⟨a1, c1, e1⟩ := hrd.form
      subst e1
      obtain ⟨n1, hn1⟩ : ∃ n, fb.length = n := ⟨_, rfl⟩
      have HN : Hid (fb.length = n1) := hn1
      rw [hn1] at hrd hcc
      have HRD := (show Hid (Rd .u8 w (.slice a1 n1 c1) fb) from hrd)
      have HM1 : Hid (fb.length ≤ 1099511627776) := hm1
      have d0 : wr.cell? ⟨b, off + k * 6, none⟩ = some (.int .i64 pg) := by have h := hcc 0 (by decide); exact h
      have d1 : wr.cell? ⟨b, off + k * 6 + 1, none⟩ = some (.slice a1 n1 c1) := by have h := hcc 1 (by decide); rw [← Nat.add_assoc] at h; exact h
      have d2 : wr.cell? ⟨b, off + k * 6 + 2, none⟩ = some (.int .i64 pn) := by have h := hcc 2 (by decide); rw [← Nat.add_assoc] at h; exact h
      have d3 : wr.cell? ⟨b, off + k * 6 + 3, none⟩ = some (.bool dt) := by have h := hcc 3 (by decide); rw [← Nat.add_assoc] at h; exact h
      have d4 : wr.cell? ⟨b, off + k * 6 + 4, none⟩ = some (.int .i64 rl) := by have h := hcc 4 (by decide); rw [← Nat.add_assoc] at h; exact h
      have d5 : wr.cell? ⟨b, off + k * 6 + 5, none⟩ = some (.bool rf) := by have h := hcc 5 (by decide); rw [← Nat.add_assoc] at h; exact h
      clear hcc hrd hm1 hn1
      have ba := Blk.newL wr [.int .i64 pg, .slice a1 n1 c1, .int .i64 pn, .bool dt, .int .i64 rl, .bool rf] 46
      have hki : (k : Int) < (len : Int) := by omega
      go_wp2_with fail
      refine (l1Copy_any _ fb _ HM1.out (HRD.out.same (HKW.out.trans ((Kept.refl _ _).alloc _)))).mono ?_
      rintro e w2 ⟨a4, n4, c4, rfl, ho4, hf4, hk4⟩
      have HB4 := hid (ba.same hk4)
      have HK4 := (show Hid (Same wr w2) from ((Kept.refl _ _).alloc _).trans hk4)
      have HO4 := (show Hid (Own 0 5 .u8 w2 (.slice a4 n4 c4) fb) from ho4)
      have HF4 : Hid (∀ b, (Value.slice a4 n4 c4).ownBlock = some b → wr.heap.size < b) := fun b hb => by have h := hf4 b hb; rw [World.size_alloc] at h; omega
      clear ho4 hf4 hk4 ba d0 d1 d2 d3 d4 d5 g0 g1
      have hxl : w.heap.size + 1 + 1 < wr.heap.size := HX.out.lt
      have h2l : wr.heap.size < w2.heap.size := HB4.out.lt
      have hs4 : (w2.setCell ⟨wr.heap.size, 1, none⟩ (.slice a4 n4 c4)).heap.size = w2.heap.size := by simp [World.setCell]
      have HK24 := (show Hid (Kept (fun b => b = wr.heap.size) w2 (w2.setCell ⟨wr.heap.size, 1, none⟩ (.slice a4 n4 c4))) from Kept.setCell (R := fun b => b = wr.heap.size) (Kept.refl _ _) (p := ⟨wr.heap.size, 1, none⟩) (.inr rfl) _)
      have HOP4 := (show Hid (OwnR kFrame 0 46 5 ((w2.setCell ⟨wr.heap.size, 1, none⟩ (.slice a4 n4 c4)).alloc (.cells #[.int .i64 pg, .slice a4 n4 c4, .int .i64 pn, .bool dt, .int .i64 rl, .bool rf] 46)) (.slice aa na ca) qs) from ((HOP.out.same HK4.out).kept HK24.out (fun b hb e => by have := (HOP.out.lt b hb).2; omega)).same ((Kept.refl _ _).alloc _))
      have HO5 := (show Hid (Own 0 5 .u8 ((w2.setCell ⟨wr.heap.size, 1, none⟩ (.slice a4 n4 c4)).alloc (.cells #[.int .i64 pg, .slice a4 n4 c4, .int .i64 pn, .bool dt, .int .i64 rl, .bool rf] 46)) (.slice a4 n4 c4) fb) from (HO4.out.kept HK24.out (fun b hb e => by have := HF4.out b hb; omega)).same ((Kept.refl _ _).alloc _))
      have HX5 := (show Hid (Blk ((w2.setCell ⟨wr.heap.size, 1, none⟩ (.slice a4 n4 c4)).alloc (.cells #[.int .i64 pg, .slice a4 n4 c4, .int .i64 pn, .bool dt, .int .i64 rl, .bool rf] 46)) (w.heap.size + 1 + 1) 28 [.slice aa na ca, .int .i64 hand]) from ((HX.out.same HK4.out).kept HK24.out (by intro e; omega)).same ((Kept.refl _ _).alloc _))
      have HN5 := (show Hid (Blk ((w2.setCell ⟨wr.heap.size, 1, none⟩ (.slice a4 n4 c4)).alloc (.cells #[.int .i64 pg, .slice a4 n4 c4, .int .i64 pn, .bool dt, .int .i64 rl, .bool rf] 46)) w2.heap.size 46 [.int .i64 pg, .slice a4 n4 c4, .int .i64 pn, .bool dt, .int .i64 rl, .bool rf]) from by have h := Blk.newL (w2.setCell ⟨wr.heap.size, 1, none⟩ (.slice a4 n4 c4)) [.int .i64 pg, .slice a4 n4 c4, .int .i64 pn, .bool dt, .int .i64 rl, .bool rf] 46; rw [hs4] at h; exact h)
      have HKO := (show Hid (((w2.setCell ⟨wr.heap.size, 1, none⟩ (.slice a4 n4 c4)).alloc (.cells #[.int .i64 pg, .slice a4 n4 c4, .int .i64 pn, .bool dt, .int .i64 rl, .bool rf] 46)).ownsRow 0 46 6 (.slice aa na ca) k (kFrame.all qs)) from by have h := HOP4.out.row; rw [HQL.out] at h; exact h)
      obtain ⟨c0, c1', c2, c3, c4', c5⟩ := HB4.out.all6
      have fz := HB4.out.frozen
      obtain ⟨x0, x1⟩ := (HX.out.same HK4.out).all2
      have fx := (HX.out.same HK4.out).frozen
      go_wp2_with (at_builtin; go_loud (refine wpList_append_lies _ rfl (.tmp 26) (.tmp 28) 26 rfl 0 46 i0 _ 6 64 Try.underlying26 hi hz0 hz1 hz2 rfl (by omega) (.slice aa na ca) k (kFrame.all qs) rfl (by exact HKO.out) ⟨w2.heap.size, 0, none⟩ 1 1 [.int .i64 pg, .slice a4 n4 c4, .int .i64 pn, .bool dt, .int .i64 rl, .bool rf] rfl rfl (World.news_of_block (cs := #[.int .i64 pg, .slice a4 n4 c4, .int .i64 pn, .bool dt, .int .i64 rl, .bool rf]) (t := 46) (fr := (0, 0)) (by exact HN5.out)) (by simp [Value.oneCell']) (by omega) (by unfold maxLen; omega) (by omega) (Nat.zero_le _) (w2.heap.size + 1) (by simp [World.setCell]) ?_); intro g5 cap5 w3 hown5 hgrow5 hat5 hlt5; have HX6 := (show Hid (Blk w3 (w.heap.size + 1 + 1) 28 [.slice aa na ca, .int .i64 hand]) from HX5.out.kept (Kept.of_grown hgrow5 (fun k e => e)) (fun e => absurd (HFP.out _ (.inl e)) (by omega))); have HOWN5 := (show Hid (w3.ownsRow 0 46 6 (.slice (some ⟨g5, 0, none⟩) (k + 1) cap5) (k + 1) (kFrame.all qs ++ [.int .i64 pg, .slice a4 n4 c4, .int .i64 pn, .bool dt, .int .i64 rl, .bool rf])) from hown5); have HG5 := (show Hid (((w2.setCell ⟨wr.heap.size, 1, none⟩ (.slice a4 n4 c4)).alloc (.cells #[.int .i64 pg, .slice a4 n4 c4, .int .i64 pn, .bool dt, .int .i64 rl, .bool rf] 46)).grownBy w3 (Value.slice aa na ca).ownBlock) from hgrow5); have HAT5 : Hid ((Value.slice aa na ca).ownBlock = some g5 ∨ g5 = w2.heap.size + 1) := hat5; have z0 := HX6.out.all2.1; have fz3 := HX6.out.frozen; have lz3 := HX6.out.lt; clear hown5 hgrow5 hat5)
      have hsnoc := OwnR.snoc (K := kFrame) (⟨pg, .slice a4 n4 c4, fb, pn, dt, rl, rf⟩ : EFrame) HOP4.out HO5.out (fun b hb hf => by have h1 := HF4.out b hb; have h2 := (HOP.out.lt b hf).2; omega) HG5.out HOWN5.out HQL.out.symm (by rw [World.size_alloc, hs4]; exact HAT5.out)
      have HN : Hid (∀ b, footR kFrame (.slice (some ⟨g5, 0, none⟩) (k + 1) cap5) (qs ++ [(⟨pg, .slice a4 n4 c4, fb, pn, dt, rl, rf⟩ : EFrame)]) b → w.heap.size + 1 + 1 < b) := fun b hb => by
        rcases footR_snoc (v := .slice aa na ca) b hb with rfl | hb | hb
        · rcases HAT5.out with h | h
          · exact HFP.out _ (.inl h)
          · omega
        · exact HFP.out b hb
        · have := HF4.out b hb; omega
      have HO6 := (show Hid (OwnR kFrame 0 46 5 (w3.setCell ⟨w.heap.size + 1 + 1, 0, none⟩ (.slice (some ⟨g5, 0, none⟩) (k + 1) cap5)) (.slice (some ⟨g5, 0, none⟩) (k + 1) cap5) (qs ++ [(⟨pg, .slice a4 n4 c4, fb, pn, dt, rl, rf⟩ : EFrame)])) from
        hsnoc.kept (Kept.setCell (Kept.refl (fun b => b = w.heap.size + 1 + 1) w3) (p := ⟨w.heap.size + 1 + 1, 0, none⟩) (.inr rfl) _) (fun b hb e => by have := HN.out b hb; omega))
      have HX7 := (show Hid (Blk (w3.setCell ⟨w.heap.size + 1 + 1, 0, none⟩ (.slice (some ⟨g5, 0, none⟩) (k + 1) cap5)) (w.heap.size + 1 + 1) 28 [.slice (some ⟨g5, 0, none⟩) (k + 1) cap5, .int .i64 hand]) from HX6.out.stored 0 _)
      have hzb : wb.heap.size ≤ wr.heap.size := HKr.out.size
      have hk3 : Kept (fun b => b = w.heap.size + 1 + 1) wb w3 :=
        (((HKr.out.next HK4.out (fun i _ h => h.elim)).next HK24.out (fun i hi e => by omega)).alloc _).grown HG5.out (fun i e => .inl (by have := HFP.out i (.inl e); omega))
      have HK7 := (show Hid (Kept (fun b => b = w.heap.size + 1 + 1) wb (w3.setCell ⟨w.heap.size + 1 + 1, 0, none⟩ (.slice (some ⟨g5, 0, none⟩) (k + 1) cap5))) from Kept.setCell hk3 (p := ⟨w.heap.size + 1 + 1, 0, none⟩) (.inr rfl) _)
      clear hsnoc hk3
      go_roundw
      case rel =>
        refine ⟨k + 1, some ⟨g5, 0, none⟩, k + 1, cap5, qs ++ [(⟨pg, .slice a4 n4 c4, fb, pn, dt, rl, rf⟩ : EFrame)], by omega, by go_num, ?_, ?_, HX7, HN, HO6, HK7⟩
        · have := HQL.out; simp [Hid, this]
        · have h1 := HQ.out
          unfold Hid
          rw [List.take_succ_eq_append_getElem hlp, HPE.out]
          simp only [datFrameS, List.map_append] at h1 ⊢
          rw [h1]; rfl
      case measure => simp [intOf]; omega
    · obtain rfl : len = k := by omega
      obtain ⟨x0, x1⟩ := HX.out.all2
      have HBz := (show Hid (Blk wr (w.heap.size + 1) 28 [.slice none 0 0, .int .i64 0]) from HB1.out.kept HKr.out (by intro e; omega))
      obtain ⟨z0, z1⟩ := HBz.out.all2
      have fz := HBz.out.frozen
      have lz := HBz.out.lt
      have hxl : w.heap.size + 1 + 1 < wr.heap.size := HX.out.lt
      go_wp2
      have hq := HQ.out
      rw [← HL.out, List.take_length] at hq
      refine bodyPost_ret (v := .agg #[.slice aa na ca, .int .i64 hand]) (by simp [results, Try.results18, go_sem, z0, z1]) rfl ⟨aa, na, ca, qs, rfl, hq, fun b hb => by have := HFP.out b hb; omega, ?_, ?_⟩
      · refine HOP.out.kept (R := fun b => b = w.heap.size + 1) ?_ (fun b hb e => by have := HFP.out b hb; omega)
        (iterate 2 refine Kept.setCell (R := fun b => b = w.heap.size + 1) ?_ (.inr rfl) _)
        exact Kept.refl _ _
      · (iterate 2 refine Kept.setCell ?_ (.inl (Nat.le_succ _)) _)
        exact HKW.out
end Go.Proofs.Ytabmhcdldfehnab

namespace Go.Proofs.Ytabmhcdldfehnab
set_option maxRecDepth 100000
set_option maxHeartbeats 4000000
open Go.RowKit
set_option linter.unusedVariables false
set_option linter.unusedSimpArgs false
theorem frame_of {ps : List EFrame} {hand : Int} (h : poolF ps hand = 0) : ∀ p ∈ ps, (0 ≤ p.pins ∧ p.pins ≤ 2147483647) ∧ p.bs.length ≤ 4096 := by
  obtain ⟨h1, h2, h3, h4⟩ := poolF_len h
  unfold poolF at h
  rw [if_neg (by omega), if_neg (by omega)] at h
  have hb : ps.any bad3 = false := by
    cases hx : ps.any bad3 with
    | false => rfl
    | true => rw [hx] at h; simp at h
  intro p hp
  have hq : bad3 p = false := by
    cases hx : bad3 p with
    | false => rfl
    | true => rw [List.any_eq_true.2 ⟨p, hp, hx⟩] at hb; cases hb
  unfold bad3 at hq
  by_cases hm : p.page = -1
  · rw [if_pos hm] at hq
    simp at hq
    obtain ⟨⟨⟨⟨q1, q2⟩, q3⟩, q4⟩, q5⟩ := hq
    rw [q1, q2]
    exact ⟨by omega, by simp⟩
  · rw [if_neg hm] at hq
    simp [inB] at hq
    obtain ⟨⟨_, q2⟩, q3⟩ := hq
    exact ⟨by omega, by omega⟩
end Go.Proofs.Ytabmhcdldfehnab
