import Derived.Test.YtommabejmpafcaaG09
import Derived.Test.YtommabejmpafcaaG01
import Derived.Test.YtommabejmpafcaaG03
import Derived.Laws.AppendOwnNone
import Derived.Deep.AppendLies
namespace Go.Proofs.Ytommabejmpafcaa
set_option maxRecDepth 100000
set_option maxHeartbeats 4000000
open Go.RowKit
set_option linter.unusedVariables false
set_option linter.unusedSimpArgs false
theorem findB_lt {page : Int} {ps : List EFrame} (h : findB page ps ≠ -1) : ∃ j : Nat, findB page ps = (j : Int) ∧ j < ps.length := by
  unfold findB at h ⊢
  by_cases hp : isPageB page = false
  · rw [if_pos hp] at h; exact absurd rfl h
  rw [if_neg hp] at h ⊢
  by_cases h0 : findFrom page 0 ps < 0
  · exfalso
    have key : ∀ (qs : List EFrame) (k : Nat), findFrom page k qs = -1 ∨ 0 ≤ findFrom page k qs := fun qs => by
      induction qs with
      | nil => exact fun k => .inl rfl
      | cons q qs ih =>
        intro k
        by_cases hq : q.page = page
        · rw [show findFrom page k (q :: qs) = k from if_pos hq]; exact .inr (by omega)
        · rw [show findFrom page k (q :: qs) = findFrom page (k + 1) qs from if_neg hq]; exact ih (k + 1)
    rcases key ps 0 with h1 | h1
    · exact h h1
    · omega
  · obtain ⟨j, e, _, hj⟩ := findFrom_lt ps 0 h0
    exact ⟨j, e, by omega⟩
section
variable {w : World} {P : Nat} {hand : Int} {g n cap : Nat} {bl : List Nat} {ps : List EFrame}
end
theorem dat_set (ps : List EFrame) (k : Nat) (p : EFrame) : datFrameS (ps.set k p) = (datFrameS ps).set k p.dat := by unfold datFrameS; rw [List.map_set]
theorem dat_at {ps : List EFrame} {k : Nat} {p : EFrame} (h : ps[k]? = some p) : (datFrameS ps)[k]? = some p.dat := by unfold datFrameS; rw [List.getElem?_map, h]; rfl
end Go.Proofs.Ytommabejmpafcaa

namespace Go.Proofs.Ytommabejmpafcaa
set_option maxHeartbeats 400000
open Go.RowKit
theorem l1Copy_any (v : Value) (bs : List Int) (w : World) (hn : bs.length ≤ 1099511627776) (hv : Rd .u8 w v bs) :
    Calls Try.prog 72 #[v] w fun e w' => ∃ a n c, e = .returned (.slice a n c) ∧ Own 0 5 .u8 w' (.slice a n c) bs ∧ (∀ b, (Value.slice a n c).ownBlock = some b → w.heap.size ≤ b) ∧ Same w w' := by
  obtain ⟨i0, hi, hz0, hz1, hz2⟩ := info_parts Try.infoByte'
  rcases hv.2 with ⟨rfl, a, c, rfl, hac⟩ | ⟨b, off, c, rfl, _, hc⟩
  · cases a with
    | none =>
      obtain rfl : c = 0 := hac rfl
      clear hv hn hac
      go_enter Try.func72, Try.ntmps72
      go_wp2_with (at_builtin; refine wpList_append_own_none rfl (.tmp 3) (.tmp 4) 22 rfl w.heap.size 5 i0 1 Try.underlying22 hi _ 0 [] rfl (World.ownsRow_made w #[] 0 (Nat.le_refl _) (by simp) (by simp)) rfl ?_)
      go_ret
      exact ⟨_, _, _, rfl, (World.ownsRow_made w #[] 0 (Nat.zero_le _) (by simp) (by simp)), fun b hb => by simp [Value.ownBlock] at hb; omega, (Kept.refl _ _).alloc _⟩
    | some ad =>
      clear hv hn hac
      go_enter Try.func72, Try.ntmps72
      go_wp2_with (at_builtin; refine wpList_append_own _ rfl (.tmp 3) (.tmp 4) 22 rfl w.heap.size 5 i0 (.int .u8 0) 1 1 Try.underlying22 hi hz0 hz1 hz2 rfl (by decide) (.slice (some ⟨w.heap.size, 0, none⟩) 0 0) 0 [] rfl (World.ownsRow_made w #[] 0 (Nat.le_refl _) (by simp) (by simp)) ad 0 c [] rfl rfl (fun j u h => by simp at h) (fun u h => by simp at h) (by simp) (by simp) (by simp) ?_; intro v' w1 hown1 hgrow1 _; have HF := (show Hid (Own w.heap.size 5 .u8 w1 v' []) from hown1); have HK : Hid (Same w w1) := ((Kept.refl _ _).alloc _).grown hgrow1 (fun k e => .inl (by simp [Value.ownBlock] at e; omega)); obtain ⟨aa, na, ca, rfl⟩ := slice_of_own HF.out; clear hown1 hgrow1)
      go_ret
      exact ⟨_, _, _, rfl, HF.out.mono (fun b _ => Nat.zero_le b), fun b hb => (HF.out.lt b hb).1, HK.out⟩
  · have HC : Hid (∀ i, i < bs.length → (w.alloc (.cells #[] 5)).cell? ⟨b, off + i, none⟩ = some (.int .u8 (bs.getD i 0))) := fun i hi => ((Kept.refl (fun _ => False) w).alloc _).cellOf (hc i hi) id
    clear hv hc
    go_enter Try.func72, Try.ntmps72
    go_wp2_with (at_builtin; refine wpList_append_own _ rfl (.tmp 3) (.tmp 4) 22 rfl w.heap.size 5 i0 (.int .u8 0) 1 1 Try.underlying22 hi hz0 hz1 hz2 rfl (by decide) (.slice (some ⟨w.heap.size, 0, none⟩) 0 0) 0 [] rfl (World.ownsRow_made w #[] 0 (Nat.le_refl _) (by simp) (by simp)) ⟨b, off, none⟩ bs.length c (vals .u8 bs) rfl (by simp [vals_length]) (news_of HC.out) vals_one (by unfold maxLen; omega) (by omega) (by simp) ?_; intro v' w1 hown1 hgrow1 _; have HF := (show Hid (Own w.heap.size 5 .u8 w1 v' bs) from (by simpa [Own, Hid] using hown1)); have HK : Hid (Same w w1) := ((Kept.refl _ _).alloc _).grown hgrow1 (fun k e => .inl (by simp [Value.ownBlock] at e; omega)); obtain ⟨aa, na, ca, rfl⟩ := slice_of_own HF.out; clear hown1 hgrow1)
    go_ret
    exact ⟨_, _, _, rfl, HF.out.mono (fun b _ => Nat.zero_le b), fun b hb => (HF.out.lt b hb).1, HK.out⟩
end Go.Proofs.Ytommabejmpafcaa

namespace Go.Proofs.Ytommabejmpafcaa
set_option maxRecDepth 100000
set_option maxHeartbeats 4000000
open Go.RowKit
set_option linter.unusedVariables false
set_option linter.unusedSimpArgs false
theorem l7Copy_any (v : Value) (hand : Int) (ps : List EFrame) (w : World) (hn : ps.length ≤ 1073741824) (hs : ∀ p ∈ ps, p.bs.length ≤ 1099511627776) (hv : RdR kFrame w v ps) :
    Calls Try.prog 71 #[.agg #[v, .int .i64 hand]] w fun e w' => ∃ a n c qs, e = .returned (.agg #[.slice a n c, .int .i64 hand]) ∧ datFrameS qs = datFrameS ps ∧
      (∀ b, footR kFrame (.slice a n c) qs b → w.heap.size ≤ b) ∧ OwnR kFrame 0 36 5 w' (.slice a n c) qs ∧ Same w w' := by
  obtain ⟨a, c, rfl⟩ := hv.form
  obtain ⟨i0, hi, hz0, hz1, hz2⟩ := info_parts Try.infoRFrame
  have hmax := hv.max
  unfold maxLen at hmax
  have HV := (show Hid (RdR kFrame w (.slice a ps.length c) ps) from hv)
  have HS : Hid (∀ p ∈ ps, p.bs.length ≤ 1099511627776) := hs
  clear hv hs
  obtain ⟨len, hl⟩ : ∃ n, ps.length = n := ⟨_, rfl⟩
  have HL : Hid (ps.length = len) := hl
  rw [hl] at HV hmax hn ⊢
  clear hl
  have b0 := ((Blk.newL w [.slice a len c, .int .i64 hand] 25).same ((Kept.refl _ _).alloc (.cells #[.slice none 0 0, .int .i64 0] 25))).same ((Kept.refl _ _).alloc (.cells #[.slice none 0 0, .int .i64 hand] 25))
  have b1 := (Blk.newB w [.slice a len c, .int .i64 hand] 25 [.slice none 0 0, .int .i64 0] 25).same ((Kept.refl _ _).alloc (.cells #[.slice none 0 0, .int .i64 hand] 25))
  have b2 := Blk.newL ((w.alloc (.cells #[.slice a len c, .int .i64 hand] 25)).alloc (.cells #[.slice none 0 0, .int .i64 0] 25)) [.slice none 0 0, .int .i64 hand] 25
  simp only [World.size_alloc] at b1 b2
  have hkb : Same w (((w.alloc (.cells #[.slice a len c, .int .i64 hand] 25)).alloc (.cells #[.slice none 0 0, .int .i64 0] 25)).alloc (.cells #[.slice none 0 0, .int .i64 hand] 25)) := (((Kept.refl _ _).alloc _).alloc _).alloc _
  go_enter Try.func71, Try.ntmps71
  go_wp2_with fail
  obtain ⟨wb, hwb⟩ : ∃ x, x = (((w.alloc (.cells #[.slice a len c, .int .i64 hand] 25)).alloc (.cells #[.slice none 0 0, .int .i64 0] 25)).alloc (.cells #[.slice none 0 0, .int .i64 hand] 25)) := ⟨_, rfl⟩
  rw [← hwb]
  rw [← hwb] at b0 b1 b2 hkb
  have hzw : wb.heap.size = w.heap.size + 3 := by rw [hwb]; simp [World.size_alloc]
  clear hwb
  have HB0 := (show Hid (Blk wb w.heap.size 25 [.slice a len c, .int .i64 hand]) from b0)
  have HB1 := (show Hid (Blk wb (w.heap.size + 1) 25 [.slice none 0 0, .int .i64 0]) from b1)
  have HB2 := (show Hid (Blk wb (w.heap.size + 1 + 1) 25 [.slice none 0 0, .int .i64 hand]) from b2)
  have HKB := (show Hid (Same w wb) from hkb)
  clear b0 b1 b2 hkb
  go_loopw [4] (fun i wr => ∃ (k : Nat) (aa : Option Addr) (na ca : Nat) (qs : List EFrame), k ≤ len ∧ i = .int .i64 k ∧ Hid (qs.length = k) ∧ Hid (datFrameS qs = datFrameS (ps.take k)) ∧ Hid (Blk wr (w.heap.size + 1 + 1) 25 [.slice aa na ca, .int .i64 hand]) ∧
      Hid (∀ b, footR kFrame (.slice aa na ca) qs b → w.heap.size + 1 + 1 < b) ∧ Hid (OwnR kFrame 0 36 5 wr (.slice aa na ca) qs) ∧ Hid (Kept (fun b => b = w.heap.size + 1 + 1) wb wr)) (fun i _ => len - (intOf i).toNat)
  case atStart => exact ⟨0, none, 0, 0, [], Nat.zero_le _, rfl, rfl, rfl, HB2, fun b hb => absurd hb (footR_nil b), OwnR.nil _ _ _ _ _, Kept.refl _ _⟩
  case round =>
    obtain ⟨k, aa, na, ca, qs, hk, rfl, HQL, HQ, HX, HFP, HOP, HKr⟩ := hrel
    have HP := (show Hid (Blk wr w.heap.size 25 [.slice a len c, .int .i64 hand]) from HB0.out.kept HKr.out (by intro e; omega))
    obtain ⟨g0, g1⟩ := HP.out.all2
    have HKW := (show Hid (Same w wr) from HKB.out.next HKr.out (fun b hb e => by omega))
    by_cases hlt : k < len
    · have hlp : k < ps.length := by rw [HL.out]; exact hlt
      obtain ⟨b, off, rfl, hc⟩ : ∃ b off, a = some ⟨b, off, none⟩ ∧ ∀ j i, (h : j < ps.length) → i < 6 → w.cell? ⟨b, off + (j * 6 + i), none⟩ = (kFrame.cells ps[j])[i]? := by
        rcases HV.out.row with ⟨hps, _⟩ | ⟨b, off, c', he, hc⟩
        · rw [hps] at hlp; simp at hlp
        · injection he with he1 he2 he3
          exact ⟨b, off, he1, hc⟩
      obtain ⟨p, hp⟩ : ∃ p, ps[k] = p := ⟨_, rfl⟩
      have hrd : Rd .u8 w ps[k].v ps[k].bs := HV.out.data _ (List.getElem_mem hlp)
      have hm1 := HS.out _ (List.getElem_mem hlp)
      have hcc : ∀ i, i < 6 → wr.cell? ⟨b, off + (k * 6 + i), none⟩ = (kFrame.cells ps[k])[i]? := fun i hi => by
        have h := hc k i hlp hi
        have hlen : (kFrame.cells ps[k]).length = 6 := kFrame.len _
        rw [List.getElem?_eq_getElem (by omega)] at h ⊢
        exact HKW.out.cellOf h id
      rw [hp] at hrd hm1 hcc
      have HPE : Hid (ps[k] = p) := hp
      clear hp hc
      obtain ⟨pg, pv, fb, pn, dt, rl, rf⟩ := p
      dsimp only at hrd hm1
      obtain ⟨a1, c1, e1⟩ := hrd.form
      subst e1
      obtain ⟨n1, hn1⟩ : ∃ n, fb.length = n := ⟨_, rfl⟩
      have HN : Hid (fb.length = n1) := hn1
      rw [hn1] at hrd hcc
      have HRD := (show Hid (Rd .u8 w (.slice a1 n1 c1) fb) from hrd)
      have HM1 : Hid (fb.length ≤ 1099511627776) := hm1
      have d0 : wr.cell? ⟨b, off + k * 6, none⟩ = some (.int .i64 pg) := by have h := hcc 0 (by decide); exact h
      have d1 : wr.cell? ⟨b, off + k * 6 + 1, none⟩ = some (.slice a1 n1 c1) := by have h := hcc 1 (by decide); rw [← Nat.add_assoc] at h; exact h
      have d2 : wr.cell? ⟨b, off + k * 6 + 2, none⟩ = some (.int .i64 pn) := by have h := hcc 2 (by decide); rw [← Nat.add_assoc] at h; exact h
      have d3 : wr.cell? ⟨b, off + k * 6 + 3, none⟩ = some (.bool dt) := by have h := hcc 3 (by decide); rw [← Nat.add_assoc] at h; exact h
      have d4 : wr.cell? ⟨b, off + k * 6 + 4, none⟩ = some (.int .i64 rl) := by have h := hcc 4 (by decide); rw [← Nat.add_assoc] at h; exact h
      have d5 : wr.cell? ⟨b, off + k * 6 + 5, none⟩ = some (.bool rf) := by have h := hcc 5 (by decide); rw [← Nat.add_assoc] at h; exact h
      clear hcc hrd hm1 hn1
      have ba := Blk.newL wr [.int .i64 pg, .slice a1 n1 c1, .int .i64 pn, .bool dt, .int .i64 rl, .bool rf] 36
      have hki : (k : Int) < (len : Int) := by omega
      go_wp2_with fail
      refine (l1Copy_any _ fb _ HM1.out (HRD.out.same (HKW.out.trans ((Kept.refl _ _).alloc _)))).mono ?_
      rintro e w2 ⟨a4, n4, c4, rfl, ho4, hf4, hk4⟩
      have HB4 := (show Hid (Blk w2 wr.heap.size 36 [.int .i64 pg, .slice a1 n1 c1, .int .i64 pn, .bool dt, .int .i64 rl, .bool rf]) from ba.same hk4)
      have HK4 := (show Hid (Same wr w2) from ((Kept.refl _ _).alloc _).trans hk4)
      have HO4 := (show Hid (Own 0 5 .u8 w2 (.slice a4 n4 c4) fb) from ho4)
      have HF4 : Hid (∀ b, (Value.slice a4 n4 c4).ownBlock = some b → wr.heap.size < b) := fun b hb => by have h := hf4 b hb; rw [World.size_alloc] at h; omega
      clear ho4 hf4 hk4 ba d0 d1 d2 d3 d4 d5 g0 g1
      have hxl : w.heap.size + 1 + 1 < wr.heap.size := HX.out.lt
      have h2l : wr.heap.size < w2.heap.size := HB4.out.lt
      have hs4 : (w2.setCell ⟨wr.heap.size, 1, none⟩ (.slice a4 n4 c4)).heap.size = w2.heap.size := by simp [World.setCell]
      have HK24 := (show Hid (Kept (fun b => b = wr.heap.size) w2 (w2.setCell ⟨wr.heap.size, 1, none⟩ (.slice a4 n4 c4))) from Kept.setCell (R := fun b => b = wr.heap.size) (Kept.refl _ _) (p := ⟨wr.heap.size, 1, none⟩) (.inr rfl) _)
      have HOP4 := (show Hid (OwnR kFrame 0 36 5 ((w2.setCell ⟨wr.heap.size, 1, none⟩ (.slice a4 n4 c4)).alloc (.cells #[.int .i64 pg, .slice a4 n4 c4, .int .i64 pn, .bool dt, .int .i64 rl, .bool rf] 36)) (.slice aa na ca) qs) from ((HOP.out.same HK4.out).kept HK24.out (fun b hb e => by have := (HOP.out.lt b hb).2; omega)).same ((Kept.refl _ _).alloc _))
      have HO5 := (show Hid (Own 0 5 .u8 ((w2.setCell ⟨wr.heap.size, 1, none⟩ (.slice a4 n4 c4)).alloc (.cells #[.int .i64 pg, .slice a4 n4 c4, .int .i64 pn, .bool dt, .int .i64 rl, .bool rf] 36)) (.slice a4 n4 c4) fb) from (HO4.out.kept HK24.out (fun b hb e => by have := HF4.out b hb; omega)).same ((Kept.refl _ _).alloc _))
      have HX5 := (show Hid (Blk ((w2.setCell ⟨wr.heap.size, 1, none⟩ (.slice a4 n4 c4)).alloc (.cells #[.int .i64 pg, .slice a4 n4 c4, .int .i64 pn, .bool dt, .int .i64 rl, .bool rf] 36)) (w.heap.size + 1 + 1) 25 [.slice aa na ca, .int .i64 hand]) from ((HX.out.same HK4.out).kept HK24.out (by intro e; omega)).same ((Kept.refl _ _).alloc _))
      have HN5 := (show Hid (Blk ((w2.setCell ⟨wr.heap.size, 1, none⟩ (.slice a4 n4 c4)).alloc (.cells #[.int .i64 pg, .slice a4 n4 c4, .int .i64 pn, .bool dt, .int .i64 rl, .bool rf] 36)) w2.heap.size 36 [.int .i64 pg, .slice a4 n4 c4, .int .i64 pn, .bool dt, .int .i64 rl, .bool rf]) from by have h := Blk.newL (w2.setCell ⟨wr.heap.size, 1, none⟩ (.slice a4 n4 c4)) [.int .i64 pg, .slice a4 n4 c4, .int .i64 pn, .bool dt, .int .i64 rl, .bool rf] 36; rw [hs4] at h; exact h)
      have HKO := (show Hid (((w2.setCell ⟨wr.heap.size, 1, none⟩ (.slice a4 n4 c4)).alloc (.cells #[.int .i64 pg, .slice a4 n4 c4, .int .i64 pn, .bool dt, .int .i64 rl, .bool rf] 36)).ownsRow 0 36 6 (.slice aa na ca) k (kFrame.all qs)) from by have h := HOP4.out.row; rw [HQL.out] at h; exact h)
      obtain ⟨c0, c1', c2, c3, c4', c5⟩ := HB4.out.all6
      have fz := HB4.out.frozen
      obtain ⟨x0, x1⟩ := (HX.out.same HK4.out).all2
      have fx := (HX.out.same HK4.out).frozen
      go_wp2_with (at_builtin; go_loud (refine wpList_append_lies _ rfl (.tmp 26) (.tmp 28) 23 rfl 0 36 i0 _ 6 64 Try.underlying23 hi hz0 hz1 hz2 rfl (by omega) (.slice aa na ca) k (kFrame.all qs) rfl (by exact HKO.out) ⟨w2.heap.size, 0, none⟩ 1 1 [.int .i64 pg, .slice a4 n4 c4, .int .i64 pn, .bool dt, .int .i64 rl, .bool rf] rfl rfl (World.news_of_block (cs := #[.int .i64 pg, .slice a4 n4 c4, .int .i64 pn, .bool dt, .int .i64 rl, .bool rf]) (t := 36) (fr := (0, 0)) (by exact HN5.out)) (by simp [Value.oneCell']) (by omega) (by unfold maxLen; omega) (by omega) (Nat.zero_le _) (w2.heap.size + 1) (by simp [World.setCell]) ?_); intro g5 cap5 w3 hown5 hgrow5 hat5 hlt5; have HX6 := (show Hid (Blk w3 (w.heap.size + 1 + 1) 25 [.slice aa na ca, .int .i64 hand]) from HX5.out.kept (Kept.of_grown hgrow5 (fun k e => e)) (fun e => absurd (HFP.out _ (.inl e)) (by omega))); have HOWN5 := (show Hid (w3.ownsRow 0 36 6 (.slice (some ⟨g5, 0, none⟩) (k + 1) cap5) (k + 1) (kFrame.all qs ++ [.int .i64 pg, .slice a4 n4 c4, .int .i64 pn, .bool dt, .int .i64 rl, .bool rf])) from hown5); have HG5 := (show Hid (((w2.setCell ⟨wr.heap.size, 1, none⟩ (.slice a4 n4 c4)).alloc (.cells #[.int .i64 pg, .slice a4 n4 c4, .int .i64 pn, .bool dt, .int .i64 rl, .bool rf] 36)).grownBy w3 (Value.slice aa na ca).ownBlock) from hgrow5); have HAT5 : Hid ((Value.slice aa na ca).ownBlock = some g5 ∨ g5 = w2.heap.size + 1) := hat5; have z0 := HX6.out.all2.1; have fz3 := HX6.out.frozen; have lz3 := HX6.out.lt; clear hown5 hgrow5 hat5)
      have hsnoc := OwnR.snoc (K := kFrame) (⟨pg, .slice a4 n4 c4, fb, pn, dt, rl, rf⟩ : EFrame) HOP4.out HO5.out (fun b hb hf => by have h1 := HF4.out b hb; have h2 := (HOP.out.lt b hf).2; omega) HG5.out HOWN5.out HQL.out.symm (by rw [World.size_alloc, hs4]; exact HAT5.out)
      have HN : Hid (∀ b, footR kFrame (.slice (some ⟨g5, 0, none⟩) (k + 1) cap5) (qs ++ [(⟨pg, .slice a4 n4 c4, fb, pn, dt, rl, rf⟩ : EFrame)]) b → w.heap.size + 1 + 1 < b) := fun b hb => by
        rcases footR_snoc (v := .slice aa na ca) b hb with rfl | hb | hb
        · rcases HAT5.out with h | h
          · exact HFP.out _ (.inl h)
          · omega
        · exact HFP.out b hb
        · have := HF4.out b hb; omega
      have HO6 := (show Hid (OwnR kFrame 0 36 5 (w3.setCell ⟨w.heap.size + 1 + 1, 0, none⟩ (.slice (some ⟨g5, 0, none⟩) (k + 1) cap5)) (.slice (some ⟨g5, 0, none⟩) (k + 1) cap5) (qs ++ [(⟨pg, .slice a4 n4 c4, fb, pn, dt, rl, rf⟩ : EFrame)])) from
        hsnoc.kept (Kept.setCell (Kept.refl (fun b => b = w.heap.size + 1 + 1) w3) (p := ⟨w.heap.size + 1 + 1, 0, none⟩) (.inr rfl) _) (fun b hb e => by have := HN.out b hb; omega))
      have HX7 := (show Hid (Blk (w3.setCell ⟨w.heap.size + 1 + 1, 0, none⟩ (.slice (some ⟨g5, 0, none⟩) (k + 1) cap5)) (w.heap.size + 1 + 1) 25 [.slice (some ⟨g5, 0, none⟩) (k + 1) cap5, .int .i64 hand]) from HX6.out.stored 0 _)
      have hzb : wb.heap.size ≤ wr.heap.size := HKr.out.size
      have hk3 : Kept (fun b => b = w.heap.size + 1 + 1) wb w3 :=
        (((HKr.out.next HK4.out (fun i _ h => h.elim)).next HK24.out (fun i hi e => by omega)).alloc _).grown HG5.out (fun i e => .inl (by have := HFP.out i (.inl e); omega))
      have HK7 := (show Hid (Kept (fun b => b = w.heap.size + 1 + 1) wb (w3.setCell ⟨w.heap.size + 1 + 1, 0, none⟩ (.slice (some ⟨g5, 0, none⟩) (k + 1) cap5))) from Kept.setCell hk3 (p := ⟨w.heap.size + 1 + 1, 0, none⟩) (.inr rfl) _)
      clear hsnoc hk3
      go_roundw
      case rel =>
        refine ⟨k + 1, some ⟨g5, 0, none⟩, k + 1, cap5, qs ++ [(⟨pg, .slice a4 n4 c4, fb, pn, dt, rl, rf⟩ : EFrame)], by omega, by go_num, ?_, ?_, HX7, HN, HO6, HK7⟩
        · have := HQL.out; simp [Hid, this]
        · have h1 := HQ.out
          unfold Hid
          rw [List.take_succ_eq_append_getElem hlp, HPE.out]
          simp only [datFrameS, List.map_append] at h1 ⊢
          rw [h1]; rfl
      case measure => simp [intOf]; omega
    · obtain rfl : len = k := by omega
      obtain ⟨x0, x1⟩ := HX.out.all2
      have HBz := (show Hid (Blk wr (w.heap.size + 1) 25 [.slice none 0 0, .int .i64 0]) from HB1.out.kept HKr.out (by intro e; omega))
      obtain ⟨z0, z1⟩ := HBz.out.all2
      have fz := HBz.out.frozen
      have lz := HBz.out.lt
      have hxl : w.heap.size + 1 + 1 < wr.heap.size := HX.out.lt
      go_wp2
      have hq := HQ.out
      rw [← HL.out, List.take_length] at hq
      refine bodyPost_ret (v := .agg #[.slice aa na ca, .int .i64 hand]) (by simp [results, Try.results71, go_sem, z0, z1]) rfl ⟨aa, na, ca, qs, rfl, hq, fun b hb => by have := HFP.out b hb; omega, ?_, ?_⟩
      · refine HOP.out.kept (R := fun b => b = w.heap.size + 1) ?_ (fun b hb e => by have := HFP.out b hb; omega)
        (iterate 2 refine Kept.setCell (R := fun b => b = w.heap.size + 1) ?_ (.inr rfl) _)
        exact Kept.refl _ _
      · (iterate 2 refine Kept.setCell ?_ (.inl (Nat.le_succ _)) _)
        exact HKW.out
end Go.Proofs.Ytommabejmpafcaa

namespace Go.Proofs.Ytommabejmpafcaa
set_option maxRecDepth 100000
set_option maxHeartbeats 4000000
open Go.RowKit
set_option linter.unusedVariables false
set_option linter.unusedSimpArgs false
theorem frame_of {ps : List EFrame} {hand : Int} (h : poolF ps hand = 0) : ∀ p ∈ ps, (0 ≤ p.pins ∧ p.pins ≤ 2147483647) ∧ p.bs.length ≤ 4096 := by
  obtain ⟨h1, h2, h3, h4⟩ := poolF_len h
  unfold poolF at h
  rw [if_neg (by omega), if_neg (by omega)] at h
  have hb : ps.any bad3 = false := by
    cases hx : ps.any bad3 with
    | false => rfl
    | true => rw [hx] at h; simp at h
  intro p hp
  have hq : bad3 p = false := by
    cases hx : bad3 p with
    | false => rfl
    | true => rw [List.any_eq_true.2 ⟨p, hp, hx⟩] at hb; cases hb
  unfold bad3 at hq
  by_cases hm : p.page = -1
  · rw [if_pos hm] at hq
    simp at hq
    obtain ⟨⟨⟨⟨q1, q2⟩, q3⟩, q4⟩, q5⟩ := hq
    rw [q1, q2]
    exact ⟨by omega, by simp⟩
  · rw [if_neg hm] at hq
    simp [inB] at hq
    obtain ⟨⟨_, q2⟩, q3⟩ := hq
    exact ⟨by omega, by omega⟩
end Go.Proofs.Ytommabejmpafcaa

namespace Go.Proofs.Ytommabejmpafcaa
set_option maxRecDepth 100000
set_option maxHeartbeats 4000000
open Go.RowKit
set_option linter.unusedVariables false
set_option linter.unusedSimpArgs false
def Turns (fid : FuncId) (xs : Array Value) (hand : Int) (ps : List EFrame) (T : Int × Int × List (Int × List Int × Int × Bool × Int × Bool)) (w : World) : Prop :=
  ∀ (wx : World) (P g n cap : Nat) (bl : List Nat) (qs : List EFrame), FP wx P hand g n cap bl qs → n ≤ 16 → datFrameS qs = datFrameS ps → poolF ps hand = 0 → Same w wx → (∀ b, footFP P g bl qs b → w.heap.size ≤ b) →
    Calls Try.prog fid (#[.pointer (some ⟨P, 0, none⟩)] ++ xs) wx fun e w' => ∃ fr cd bl' qs', e = .returned (.tuple #[.int .i64 fr, .int .i64 cd]) ∧ FP w' P hand g n cap bl' qs' ∧ (cd, fr, datFrameS qs') = T ∧ (∀ b, footS kFrame bl' qs' b → footS kFrame bl qs b ∨ wx.heap.size ≤ b) ∧ Kept (footFP P g bl qs) wx w'
def turnP (T : Int × Int × List (Int × List Int × Int × Bool × Int × Bool)) (ps : List EFrame) (hand : Int) : Int × Int × Int × List (Int × List Int × Int × Bool × Int × Bool) :=
  if poolF ps hand ≠ 0 then (1, 0, 0, []) else if T.1 ≠ 0 then (T.1, 0, 0, []) else (0, T.2.1, hand, T.2.2)
theorem turned_any (fid : FuncId) (xs : Array Value) (v : Value) (hand : Int) (ps : List EFrame) (T : Int × Int × List (Int × List Int × Int × Bool × Int × Bool)) (w : World) (hv : RdR kFrame w v ps) (hent : Enters fid) (hT : Turns fid xs hand ps T w) :
    Calls Try.prog 54 #[.agg #[v, .int .i64 hand], .func (.func fid) #[] xs] w fun e w' => ∃ cd fr a n c hd qs, e = .returned (.agg #[.int .i64 cd, .int .i64 fr, .slice a n c, .int .i64 hd]) ∧ (cd, fr, hd, datFrameS qs) = turnP T ps hand ∧ (∀ b, footR kFrame (.slice a n c) qs b → w.heap.size ≤ b) ∧ OwnR kFrame 0 36 5 w' (.slice a n c) qs ∧ Same w w' := by
  obtain ⟨a, c, rfl⟩ := hv.form
  have hk0 : Same w ((w.alloc (.cells #[.slice a ps.length c, .int .i64 hand] 25)).alloc (.cells #[.int .i64 0, .int .i64 0, .slice none 0 0, .int .i64 0] 33)) := ((Kept.refl _ _).alloc _).alloc _
  have b0 := Blk.newA w [.slice a ps.length c, .int .i64 hand] 25 [.int .i64 0, .int .i64 0, .slice none 0 0, .int .i64 0] 33
  have b1 := Blk.newB w [.slice a ps.length c, .int .i64 hand] 25 [.int .i64 0, .int .i64 0, .slice none 0 0, .int .i64 0] 33
  have k0 := implPoolFault_any (.slice a ps.length c) hand ps _ (hv.same hk0)
  have HV := (show Hid (RdR kFrame w (.slice a ps.length c) ps) from hv)
  have HT := (show Hid (Turns fid xs hand ps T w) from hT)
  have hent' : ∀ (args : Array Value) (wx : World), (callFunc fid args).run Try.prog wx = .ok (.enter fid args) wx := hent
  clear hv hT hent
  obtain ⟨R, hR⟩ : ∃ R, turnP T ps hand = R := ⟨_, rfl⟩
  rw [hR]
  unfold turnP at hR
  obtain ⟨q, hq⟩ : ∃ q, poolF ps hand = q := ⟨_, rfl⟩
  have HQ : Hid (poolF ps hand = q) := hq
  rw [hq] at hR k0
  go_enter Try.func54, Try.ntmps54
  go_wp2_with fail
  refine k0.mono ?_
  rintro e w1 ⟨rfl, hk1⟩
  have HK1 := (show Hid (Same w w1) from hk0.trans hk1)
  have HB0 := (show Hid (Blk w1 w.heap.size 25 [.slice a ps.length c, .int .i64 hand]) from b0.same hk1)
  have HB1 := (show Hid (Blk w1 (w.heap.size + 1) 33 [.int .i64 0, .int .i64 0, .slice none 0 0, .int .i64 0]) from b1.same hk1)
  clear hk0 hk1 b0 b1 k0
  obtain ⟨g0, g1⟩ := HB0.out.all2
  obtain ⟨z0, z1, z2, z3⟩ := HB1.out.all4
  have fz := HB1.out.frozen
  have lz := HB1.out.lt
  by_cases h0 : q = 0
  · subst h0
    rw [if_neg (by simp)] at hR
    obtain ⟨hl1, hl16, _, _⟩ := poolF_len hq
    have hfr := frame_of hq
    have HM : Hid (∀ p ∈ ps, p.bs.length ≤ 1099511627776) := fun p hp => Nat.le_trans (hfr p hp).2 (by omega)
    clear hfr hq
    go_wp2_with fail
    refine (openPool_any (.slice a ps.length c) hand ps _ (HV.out.same HK1.out) hl1 hl16 HM.out).mono ?_
    rintro e w2 ⟨P, g, n, cap, bl, qs, rfl, hd2, hf2, hn2, hk2⟩
    have hn : n ≤ 16 := by rw [hf2.len, dat_len hd2]; exact hl16
    have HF2 := (show Hid (FP w2 P hand g n cap bl qs) from hf2)
    have HD2 : Hid (datFrameS qs = datFrameS ps) := hd2
    have HN2 : Hid (∀ b, footFP P g bl qs b → w1.heap.size ≤ b) := hn2
    have HK2 := (show Hid (Same w w2) from HK1.out.trans hk2)
    have HB12 := (show Hid (Blk w2 (w.heap.size + 1) 33 [.int .i64 0, .int .i64 0, .slice none 0 0, .int .i64 0]) from HB1.out.same hk2)
    have hz2 : w1.heap.size ≤ w2.heap.size := hk2.size
    have kt := HT.out w2 P g n cap bl qs hf2 hn hd2 HQ.out HK2.out (fun b hb => by have := hn2 b hb; omega)
    clear hd2 hf2 hn2 hk2 g0 g1 z0 z1 z2 z3 fz hl1 hl16
    go_wp2_with fail
    refine kt.mono ?_
    rintro e w3 ⟨fr, cd, bl', qs', rfl, hf3, ht3, hn3, hk3⟩
    have HT3 : Hid ((cd, fr, datFrameS qs') = T) := ht3
    have HF3 := (show Hid (FP w3 P hand g n cap bl' qs') from hf3)
    have HN3 : Hid (∀ b, footS kFrame bl' qs' b → w1.heap.size ≤ b) := fun b hb => by
      rcases hn3 b hb with h | h
      · exact HN2.out b (.inr (.inr h))
      · omega
    have HK3 := (show Hid (Same w w3) from HK2.out.next hk3 (fun i hi e => by have := HN2.out i e; omega))
    have HB13 := (show Hid (Blk w3 (w.heap.size + 1) 33 [.int .i64 0, .int .i64 0, .slice none 0 0, .int .i64 0]) from HB12.out.kept hk3 (fun e => by have := HN2.out _ e; omega))
    rw [← ht3] at hR
    dsimp only at hR
    clear kt hf3 ht3 hn3 hk3
    obtain ⟨z0, z1, z2, z3⟩ := HB13.out.all4
    have fz := HB13.out.frozen
    have lz3 := HB13.out.lt
    by_cases h3 : cd = 0
    · subst h3
      rw [if_neg (by simp)] at hR
      have HR := hid hR
      go_wp2_with fail
      refine (pool_any P hand g n cap bl' qs' _ HF3.out hn).mono ?_
      rintro e w4 ⟨a4, m4, c4, rfl, ho4, hf4, hk4⟩
      have HO4 := (show Hid (OwnR kFrame 0 36 5 w4 (.slice a4 m4 c4) qs') from ho4)
      have HF4 : Hid (∀ b, footR kFrame (.slice a4 m4 c4) qs' b → w1.heap.size ≤ b) := fun b hb => by
        rcases hf4 b hb with h | h
        · have h1 := HB13.out.lt
          have h2 := HF3.out.lt P (.inl rfl)
          have h3 := HN2.out P (.inl rfl)
          omega
        · exact HN3.out b h
      have HK4 := (show Hid (Same w w4) from HK3.out.trans hk4)
      have HB14 := (show Hid (Blk w4 (w.heap.size + 1) 33 [.int .i64 0, .int .i64 0, .slice none 0 0, .int .i64 0]) from HB13.out.same hk4)
      clear ho4 hf4 hk4 z0 z1 z2 z3 fz
      obtain ⟨z0, z1, z2, z3⟩ := HB14.out.all4
      have fz := HB14.out.frozen
      have lz4 := HB14.out.lt
      go_wp2
      refine bodyPost_ret (v := .agg #[.int .i64 0, .int .i64 fr, .slice a4 m4 c4, .int .i64 hand]) (by simp [results, Try.results54, go_sem, z0, z1, z2, z3]) rfl ⟨0, fr, a4, m4, c4, hand, qs', rfl, HR.out, fun b hb => by have := HF4.out b hb; omega, HO4.out.kept (R := fun b => b = w.heap.size + 1) ?_ (fun b hb e => by have := HF4.out b hb; omega), ?_⟩
      · (iterate 4 refine Kept.setCell (R := fun b => b = w.heap.size + 1) ?_ (.inr rfl) _)
        exact Kept.refl _ _
      · (iterate 4 refine Kept.setCell ?_ (.inl (Nat.le_succ _)) _)
        exact HK4.out
    · rw [if_pos h3] at hR
      have HR := hid hR
      go_wp2
      refine bodyPost_ret (v := .agg #[.int .i64 cd, .int .i64 0, .slice none 0 0, .int .i64 0]) (by simp [results, Try.results54, go_sem, z0, z1, z2, z3]) rfl ⟨cd, 0, none, 0, 0, 0, [], rfl, ?_, fun b hb => absurd hb (footR_nil b), OwnR.nil _ _ _ _ _, ?_⟩
      · rw [← HR.out]; rfl
      · (iterate 4 refine Kept.setCell ?_ (.inl (Nat.le_succ _)) _)
        exact HK3.out
  · rw [if_pos h0] at hR
    have HR := hid hR
    go_wp2
    refine bodyPost_ret (v := .agg #[.int .i64 1, .int .i64 0, .slice none 0 0, .int .i64 0]) (by simp [results, Try.results54, go_sem, z0, z1, z2, z3]) rfl ⟨1, 0, none, 0, 0, 0, [], rfl, ?_, fun b hb => absurd hb (footR_nil b), OwnR.nil _ _ _ _ _, ?_⟩
    · rw [← HR.out]; rfl
    · (iterate 4 refine Kept.setCell ?_ (.inl (Nat.le_succ _)) _)
      exact HK1.out
end Go.Proofs.Ytommabejmpafcaa

namespace Go.Proofs.Ytommabejmpafcaa
open Go.RowKit
set_option linter.unusedVariables false
set_option linter.unusedSimpArgs false
theorem findB_dat {page : Int} {ps qs : List EFrame} (h : datFrameS qs = datFrameS ps) : findB page qs = findB page ps := by
  unfold findB
  rw [findFrom_dat h]
end Go.Proofs.Ytommabejmpafcaa

namespace Go.Proofs.Ytommabejmpafcaa
set_option maxRecDepth 100000
set_option maxHeartbeats 8000000
open Go.RowKit
set_option linter.unusedVariables false
set_option linter.unusedSimpArgs false
section
variable {w : World} {P : Nat} {hand : Int} {g n cap : Nat} {bl : List Nat} {ps : List EFrame}
theorem footS_swap {k b' : Nat} {p' : EFrame} (x : Nat) (hf : footS kFrame (bl.set k b') (ps.set k p') x) : footS kFrame bl ps x ∨ x = b' ∨ p'.v.ownBlock = some x := by
  rcases hf with hf | ⟨q, hq, hf⟩
  · rcases List.mem_or_eq_of_mem_set hf with hf | rfl
    · exact .inl (.inl hf)
    · exact .inr (.inl rfl)
  · rcases List.mem_or_eq_of_mem_set hq with hq | rfl
    · exact .inl (.inr ⟨q, hq, hf⟩)
    · exact .inr (.inr hf)
theorem FP.swap {k b b' : Nat} {p' : EFrame} (h : FP w P hand g n cap bl ps) (hb : bl[k]? = some b) (hb' : Blk w b' 36 (kFrame.cells p')) (hu : Own 0 5 .u8 w p'.v p'.bs) (hf : ¬ footFP P g bl ps b') (hx : ∀ x, p'.v.ownBlock = some x → ¬ footFP P g bl ps x ∧ x ≠ b') :
    FP (w.setCell ⟨g, k, none⟩ (.pointer (some ⟨b', 0, none⟩))) P hand g n cap (bl.set k b') (ps.set k p') := by
  have hk : Kept (fun x => x = g) w (w.setCell ⟨g, k, none⟩ (.pointer (some ⟨b', 0, none⟩))) := Kept.setCell (R := fun x => x = g) (Kept.refl _ _) (p := ⟨g, k, none⟩) (.inr rfl) _
  have hout : ∀ x, (x = P ∨ x = g) → ¬ footS kFrame (bl.set k b') (ps.set k p') x := fun x hx' hs => by
    rcases footS_swap x hs with hs | rfl | hs
    · rcases hx' with rfl | rfl
      · exact h.outP hs
      · exact h.outg hs
    · exact hf (by rcases hx' with rfl | rfl
                   · exact .inl rfl
                   · exact .inr (.inl rfl))
    · exact (hx x hs).1 (by rcases hx' with rfl | rfl
                            · exact .inl rfl
                            · exact .inr (.inl rfl))
  refine ⟨h.top.kept hk h.pg, by rw [List.length_set]; exact h.len, ?_, ?_, h.pg, hout P (.inl rfl), hout g (.inr rfl)⟩
  · have hs := (World.ownsRow.stored h.row k (.pointer (some ⟨b', 0, none⟩))).1
    rw [List.map_set]
    exact hs
  · exact (h.ptr.swap hb hb' hu (fun e => hf (.inr (.inr e))) (fun x hx' => ⟨fun e => (hx x hx').1 (.inr (.inr e)), (hx x hx').2⟩)).kept hk (fun x hs e => hout x (.inr e) hs)
end
def loadT (frame page : Int) (bs : List Int) (ps : List EFrame) : Int × Int × List (Int × List Int × Int × Bool × Int × Bool) :=
  if frame < 0 ∨ (ps.length : Int) ≤ frame then (2, 0, datFrameS ps) else
  match (datFrameS ps)[frame.toNat]? with
  | none => (0, 0, [])
  | some d => if 0 < d.2.2.1 ∨ d.2.2.2.1 = true then (2, 0, datFrameS ps) else
    if isPageB page = false ∨ bs.length ≠ 4096 then (3, 0, datFrameS ps) else
    if findB page ps ≠ -1 ∧ findB page ps ≠ frame then (4, 0, datFrameS ps) else
    (0, frame, (datFrameS ps).set frame.toNat (page, bs, 0, false, 0, true))
theorem loadT_dat {frame page : Int} {bs : List Int} {ps qs : List EFrame} (h : datFrameS qs = datFrameS ps) : loadT frame page bs qs = loadT frame page bs ps := by
  unfold loadT
  rw [findB_dat h, h, dat_len h]
theorem loadM_any (frame page : Int) (u : Value) (bs : List Int) (P : Nat) (hand : Int) (g n cap : Nat) (bl : List Nat) (ps : List EFrame) (w : World) (h : FP w P hand g n cap bl ps) (hn : n ≤ 16) (hbl : bs.length ≤ 1099511627776) (hu : Rd .u8 w u bs) :
    Calls Try.prog 56 #[.pointer (some ⟨P, 0, none⟩), .int .i64 frame, .int .i64 page, u] w fun e w' => ∃ fr cd bl' qs', e = .returned (.tuple #[.int .i64 fr, .int .i64 cd]) ∧ FP w' P hand g n cap bl' qs' ∧ (cd, fr, datFrameS qs') = loadT frame page bs ps ∧ (∀ b, footS kFrame bl' qs' b → footS kFrame bl ps b ∨ w.heap.size ≤ b) ∧ Kept (footFP P g bl ps) w w' := by
  have k0 := find_any page P hand g n cap bl ps w h hn
  have kp := isPage_eq page
  have HF := (show Hid (FP w P hand g n cap bl ps) from h)
  obtain ⟨au, cu, rfl⟩ := hu.form
  have HU := (show Hid (Rd .u8 w (.slice au bs.length cu) bs) from hu)
  have HBL := hid hbl
  obtain ⟨x0, x1⟩ := h.top.all2
  have hlen := h.len
  have HLN : Hid (n = ps.length) := hlen
  clear hu hbl
  have HFAIL : Hid (∀ (cd : Int) (w1 : World), Same w w1 → loadT frame page bs ps = (cd, 0, datFrameS ps) → FP w1 P hand g n cap bl ps ∧ (cd, 0, datFrameS ps) = loadT frame page bs ps ∧ (∀ b, footS kFrame bl ps b → footS kFrame bl ps b ∨ w.heap.size ≤ b) ∧ Kept (footFP P g bl ps) w w1) := fun cd w1 hk e =>
    ⟨HF.out.same hk, by rw [e], fun b hb => .inl hb, hk.mono (fun _ _ e => e.elim)⟩
  by_cases h1 : frame < 0
  · have HT := (show Hid (loadT frame page bs ps = (2, 0, datFrameS ps)) from if_pos (.inl h1))
    clear h hlen
    go_enter Try.func56, Try.ntmps56
    go_wp2
    go_ret2
    first | exact ⟨0, 2, bl, ps, rfl, HFAIL.out 2 _ (Kept.refl _ _) HT.out⟩ | exact ⟨0, 2, rfl, bl, ps, HFAIL.out 2 _ (Kept.refl _ _) HT.out⟩
  by_cases h2 : (n : Int) ≤ frame
  · have HT := (show Hid (loadT frame page bs ps = (2, 0, datFrameS ps)) from if_pos (.inr (by rw [← hlen]; exact h2)))
    clear h hlen
    go_enter Try.func56, Try.ntmps56
    go_wp2
    go_ret2
    first | exact ⟨0, 2, bl, ps, rfl, HFAIL.out 2 _ (Kept.refl _ _) HT.out⟩ | exact ⟨0, 2, rfl, bl, ps, HFAIL.out 2 _ (Kept.refl _ _) HT.out⟩
  obtain ⟨k, rfl⟩ : ∃ k : Nat, frame = (k : Int) := ⟨frame.toNat, by omega⟩
  have hkn : k < n := by omega
  have hkl : k < ps.length := by omega
  obtain ⟨bk, p, hbk, hpk, hck, hb⟩ := h.at k hkn
  have hdat := h.ptr.data p (List.mem_of_getElem? hpk)
  have HBK : Hid (bl[k]? = some bk) := hbk
  have HPK : Hid (ps[k]? = some p) := hpk
  obtain ⟨pg, pv, fb, pn, dt, rl, rf⟩ := p
  obtain ⟨a1, n1, c1, e1⟩ := slice_of_own (show Own 0 5 .u8 w pv fb from hdat)
  subst e1
  have HB := (show Hid (Blk w bk 36 [.int .i64 pg, .slice a1 n1 c1, .int .i64 pn, .bool dt, .int .i64 rl, .bool rf]) from hb)
  have HT : Hid (loadT (k : Int) page bs ps = if 0 < pn ∨ dt = true then (2, 0, datFrameS ps) else
    if isPageB page = false ∨ bs.length ≠ 4096 then (3, 0, datFrameS ps) else
    if findB page ps ≠ -1 ∧ findB page ps ≠ (k : Int) then (4, 0, datFrameS ps) else
    (0, (k : Int), (datFrameS ps).set k (page, bs, 0, false, 0, true))) := by
    unfold loadT Hid
    rw [if_neg (by omega), Int.toNat_natCast, dat_at HPK.out]
    rfl
  obtain ⟨c0, c1', c2, c3, c4, c5⟩ := HB.out.all6
  have hki : (k : Int) < (n : Int) := by omega
  have HFL : Hid (∀ x, footFP P g bl ps x → x < w.heap.size) := fun x hx => HF.out.lt x hx
  have hPl : P < w.heap.size := HF.out.lt P (.inl rfl)
  have hgl : g < w.heap.size := HF.out.lt g (.inr (.inl rfl))
  have hPg := h.pg
  clear hb hdat hbk hpk h hlen
  by_cases h3 : 0 < pn
  · have HT1 := (show Hid (loadT (k : Int) page bs ps = (2, 0, datFrameS ps)) from HT.out.trans (if_pos (.inl h3)))
    go_enter Try.func56, Try.ntmps56
    go_wp2
    go_ret2
    first | exact ⟨0, 2, bl, ps, rfl, HFAIL.out 2 _ (Kept.refl _ _) HT1.out⟩ | exact ⟨0, 2, rfl, bl, ps, HFAIL.out 2 _ (Kept.refl _ _) HT1.out⟩
  cases dt with
  | true =>
    have HT1 := (show Hid (loadT (k : Int) page bs ps = (2, 0, datFrameS ps)) from HT.out.trans (if_pos (.inr rfl)))
    go_enter Try.func56, Try.ntmps56
    go_wp2
    go_ret2
    first | exact ⟨0, 2, bl, ps, rfl, HFAIL.out 2 _ (Kept.refl _ _) HT1.out⟩ | exact ⟨0, 2, rfl, bl, ps, HFAIL.out 2 _ (Kept.refl _ _) HT1.out⟩
  | false =>
    have HT1 := (show Hid (loadT (k : Int) page bs ps = if isPageB page = false ∨ bs.length ≠ 4096 then (3, 0, datFrameS ps) else
      if findB page ps ≠ -1 ∧ findB page ps ≠ (k : Int) then (4, 0, datFrameS ps) else
      (0, (k : Int), (datFrameS ps).set k (page, bs, 0, false, 0, true))) from HT.out.trans (if_neg (by simp; omega)))
    clear HT
    obtain ⟨nb, hnb⟩ : ∃ x, bs.length = x := ⟨_, rfl⟩
    rw [hnb] at HT1 HU ⊢
    have HBL2 : Hid (bs.length ≤ 1099511627776) := HBL
    clear HBL
    cases hp : isPageB page with
    | false =>
      have HT2 := (show Hid (loadT (k : Int) page bs ps = (3, 0, datFrameS ps)) from HT1.out.trans (if_pos (.inl hp)))
      rw [hp] at kp
      go_enter Try.func56, Try.ntmps56
      go_wp2_with fail
      refine (kp _).mono ?_
      rintro e w1 ⟨rfl, rfl⟩
      go_wp2
      go_ret2
      first | exact ⟨0, 3, bl, ps, rfl, HFAIL.out 3 _ (Kept.refl _ _) HT2.out⟩ | exact ⟨0, 3, rfl, bl, ps, HFAIL.out 3 _ (Kept.refl _ _) HT2.out⟩
    | true =>
      rw [hp] at kp
      by_cases h4 : nb = 4096
      case neg =>
        have h4' : ¬ (nb : Int) = 4096 := by omega
        have HT2 := (show Hid (loadT (k : Int) page bs ps = (3, 0, datFrameS ps)) from HT1.out.trans (if_pos (.inr h4)))
        go_enter Try.func56, Try.ntmps56
        go_wp2_with fail
        refine (kp _).mono ?_
        rintro e w1 ⟨rfl, rfl⟩
        go_wp2
        go_ret2
        first | exact ⟨0, 3, bl, ps, rfl, HFAIL.out 3 _ (Kept.refl _ _) HT2.out⟩ | exact ⟨0, 3, rfl, bl, ps, HFAIL.out 3 _ (Kept.refl _ _) HT2.out⟩
      subst h4
      have HT2 := (show Hid (loadT (k : Int) page bs ps = if findB page ps ≠ -1 ∧ findB page ps ≠ (k : Int) then (4, 0, datFrameS ps) else
        (0, (k : Int), (datFrameS ps).set k (page, bs, 0, false, 0, true))) from HT1.out.trans (if_neg (by rw [hp]; simp)))
      clear HT1
      obtain ⟨fi, hfi⟩ : ∃ x, findB page ps = x := ⟨_, rfl⟩
      rw [hfi] at k0 HT2
      by_cases h5 : fi ≠ -1 ∧ fi ≠ (k : Int)
      · have HT3 := (show Hid (loadT (k : Int) page bs ps = (4, 0, datFrameS ps)) from HT2.out.trans (if_pos h5))
        have hb1 : (fi != -1) = true := by simp [h5.1]
        have hb2 : (fi != (k : Int)) = true := by simp [h5.2]
        clear h5
        go_enter Try.func56, Try.ntmps56
        go_wp2_with fail
        refine (kp _).mono ?_
        rintro e w1 ⟨rfl, rfl⟩
        go_wp2_with fail
        refine k0.mono ?_
        rintro e w2 ⟨rfl, hk2⟩
        have HK2 := hid hk2
        clear hk2
        go_wp2
        go_ret2
        first | exact ⟨0, 4, bl, ps, rfl, HFAIL.out 4 _ HK2.out HT3.out⟩ | exact ⟨0, 4, rfl, bl, ps, HFAIL.out 4 _ HK2.out HT3.out⟩
      · have HT3 := (show Hid (loadT (k : Int) page bs ps = (0, (k : Int), (datFrameS ps).set k (page, bs, 0, false, 0, true))) from HT2.out.trans (if_neg h5))
        have h5' : fi = -1 ∨ fi = (k : Int) := by omega
        clear h5 HT2
        rcases h5' with rfl | rfl
        · go_enter Try.func56, Try.ntmps56
          go_wp2_with fail
          refine (kp _).mono ?_
          rintro e w1 ⟨rfl, hw1⟩
          replace hw1 := hw1.symm
          subst hw1
          go_wp2_with fail
          refine k0.mono ?_
          rintro e w2 ⟨rfl, hk2⟩
          have HK2 := hid hk2
          have HF2 := (show Hid (FP w2 P hand g n cap bl ps) from HF.out.same hk2)
          have hz2 := hk2.size
          have HX2 := hid HF2.out.top
          have hrow := HF2.out.row
          clear hk2 k0 c0 c1' c2 c3 c4 c5 x0 x1 hck
          go_wp2_with fail
          have hS : (fun wx : World => wx.cell? ⟨P, 0, none⟩ = some (.slice (some ⟨g, 0, none⟩) n cap)) w2.drew := HX2.out.drew.cell 0
          refine wp_region_V (fun wx : World => wx.cell? ⟨P, 0, none⟩ = some (.slice (some ⟨g, 0, none⟩) n cap)) 12 13 rfl (by kernel_rfl) ?_
          refine tk 0 61 hS ?_
          refine tk 1 62 hS ?_
          refine tk 2 63 hS ?_
          refine tk 3 64 hS ?_
          refine tk 4 65 hS ?_
          refine tk 5 66 hS ?_
          refine tk 6 67 hS ?_
          refine tk 7 68 hS ?_
          refine wpAnyV_one (i := 8) (by kernel_rfl) rfl (fun K hK => ?_)
          go_simp
          refine (cloneS_any (.slice au 4096 cu) bs _ HBL2.out (HU.out.same HK2.out.drew)).mono ?_
          rintro e w3 ⟨a4, n4, c4, rfl, ho4, hf4, hk4⟩
          have hk23 : Same w2 w3 := (Kept.refl (fun _ => False) w2).drew.trans hk4
          have HK3 := (show Hid (Same w w3) from HK2.out.trans hk23)
          have HF3 := (show Hid (FP w3 P hand g n cap bl ps) from HF2.out.same hk23)
          have HX3 := hid HF3.out.top
          have HO4 := (show Hid (Own 0 5 .u8 w3 (.slice a4 n4 c4) bs) from ho4)
          have HZ4 : Hid (∀ b, (Value.slice a4 n4 c4).ownBlock = some b → w.heap.size ≤ b ∧ b < w3.heap.size) := fun b hb => ⟨by have h : w2.heap.size ≤ b := hf4 b hb; omega, (ho4.lt b hb).2⟩
          have hz3 : w2.heap.size ≤ w3.heap.size := hk23.size
          clear ho4 hf4 hk4 hk23
          go_wp2_with fail
          have hS3 : (fun wx : World => wx.cell? ⟨P, 0, none⟩ = some (.slice (some ⟨g, 0, none⟩) n cap)) w3 := HX3.out.cell 0
          refine hK.out _ _ (fun _ => hS3) ?_
          clear hK K hS
          try simp only [Act.put, sA, s0, sS]
          refine tk 9 70 hS3 ?_
          refine wpAnyV_one (i := 10) (by kernel_rfl) rfl (fun K hK => ?_)
          go_simp
          have hS4 : (fun wx : World => wx.cell? ⟨P, 0, none⟩ = some (.slice (some ⟨g, 0, none⟩) n cap)) (w3.alloc (.cells #[.int .i64 page, .slice a4 n4 c4, .int .i64 0, .bool false, .int .i64 0, .bool true] 36)) := (HX3.out.alloc _).cell 0
          refine hK.out _ _ (fun _ => hS4) ?_
          clear hK K
          try simp only [Act.put, sA, s0, sS]
          refine wpAnyV_one (i := 11) (by kernel_rfl) rfl (fun K hK => ?_)
          go_simp
          refine hK.out _ _ (fun _ => hS4) ?_
          clear hK K
          try simp only [Act.put, sA, s0, sS]
          have yk : w3.cell? ⟨g, k, none⟩ = some (.pointer (some ⟨bk, 0, none⟩)) := by
            obtain ⟨b1, p1, hb1, _, hc1, _⟩ := HF3.out.at k hkn
            rw [HBK.out] at hb1
            obtain rfl := Option.some.inj hb1
            exact hc1
          have fg := World.ownsRow.frozenAt HF3.out.row
          have hg3 : g < w3.heap.size := by omega
          refine wpAnyV_one (i := 12) (by kernel_rfl) rfl (fun K hK => ?_)
          go_simp
          refine hK.out _ _ (fun h => absurd rfl h) ?_
          clear hK K
          refine wpAnyV_done (by kernel_rfl) ?_
          try simp only [Act.put, sA, s0, sS]
          have HFN := (show Hid (FP ((w3.alloc (.cells #[.int .i64 page, .slice a4 n4 c4, .int .i64 0, .bool false, .int .i64 0, .bool true] 36)).setCell ⟨g, k, none⟩ (.pointer (some ⟨w3.heap.size, 0, none⟩))) P hand g n cap (bl.set k w3.heap.size) (ps.set k (⟨page, .slice a4 n4 c4, bs, 0, false, 0, true⟩ : EFrame))) from
            FP.swap (p' := (⟨page, .slice a4 n4 c4, bs, 0, false, 0, true⟩ : EFrame)) (HF3.out.same ((Kept.refl _ _).alloc _)) HBK.out (Blk.newL w3 [.int .i64 page, .slice a4 n4 c4, .int .i64 0, .bool false, .int .i64 0, .bool true] 36) (HO4.out.same ((Kept.refl _ _).alloc _)) (fun hf => by have := HFL.out _ hf; omega)
              (fun x hx => ⟨fun hf => by have h1 := (HZ4.out x hx).1; have h2 := HFL.out x hf; omega, by have h1 := (HZ4.out x hx).2; omega⟩))
          have hcomm : (w3.alloc (.cells #[.int .i64 page, .slice a4 n4 c4, .int .i64 0, .bool false, .int .i64 0, .bool true] 36)).setCell ⟨g, k, none⟩ (.pointer (some ⟨w3.heap.size, 0, none⟩)) = (w3.setCell ⟨g, k, none⟩ (.pointer (some ⟨w3.heap.size, 0, none⟩))).alloc (.cells #[.int .i64 page, .slice a4 n4 c4, .int .i64 0, .bool false, .int .i64 0, .bool true] 36) := by go_simp
          rw [hcomm] at HFN
          clear hcomm
          have hzw : w.heap.size ≤ w3.heap.size := HK3.out.size
          go_wp2
          go_ret2
          refine ⟨(k : Int), 0, rfl, _, _, HFN.out, ?_, ?_, ?_⟩
          · rw [HT3.out, dat_set]; rfl
          · intro b hb
            rcases footS_swap b hb with hb | rfl | hb
            · exact .inl hb
            · exact .inr hzw
            · exact .inr (HZ4.out b hb).1
          · refine Kept.alloc (Kept.next (R := footFP P g bl ps) (R' := fun b => b = g) (HK3.out.mono (fun _ _ e => e.elim)) (Kept.setCell (R := fun b => b = g) (Kept.refl _ _) (p := ⟨g, k, none⟩) (.inr rfl) _) (fun i hi e => .inr (.inl e))) _
        · go_enter Try.func56, Try.ntmps56
          go_wp2_with fail
          refine (kp _).mono ?_
          rintro e w1 ⟨rfl, hw1⟩
          replace hw1 := hw1.symm
          subst hw1
          go_wp2_with fail
          refine k0.mono ?_
          rintro e w2 ⟨rfl, hk2⟩
          have HK2 := hid hk2
          have HF2 := (show Hid (FP w2 P hand g n cap bl ps) from HF.out.same hk2)
          have hz2 := hk2.size
          have HX2 := hid HF2.out.top
          have hrow := HF2.out.row
          clear hk2 k0 c0 c1' c2 c3 c4 c5 x0 x1 hck
          go_wp2_with fail
          have hS : (fun wx : World => wx.cell? ⟨P, 0, none⟩ = some (.slice (some ⟨g, 0, none⟩) n cap)) w2.drew := HX2.out.drew.cell 0
          refine wp_region_V (fun wx : World => wx.cell? ⟨P, 0, none⟩ = some (.slice (some ⟨g, 0, none⟩) n cap)) 12 13 rfl (by kernel_rfl) ?_
          refine tk 0 61 hS ?_
          refine tk 1 62 hS ?_
          refine tk 2 63 hS ?_
          refine tk 3 64 hS ?_
          refine tk 4 65 hS ?_
          refine tk 5 66 hS ?_
          refine tk 6 67 hS ?_
          refine tk 7 68 hS ?_
          refine wpAnyV_one (i := 8) (by kernel_rfl) rfl (fun K hK => ?_)
          go_simp
          refine (cloneS_any (.slice au 4096 cu) bs _ HBL2.out (HU.out.same HK2.out.drew)).mono ?_
          rintro e w3 ⟨a4, n4, c4, rfl, ho4, hf4, hk4⟩
          have hk23 : Same w2 w3 := (Kept.refl (fun _ => False) w2).drew.trans hk4
          have HK3 := (show Hid (Same w w3) from HK2.out.trans hk23)
          have HF3 := (show Hid (FP w3 P hand g n cap bl ps) from HF2.out.same hk23)
          have HX3 := hid HF3.out.top
          have HO4 := (show Hid (Own 0 5 .u8 w3 (.slice a4 n4 c4) bs) from ho4)
          have HZ4 : Hid (∀ b, (Value.slice a4 n4 c4).ownBlock = some b → w.heap.size ≤ b ∧ b < w3.heap.size) := fun b hb => ⟨by have h : w2.heap.size ≤ b := hf4 b hb; omega, (ho4.lt b hb).2⟩
          have hz3 : w2.heap.size ≤ w3.heap.size := hk23.size
          clear ho4 hf4 hk4 hk23
          go_wp2_with fail
          have hS3 : (fun wx : World => wx.cell? ⟨P, 0, none⟩ = some (.slice (some ⟨g, 0, none⟩) n cap)) w3 := HX3.out.cell 0
          refine hK.out _ _ (fun _ => hS3) ?_
          clear hK K hS
          try simp only [Act.put, sA, s0, sS]
          refine tk 9 70 hS3 ?_
          refine wpAnyV_one (i := 10) (by kernel_rfl) rfl (fun K hK => ?_)
          go_simp
          have hS4 : (fun wx : World => wx.cell? ⟨P, 0, none⟩ = some (.slice (some ⟨g, 0, none⟩) n cap)) (w3.alloc (.cells #[.int .i64 page, .slice a4 n4 c4, .int .i64 0, .bool false, .int .i64 0, .bool true] 36)) := (HX3.out.alloc _).cell 0
          refine hK.out _ _ (fun _ => hS4) ?_
          clear hK K
          try simp only [Act.put, sA, s0, sS]
          refine wpAnyV_one (i := 11) (by kernel_rfl) rfl (fun K hK => ?_)
          go_simp
          refine hK.out _ _ (fun _ => hS4) ?_
          clear hK K
          try simp only [Act.put, sA, s0, sS]
          have yk : w3.cell? ⟨g, k, none⟩ = some (.pointer (some ⟨bk, 0, none⟩)) := by
            obtain ⟨b1, p1, hb1, _, hc1, _⟩ := HF3.out.at k hkn
            rw [HBK.out] at hb1
            obtain rfl := Option.some.inj hb1
            exact hc1
          have fg := World.ownsRow.frozenAt HF3.out.row
          have hg3 : g < w3.heap.size := by omega
          refine wpAnyV_one (i := 12) (by kernel_rfl) rfl (fun K hK => ?_)
          go_simp
          refine hK.out _ _ (fun h => absurd rfl h) ?_
          clear hK K
          refine wpAnyV_done (by kernel_rfl) ?_
          try simp only [Act.put, sA, s0, sS]
          have HFN := (show Hid (FP ((w3.alloc (.cells #[.int .i64 page, .slice a4 n4 c4, .int .i64 0, .bool false, .int .i64 0, .bool true] 36)).setCell ⟨g, k, none⟩ (.pointer (some ⟨w3.heap.size, 0, none⟩))) P hand g n cap (bl.set k w3.heap.size) (ps.set k (⟨page, .slice a4 n4 c4, bs, 0, false, 0, true⟩ : EFrame))) from
            FP.swap (p' := (⟨page, .slice a4 n4 c4, bs, 0, false, 0, true⟩ : EFrame)) (HF3.out.same ((Kept.refl _ _).alloc _)) HBK.out (Blk.newL w3 [.int .i64 page, .slice a4 n4 c4, .int .i64 0, .bool false, .int .i64 0, .bool true] 36) (HO4.out.same ((Kept.refl _ _).alloc _)) (fun hf => by have := HFL.out _ hf; omega)
              (fun x hx => ⟨fun hf => by have h1 := (HZ4.out x hx).1; have h2 := HFL.out x hf; omega, by have h1 := (HZ4.out x hx).2; omega⟩))
          have hcomm : (w3.alloc (.cells #[.int .i64 page, .slice a4 n4 c4, .int .i64 0, .bool false, .int .i64 0, .bool true] 36)).setCell ⟨g, k, none⟩ (.pointer (some ⟨w3.heap.size, 0, none⟩)) = (w3.setCell ⟨g, k, none⟩ (.pointer (some ⟨w3.heap.size, 0, none⟩))).alloc (.cells #[.int .i64 page, .slice a4 n4 c4, .int .i64 0, .bool false, .int .i64 0, .bool true] 36) := by go_simp
          rw [hcomm] at HFN
          clear hcomm
          have hzw : w.heap.size ≤ w3.heap.size := HK3.out.size
          go_wp2
          go_ret2
          refine ⟨(k : Int), 0, rfl, _, _, HFN.out, ?_, ?_, ?_⟩
          · rw [HT3.out, dat_set]; rfl
          · intro b hb
            rcases footS_swap b hb with hb | rfl | hb
            · exact .inl hb
            · exact .inr hzw
            · exact .inr (HZ4.out b hb).1
          · refine Kept.alloc (Kept.next (R := footFP P g bl ps) (R' := fun b => b = g) (HK3.out.mono (fun _ _ e => e.elim)) (Kept.setCell (R := fun b => b = g) (Kept.refl _ _) (p := ⟨g, k, none⟩) (.inr rfl) _) (fun i hi e => .inr (.inl e))) _
end Go.Proofs.Ytommabejmpafcaa

namespace Go.Proofs.Ytommabejmpafcaa
set_option maxRecDepth 100000
set_option maxHeartbeats 4000000
open Go.RowKit
set_option linter.unusedVariables false
set_option linter.unusedSimpArgs false
theorem turnP_dat {T : Int × Int × List (Int × List Int × Int × Bool × Int × Bool)} {ps qs : List EFrame} {hand : Int} (h : datFrameS qs = datFrameS ps) : turnP T qs hand = turnP T ps hand := by
  unfold turnP
  rw [poolF_dat h]
theorem small_dat {ps : List EFrame} {hand : Int} (h : poolF ps hand = 0) : SmallF (datFrameS ps) := by
  have hl := (poolF_len h).2.1
  refine ⟨by rw [datFrameS_length]; omega, fun x hx => ?_⟩
  obtain ⟨p, hp, rfl⟩ := List.mem_map.1 hx
  have := (frame_of h p hp).2
  exact Nat.le_trans this (by omega)
theorem small_set {l : List (Int × List Int × Int × Bool × Int × Bool)} {k : Nat} {x : Int × List Int × Int × Bool × Int × Bool} (h : SmallF l) (hx : x.2.1.length ≤ 1048576) : SmallF (l.set k x) :=
  ⟨by rw [List.length_set]; exact h.1, fun y hy => by
    rcases List.mem_or_eq_of_mem_set hy with hy | rfl
    · exact h.2 y hy
    · exact hx⟩
theorem small_nil : SmallF [] := ⟨by simp, fun x hx => by simp at hx⟩
theorem turnP_small {T : Int × Int × List (Int × List Int × Int × Bool × Int × Bool)} {ps qs : List EFrame} {hand a b c : Int} (h : (a, b, c, datFrameS qs) = turnP T ps hand) (hT : poolF ps hand = 0 → T.1 = 0 → SmallF T.2.2) : SmallF (datFrameS qs) := by
  unfold turnP at h
  by_cases h0 : poolF ps hand ≠ 0
  · rw [if_pos h0] at h
    simp only [Prod.mk.injEq] at h
    rw [h.2.2.2]; exact small_nil
  rw [if_neg h0] at h
  by_cases h1 : T.1 ≠ 0
  · rw [if_pos h1] at h
    simp only [Prod.mk.injEq] at h
    rw [h.2.2.2]; exact small_nil
  rw [if_neg h1] at h
  simp only [Prod.mk.injEq] at h
  rw [h.2.2.2]
  exact hT (Classical.not_not.1 h0) (Classical.not_not.1 h1)
end Go.Proofs.Ytommabejmpafcaa

namespace Go.Proofs.Ytommabejmpafcaa
open Go Go.RowKit
set_option linter.unusedVariables false
set_option linter.unusedSimpArgs false
variable {E : Type}
section
variable {K : RowK E} {base : Nat} {tw tb : TypeId} {w w' : World} {qs : List E}
theorem OwnR.setWhole {g n cap k : Nat} {p' : E} (h : OwnR K base tw tb w (.slice (some ⟨g, 0, none⟩) n cap) qs) (hn : n = qs.length) (hk : k < qs.length)
    (hu : Own base tb .u8 w (K.v p') (K.bs p')) (hf : ∀ b, (K.v p').ownBlock = some b → ¬ footR K (.slice (some ⟨g, 0, none⟩) n cap) qs b) (j : Nat) (hj : j = k * K.m) :
    OwnR K base tw tb (w.setCells g j (K.cells p')) (.slice (some ⟨g, 0, none⟩) n cap) (qs.set k p') := by
  have h' := h
  rw [list_mid hk] at h' hf
  rw [set_mid hk]
  exact OwnR.setElem h' (by rw [← list_mid hk]; exact hn) j (by rw [List.length_take, Nat.min_eq_left (Nat.le_of_lt hk)]; exact hj) hu hf
theorem footR_setNew {v : Value} {k : Nat} {p' : E} (b : Nat) (h : footR K v (qs.set k p') b) : footR K v qs b ∨ (K.v p').ownBlock = some b := by
  rcases h with h | ⟨q, hq, hb⟩
  · exact .inl (.inl h)
  · rcases List.mem_or_eq_of_mem_set hq with hq | rfl
    · exact .inl (.inr ⟨q, hq, hb⟩)
    · exact .inr hb
end
end Go.Proofs.Ytommabejmpafcaa
