import Derived.Test.YtmnhflanhchdeaaG06
import Derived.Test.YtmnhflanhchdeaaG05
import Derived.Test.YtmnhflanhchdeaaG00
import Derived.Test.YtmnhflanhchdeaaG02
import Derived.Laws.IdiomCopy
import Derived.Deep.DeepCutAuto
import Derived.Deep.RegionWith
import Derived.Deep.DeepMust
namespace Go.Proofs.Ytmnhflanhchdeaa
set_option maxRecDepth 100000
set_option maxHeartbeats 8000000
open Go Go.RowKit
set_option linter.unusedVariables false
set_option linter.unusedSimpArgs false
section
variable {P : Program} {ops : Array Oper} {o : Oper} {a : Act} {w : World} {K : Act → World → Prop} {Q : Exit → Act → World → Prop} {E : Prop}
theorem step_copy_b {B off dl dc sl sc : Nat} {e tb : TypeId} {ad : Addr} {xs : List Value} (hgd : o.guard = none) (d s : Operand) (T : TypeId) (ho : o.op = .call { callee := .builtin .copy, args := #[d, s], argTypes := #[T, T] })
    (hu : P.underlying T = some (.slice tb)) (hsz : (P.info? tb).map (·.size) = some 1) (cs : List Value) (hb : Blk w B e xs) (hd : a.eval d = .slice (some ⟨B, off, none⟩) dl dc) (hs : a.eval s = .slice (some ad) sl sc)
    (hn : cs.length = Nat.min sl dl) (hsrc : ∀ j v, cs[j]? = some v → w.cell? (ad.add j) = some v) (hfit : off + cs.length ≤ xs.length) (h1 : ∀ v ∈ cs, v.oneCell' = true)
    (h : K (a.put o.dst (goInt cs.length)) (w.setCells B off cs)) :
    if Region.wanted o (yielded ops a.tmps) = true then Oper.wp P o a w K Q else E := by
  have hw : Region.wanted o (yielded ops a.tmps) = true := by simp [Region.wanted, hgd]
  rw [if_pos hw]
  have hrun := run_copy_cells (P := P) w T T o.type tb B off dl dc ad sl sc cs hu hsz hn hsrc (fun j hj => by rw [hb.cell, List.getElem?_eq_getElem (by omega)]; rfl) (fun j _ => hb.frozen _) h1
  unfold Oper.wp
  simp [execOp, ho, resolve, invoke, builtin, hd, hs, hrun, Result.andThen]
  exact h
end
def opK (s at0 : Int) (tb : List Int) (M : Nat) (k : Fin M) : Int × Int × List Int := (1, logPlace s (at0 + 512 * (k.val : Int)), chunkF tb k.val)
def InvF (w w1 w2 : World) (s ep st fl at0 : Int) (ta : Option Addr) (tc : Nat) (tb : List Int) (M : Nat) (pre : List (Fin M)) (W : World) : Prop :=
  ∃ aa na ca qs, Blk W w1.heap.size 35 [.slice aa na ca] ∧ datOpS qs = pre.map (opK s at0 tb M) ∧ OwnR kOp 0 46 5 W (.slice aa na ca) qs ∧ (∀ x, footR kOp (.slice aa na ca) qs x → w2.heap.size ≤ x) ∧
    Blk W w.heap.size 29 [.int .i64 s, .int .i64 ep, .int .i64 st, .int .i64 fl, .slice ta tb.length tc] ∧ Kept (fun b => b = w1.heap.size) w2 W
theorem InvF.own (w w1 w2 : World) (s ep st fl at0 : Int) (ta : Option Addr) (tc : Nat) (tb : List Int) (M : Nat) : OwnFrom w2.heap.size (InvF w w1 w2 s ep st fl at0 ta tc tb M) := by
  rintro pre W W' row ⟨aa, na, ca, qs, hb, hq, ho, hf, hl, hk⟩ hg hr
  have hk2 := kept_turn hg hr
  exact ⟨aa, na, ca, qs, hb.kept hk2 hb.not_bare, hq, ho.kept hk2 (fun b hb => ho.not_bare hb), hf, hl.kept hk2 hl.not_bare, hk.next hk2 (fun i hi e => by have := e.1; omega)⟩
theorem implFlushOps_any (x : StLog) (w : World) (hB : x.isB) (hn : x.szs ≤ 1048576) (hv : StLog.rd w x) :
    Calls Try.prog 19 #[x.val] w fun e w' => ∃ v, e = .returned v ∧ OpsR w w' (flushD x.dat) v := by
  have hF := fun wx (hk : Same w wx) => implLogFault_any x wx hB (by omega) (StLog.rd.same hv hk)
  obtain ⟨s, ep, st, fl, te, ta, tc, tb⟩ := x
  simp only [StLog.szs] at hn
  have HV := (show Hid (Rd .u8 w (.slice ta tb.length tc) tb) from hv)
  clear hB hv
  dsimp only [StLog.val, StLog.dat, BS.v, flushD] at hF ⊢
  have hk0 : Same w (w.alloc (.cells #[.int .i64 s, .int .i64 ep, .int .i64 st, .int .i64 fl, .slice ta tb.length tc] 29)) := (Kept.refl _ _).alloc _
  have b0 := Blk.newL w [.int .i64 s, .int .i64 ep, .int .i64 st, .int .i64 fl, .slice ta tb.length tc] 29
  have hF := hF _ hk0
  by_cases hc : logFd (s, ep, st, fl, tb) = 0 ∧ fl ≠ st
  case neg =>
    rw [if_neg hc]
    by_cases hg : logFd (s, ep, st, fl, tb) = 0
    · have he : fl = st := by
        by_cases h : fl = st
        · exact h
        · exact absurd ⟨hg, h⟩ hc
      subst he
      rw [hg] at hF
      clear hc hg
      go_enter Try.func19, Try.ntmps19
      go_wp2_with (go_at_call 12; refine hF.mono ?_; rintro e w1 ⟨rfl, hk1⟩; have b1 := b0.same hk1; have HK1 := (show Hid (Same w w1) from hk0.trans hk1); obtain ⟨c0, c1, c2, c3, c4⟩ := b1.all5)
      go_ret
      exact ⟨_, rfl, _, _, _, [], rfl, rfl, fun b hb => absurd hb (footR_nil b), OwnR.nil _ _ _ _ _, HK1.out⟩
    · obtain ⟨q, hq⟩ : ∃ q, logFd (s, ep, st, fl, tb) = q := ⟨_, rfl⟩
      rw [hq] at hF hg
      clear hc hq
      go_enter Try.func19, Try.ntmps19
      go_wp2_with (go_at_call 12; refine hF.mono ?_; rintro e w1 ⟨rfl, hk1⟩; have b1 := b0.same hk1; have HK1 := (show Hid (Same w w1) from hk0.trans hk1))
      go_ret
      exact ⟨_, rfl, _, _, _, [], rfl, rfl, fun b hb => absurd hb (footR_nil b), OwnR.nil _ _ _ _ _, HK1.out⟩
  rw [if_pos hc]
  obtain ⟨hg, hne⟩ := hc
  rw [hg] at hF
  obtain ⟨h1, h2, h3, h4, h5, h6⟩ := logFault_good hg
  dsimp only at h1 h2 h3 h4 h5 h6
  have hlen : 0 < tb.length := by omega
  obtain ⟨at0, hat⟩ : ∃ a : Int, fl - fl % 512 = a := ⟨_, rfl⟩
  rw [hat]
  have ha0 : 0 ≤ at0 := by omega
  have ha1 : at0 ≤ 1099511627776 := by omega
  have hlt6 : (tb.length : Int) = st - at0 := by omega
  obtain ⟨M, hM⟩ : ∃ M, padM tb = M := ⟨_, rfl⟩
  have hM1 : tb.length ≤ 512 * M := by have := padM_le tb; omega
  have hM2 : 512 * M < tb.length + 512 := by have := padM_lt tb; omega
  rw [hM]
  have HM := hid hM
  have hfl0 : 0 ≤ fl := by omega
  have hne' : ¬ fl = st := hne
  obtain ⟨i0, hi, hz0, hz1, hz2⟩ := info_parts Try.infoROp
  obtain ⟨j0, hj, hy0, hy1, hy2⟩ := info_parts Try.infoByte'
  obtain ⟨tB, tO, hta, hle, hcell⟩ : ∃ tB tO, ta = some ⟨tB, tO, none⟩ ∧ tb.length ≤ tc ∧ ∀ i, i < tb.length → w.cell? ⟨tB, tO + i, none⟩ = some (.int .u8 (tb.getD i 0)) := by
    rcases HV.out.2 with ⟨h, _⟩ | ⟨b, off, c, he, hle, hc⟩
    · rw [h] at hlen; simp at hlen
    · cases he; exact ⟨b, off, rfl, hle, hc⟩
  have HC := hid hcell
  have HTA := hid hta
  have k0 := fun wx => sectorStart_any fl wx hfl0 (by omega)
  rw [hat] at k0
  clear hg hM hne hcell hta
  refine callsIn_wide.1 (callsIn_of_wp_marks (F := Fence.wide) (n := 3) Try.func19 rfl trivial (wpIn_wide.2 ?_) rfl)
  simp only [Try.ntmps19, List.size_toArray, List.length_cons, List.length_nil, Nat.reduceAdd, Nat.reduceSub, Array.replicate_succ, Array.replicate_zero, List.push_toArray, List.append_toArray, List.nil_append, List.cons_append]
  go_wp2_with fail
  refine hF.mono ?_
  rintro e w1 ⟨rfl, hk1⟩
  have b1 := b0.same hk1
  have HK1 := (show Hid (Same w w1) from hk0.trans hk1)
  have HB1 := (show Hid (Blk w1 w.heap.size 29 [.int .i64 s, .int .i64 ep, .int .i64 st, .int .i64 fl, .slice ta tb.length tc]) from b1)
  obtain ⟨c0, c1, c2, c3, c4⟩ := b1.all5
  clear hk1 b0 b1 hF hk0
  have hl1 := HB1.out.lt
  go_wp2_with fail
  refine (stretch_any s fl st _).mono ?_
  rintro e w2 ⟨rfl, hx0, hx1, hx2, hz, hk2⟩
  simp only [World.size_alloc] at hx0 hx1 hx2 hz ⊢
  have HK2 := (show Hid (Same w1 w2) from ((Kept.refl _ _).alloc _).trans hk2)
  have HX0 := hid hx0
  have HX1 := hid hx1
  have HX2 := hid hx2
  have HB2 := hid (HB1.out.same HK2.out)
  have HBO := (show Hid (Blk w2 w1.heap.size 35 [.slice none 0 0]) from (Blk.newL w1 [.slice none 0 0] 35).same hk2)
  clear hx0 hx1 hx2 hk2 c0 c1 c2 c3 c4
  go_wp2_with fail
  have hbe : (fl == st) = false := by simp [hne']
  rw [hbe]
  refine (wpIn_wide (n := 3)).1 ?_
  refine wpIn_rangeFunc_ownG (F := Fence.wide) (n := 3) rfl (by decide) (gf := 35) (lb := #[.pointer (some ⟨w1.heap.size + 1 + 1, 0, none⟩), .pointer (some ⟨w1.heap.size + 1 + 1 + 1, 0, none⟩), .pointer (some ⟨w1.heap.size + 1, 0, none⟩)]) rfl trivial (enters_of Try.func35 (by kernel_rfl) rfl)
    (stretch1_stops 2 (w1.heap.size + 1) M s fl st at0 w2 hat hfl0 (by omega) (by omega) (fun k hk => by omega) (by omega) HX0.out HX1.out HX2.out) KpB.t (KpB.put (by omega)) (Below.refl _ _) (fun _ => rfl)
    (InvF w w1 w2 s ep st fl at0 ta tc tb M) (fun _ _ _ => False) (InvF.own _ _ _ _ _ _ _ _ _ _ _ _) (fun _ _ _ _ _ h _ _ => h)
    ⟨none, 0, 0, [], HBO.out, rfl, OwnR.nil _ _ _ _ _, fun x hx => absurd hx (footR_nil x), HB2.out, Kept.refl _ _⟩
    (fun x => { tmps := #[.agg #[.int .i64 s, .int .i64 ep, .int .i64 st, .int .i64 fl, .slice ta tb.length tc], .pointer (some ⟨w.heap.size, 0, none⟩), .slice none 0 0, .pointer (some ⟨w1.heap.size, 0, none⟩), .int .i64 (at0 + 512 * (x.val : Int)), .int .i64 (logPlace s (at0 + 512 * (x.val : Int))), undef, .agg #[.int .i64 s, .int .i64 ep, .int .i64 st, .int .i64 fl, .slice ta tb.length tc], .int .i64 0, .bool false, .bool false, .pointer (some ⟨w.heap.size, 3, none⟩), .int .i64 fl, .pointer (some ⟨w.heap.size, 2, none⟩), .int .i64 st, .bool false, .bool false, .pointer (some ⟨w.heap.size, 0, none⟩), .int .i64 s, .pointer (some ⟨w.heap.size, 3, none⟩), .int .i64 fl, .pointer (some ⟨w.heap.size, 2, none⟩), .int .i64 st, .func (.func 35) #[] #[.pointer (some ⟨w1.heap.size + 1 + 1, 0, none⟩), .pointer (some ⟨w1.heap.size + 1 + 1 + 1, 0, none⟩), .pointer (some ⟨w1.heap.size + 1, 0, none⟩)], .int .i64 (at0 + 512 * (x.val : Int)), .int .i64 (logPlace s (at0 + 512 * (x.val : Int))), undef, undef, undef, undef, undef, undef, undef, undef, undef, undef, undef, undef, undef, undef, undef, undef, undef, undef, undef, undef, undef], defers := [] }) ?assign ?body ?done ?stop
  case assign =>
    intro l x W K hK
    dsimp only [secs]
    refine wpIn_seq (round_region (letsOut_then (letsOut_then (fun ⟨_, _, h⟩ => h))) rfl ?_)
    go_wp2
    refine round_region (letsOut_then (fun ⟨_, _, h⟩ => h)) rfl ?_
    go_wp2
    exact hK
  case stop =>
    rintro D c pre W _ _ h _
    exact h.elim
  case body =>
    rintro l pre x W ⟨aa, na, ca, qs, hbo, hq, ho, hf, hbl, hk⟩ hlen
    obtain ⟨k, hkM⟩ := x
    dsimp only
    have hkl : 512 * k < tb.length := by omega
    have hql : qs.length = pre.length := by have h := congrArg List.length hq; rw [datOpS_length, List.length_map] at h; exact h
    have hzz2 : w1.heap.size + 1 + 1 + 1 < w2.heap.size := by omega
    have HBO := hid hbo
    have HQ := hid hq
    have HO := hid ho
    have HF := hid hf
    have HBL := hid hbl
    have HK := hid hk
    have hzW := hk.size
    have hzw : w.heap.size < w1.heap.size := hl1
    clear hbo hq ho hf hbl hk
    refine wpIn_block (wpIn_seq (round_region (letsOut_then (letsOut_block letsOut_ownG)) rfl ?_))
    go_wp2_with (at_make; go_loud (refine wpList_make_full _ rfl (.const (.int .i64 512)) (.const (.int .i64 512)) 24 rfl 0 5 j0 (.int .u8 0) 1 Try.underlying24 hj hy0 hy1 .i64 .i64 512 512 512 rfl rfl rfl rfl (by rw [hy2]; decide) (by unfold maxLen; decide) (Nat.zero_le _) ?_); intro w3 hown3 hg3; have HD3 := (show Hid (Blk w3 W.heap.size 5 (vals .u8 (List.replicate 512 0))) from (own_made hown3).blk); have HK3 := (show Hid (Same W w3) from Kept.of_grown hg3 (fun k e => by cases e)); clear hown3 hg3)
    have HBL3 := hid (HBL.out.same HK3.out)
    have hS : (fun wx : World => wx.cell? ⟨w.heap.size, 4, none⟩ = some (.slice (some ⟨tB, tO, none⟩) tb.length tc) ∧ wx.cell? ⟨w.heap.size, 3, none⟩ = some (.int .i64 fl)) w3.drew := ⟨by rw [← HTA.out]; exact HBL3.out.cell 4, HBL3.out.cell 3⟩
    have hsub : IntKind.i64.wrap (at0 + 512 * (k : Int) - at0) = ((512 * k : Nat) : Int) := by rw [IntKind.wrap_i64]; omega
    have hki : ((512 * k : Nat) : Int) ≤ (tb.length : Int) := by omega
    have hki2 : ((512 * k : Nat) : Int) ≤ (tc : Int) := by omega
    have hki3 : (0 : Int) ≤ ((512 * k : Nat) : Int) := by omega
    have hkt : ¬ tc = 512 * k := by omega
    obtain ⟨K5, hK5⟩ : ∃ x, 512 * k = x := ⟨_, rfl⟩
    rw [hK5] at hsub hki hki2 hki3 hkt
    refine wpIn_seq (round_region_V (fun wx : World => wx.cell? ⟨w.heap.size, 4, none⟩ = some (.slice (some ⟨tB, tO, none⟩) tb.length tc) ∧ wx.cell? ⟨w.heap.size, 3, none⟩ = some (.int .i64 fl)) 99 10 (letsOut_then (letsOut_block letsOut_ownG)) (by kernel_rfl) rfl (by kernel_rfl) ?_)
    refine tk 0 27 hS ?_
    refine tk 1 28 hS ?_
    refine tk 2 29 hS ?_
    refine tk 3 30 hS ?_
    refine tk 4 31 hS ?_
    refine tk 5 32 hS ?_
    refine wpAnyV_one (i := 6) (by kernel_rfl) rfl (fun K hK => ?_)
    go_simp
    refine (k0 _).mono ?_
    rintro e w4 ⟨rfl, hk4⟩
    have HK4 : Hid (Same w3 w4) := (Kept.refl _ _).drew.trans hk4
    clear hk4
    have hS : (fun wx : World => wx.cell? ⟨w.heap.size, 4, none⟩ = some (.slice (some ⟨tB, tO, none⟩) tb.length tc) ∧ wx.cell? ⟨w.heap.size, 3, none⟩ = some (.int .i64 fl)) w4 := ⟨HK4.out.cellOf hS.1 id, HK4.out.cellOf hS.2 id⟩
    go_wp2_with fail
    refine hK.out _ _ (fun _ => hS) ?_
    clear hK K
    try simp only [Act.put, sA, s0, sS]
    refine tkV 7 34 (.int .i64 (K5 : Int)) hS ?_
    refine tkV 8 35 (.slice (some ⟨tB, tO + K5, none⟩) (tb.length - K5) (tc - K5)) hS ?_
    have HD4 := hid (HD3.out.same HK4.out)
    have HCL : Hid (((tb.drop K5).take 512).length = Nat.min (tb.length - K5) 512) := by unfold Hid; rw [List.length_take, List.length_drop]; exact Nat.min_comm _ _
    have hcl1 : ((tb.drop K5).take 512).length ≤ 512 := by rw [List.length_take]; omega
    have hcl2 : 512 - ((tb.drop K5).take 512).length = 512 - (tb.length - K5) := by rw [List.length_take, List.length_drop]; omega
    have HSRC : Hid (∀ i, i < ((tb.drop K5).take 512).length → w4.cell? ⟨tB, tO + K5 + i, none⟩ = some (.int .u8 (((tb.drop K5).take 512).getD i 0))) := fun i hi => by
      have h1 : Same w W := (HK1.out.trans HK2.out).next HK.out (fun i hi e => by omega)
      have hi2 : K5 + i < tb.length ∧ i < 512 := by rw [List.length_take, List.length_drop] at hi; omega
      have h2 := ((h1.trans HK3.out).trans HK4.out).cellOf (HC.out (K5 + i) hi2.1) id
      rw [← Nat.add_assoc] at h2
      rw [h2]
      congr 2
      simp [List.getD, List.getElem?_take, List.getElem?_drop, hi2.2]
    refine wpAnyV_one (i := 9) (by kernel_rfl) rfl (fun K hK => ?_)
    refine step_copy_b (by rfl) (.tmp 27) (.tmp 35) 24 (by rfl) Try.underlying24 (by rw [hj]; simp [hy1]) (vals .u8 ((tb.drop K5).take 512)) HD4.out (by rfl) (by rfl) (by rw [vals_length]; exact HCL.out) (news_of HSRC.out) (by rw [vals_length, vals_length, List.length_replicate]; omega) vals_one ?_
    have HD5 := (show Hid (Blk (w4.setCells W.heap.size 0 (vals .u8 ((tb.drop K5).take 512))) W.heap.size 5 (vals .u8 (chunkF tb k))) from by
      have h := Blk.setCells (vals .u8 ((tb.drop K5).take 512)) 0 HD4.out (by rw [vals_length, vals_length, List.length_replicate]; omega)
      have e : lay (vals .u8 (List.replicate 512 0)) 0 (vals .u8 ((tb.drop K5).take 512)) = vals .u8 (chunkF tb k) := by
        rw [← chunk_copy tb k hkl, hK5]
        unfold lay vals
        rw [List.take_zero, List.nil_append, List.map_append, Nat.zero_add, List.length_map, List.map_replicate, List.drop_replicate, List.map_replicate, hcl2]
      rw [e] at h
      exact h)
    have HK5 := (show Hid (Kept (fun b => b = W.heap.size) w4 (w4.setCells W.heap.size 0 (vals .u8 ((tb.drop K5).take 512)))) from Kept.setCells (R := fun b => b = W.heap.size) (.inr rfl) _ _ (Kept.refl _ _))
    obtain ⟨w5, hw5⟩ : ∃ x, w4.setCells W.heap.size 0 (vals .u8 ((tb.drop K5).take 512)) = x := ⟨_, rfl⟩
    rw [hw5] at HD5 HK5 ⊢
    clear hw5
    have HKW := (show Hid (Same W w5) from (HK3.out.trans HK4.out).next HK5.out (fun i hi e => by omega))
    have hS : (fun wx : World => wx.cell? ⟨w.heap.size, 4, none⟩ = some (.slice (some ⟨tB, tO, none⟩) tb.length tc) ∧ wx.cell? ⟨w.heap.size, 3, none⟩ = some (.int .i64 fl)) w5 := ⟨HK5.out.cellOf hS.1 (fun e => by have e' : w.heap.size = W.heap.size := e; omega), HK5.out.cellOf hS.2 (fun e => by have e' : w.heap.size = W.heap.size := e; omega)⟩
    refine hK.out _ _ (fun _ => hS) ?_
    clear hK K
    refine wpAnyV_done (by kernel_rfl) ?_
    try simp only [Act.put, sA, s0, sS]
    have HBO5 := hid (HBO.out.same HKW.out)
    have ho5 := HBO5.out.c0
    have fo5 := HBO5.out.frozen
    have lo5 := HBO5.out.lt
    have hz5 := HKW.out.size
    have lD5 := HD5.out.lt
    have HKO := (show Hid ((w5.alloc (.cells #[.int .i64 1, .int .i64 (logPlace s (at0 + 512 * (k : Int))), .slice (some ⟨W.heap.size, 0, none⟩) 512 512] 46)).ownsRow 0 46 3 (.slice aa na ca) pre.length (kOp.all qs)) from by have h := (HO.out.same (HKW.out.alloc (.cells #[.int .i64 1, .int .i64 (logPlace s (at0 + 512 * (k : Int))), .slice (some ⟨W.heap.size, 0, none⟩) 512 512] 46))).row; rw [hql] at h; exact h)
    have HN6 := hid (Blk.newL w5 [.int .i64 1, .int .i64 (logPlace s (at0 + 512 * (k : Int))), .slice (some ⟨W.heap.size, 0, none⟩) 512 512] 46)
    have HBO6 := (show Hid (Blk (w5.alloc (.cells #[.int .i64 1, .int .i64 (logPlace s (at0 + 512 * (k : Int))), .slice (some ⟨W.heap.size, 0, none⟩) 512 512] 46)) w1.heap.size 35 [.slice aa na ca]) from HBO5.out.alloc _)
    have hnf : ¬ (Value.slice aa na ca).ownBlock = some w1.heap.size := fun e => by have := HF.out _ (.inl e); omega
    have hpl : pre.length ≤ 4096 := by omega
    refine round_region (letsOut_block letsOut_ownG) rfl ?_
    go_wp2_with (at_builtin; go_loud (refine wpList_append_lies _ rfl (.tmp 37) (.tmp 41) 35 rfl 0 46 i0 _ 3 40 Try.underlying35 hi hz0 hz1 hz2 rfl (by omega) (.slice aa na ca) pre.length (kOp.all qs) rfl (by exact HKO.out) ⟨w5.heap.size, 0, none⟩ 1 1 [.int .i64 1, .int .i64 (logPlace s (at0 + 512 * (k : Int))), .slice (some ⟨W.heap.size, 0, none⟩) 512 512] rfl rfl (World.news_of_block (cs := #[.int .i64 1, .int .i64 (logPlace s (at0 + 512 * (k : Int))), .slice (some ⟨W.heap.size, 0, none⟩) 512 512]) (t := 46) (fr := (0, 0)) (by exact HN6.out)) (by simp [Value.oneCell']) (by omega) (by unfold maxLen; omega) (by omega) (Nat.zero_le _) (w5.heap.size + 1) (by simp) ?_); intro g6 cap6 w6 hown6 hgrow6 hat6 hlt6; have HB7 := (show Hid (Blk w6 w1.heap.size 35 [.slice aa na ca]) from HBO6.out.kept (Kept.of_grown hgrow6 (fun k e => e)) hnf); have HOWN6 := (show Hid (w6.ownsRow 0 46 3 (.slice (some ⟨g6, 0, none⟩) (pre.length + 1) cap6) (pre.length + 1) (kOp.all qs ++ [.int .i64 1, .int .i64 (logPlace s (at0 + 512 * (k : Int))), .slice (some ⟨W.heap.size, 0, none⟩) 512 512])) from hown6); have HG6 := (show Hid ((w5.alloc (.cells #[.int .i64 1, .int .i64 (logPlace s (at0 + 512 * (k : Int))), .slice (some ⟨W.heap.size, 0, none⟩) 512 512] 46)).grownBy w6 (Value.slice aa na ca).ownBlock) from hgrow6); have HAT6 : Hid ((Value.slice aa na ca).ownBlock = some g6 ∨ g6 = w5.heap.size + 1) := hat6; have z0 := HB7.out.cell 0; have fz6 := HB7.out.frozen; have lz6 := HB7.out.lt; clear hown6 hgrow6 hat6)
    have hOD := (show Own 0 5 .u8 w5 (.slice (some ⟨W.heap.size, 0, none⟩) 512 512) (chunkF tb k) from by
      have h := HD5.out.own (by rw [chunkF_length tb k (by rw [HM.out]; exact hkM)]; unfold maxLen; decide)
      rw [chunkF_length tb k (by rw [HM.out]; exact hkM)] at h
      exact h)
    have hsnoc := OwnR.snoc (K := kOp) (⟨1, logPlace s (at0 + 512 * (k : Int)), .slice (some ⟨W.heap.size, 0, none⟩) 512 512, chunkF tb k⟩ : EOp) (HO.out.same (HKW.out.alloc (.cells #[.int .i64 1, .int .i64 (logPlace s (at0 + 512 * (k : Int))), .slice (some ⟨W.heap.size, 0, none⟩) 512 512] 46))) (hOD.same ((Kept.refl _ _).alloc _)) (fun b hb hf => by have h1 : W.heap.size = b := (by simpa [kOp, Value.ownBlock] using hb); have h2 := (HO.out.lt b hf).2; omega) HG6.out HOWN6.out hql.symm (by rw [World.size_alloc]; exact HAT6.out)
    have hz7 : w5.heap.size + 1 ≤ w6.heap.size := by have h := HG6.out.size; rw [World.size_alloc] at h; exact h
    have hk6 : Kept (fun b => b = w1.heap.size ∨ (Value.slice aa na ca).ownBlock = some b) W w6 := ((HKW.out.alloc _).mono (fun _ _ e => e.elim)).grown HG6.out (fun i e => .inr (.inr e))
    have hk7 : Kept (fun b => b = w1.heap.size ∨ (Value.slice aa na ca).ownBlock = some b) W (w6.setCell ⟨w1.heap.size, 0, none⟩ (.slice (some ⟨g6, 0, none⟩) (pre.length + 1) cap6)) := Kept.setCell hk6 (p := ⟨w1.heap.size, 0, none⟩) (.inr (.inl rfl)) _
    have hfn : ∀ x, footR kOp (.slice (some ⟨g6, 0, none⟩) (pre.length + 1) cap6) (qs ++ [(⟨1, logPlace s (at0 + 512 * (k : Int)), .slice (some ⟨W.heap.size, 0, none⟩) 512 512, chunkF tb k⟩ : EOp)]) x → w2.heap.size ≤ x := fun x hx => by
      rcases footR_snoc (v := .slice aa na ca) x hx with rfl | hx | hx
      · rcases HAT6.out with h | h
        · exact HF.out _ (.inl h)
        · omega
      · exact HF.out x hx
      · have h1 : W.heap.size = x := (by simpa [kOp, Value.ownBlock] using hx)
        omega
    unfold ownPostG
    dsimp only
    refine ⟨?_, ?_, ?_⟩
    · refine keepsFrom_of hk7 ?_
      rintro b (rfl | hb)
      · exact HBO.out.not_bare
      · exact HO.out.not_bare (.inl hb)
    · intro x h1 h2
      refine hk7.block x (by omega) ?_
      rintro (rfl | h)
      · omega
      · have := HF.out _ (.inl h); omega
    · refine ⟨some ⟨g6, 0, none⟩, pre.length + 1, cap6, _, HB7.out.stored 0 _, ?_, hsnoc.kept (R := fun b => b = w1.heap.size) (Kept.setCell (R := fun b => b = w1.heap.size) (Kept.refl _ _) (p := ⟨w1.heap.size, 0, none⟩) (.inr rfl) _) (fun b hb e => by have := hfn b hb; omega), hfn, HBL.out.kept hk7 ?_, HK.out.next hk7 ?_⟩
      · have h := HQ.out
        simp only [datOpS, List.map_append] at h ⊢
        rw [h]; rfl
      · rintro (h | h)
        · omega
        · have := HF.out _ (.inl h); omega
      · rintro i hi (h | h)
        · exact h
        · have := HF.out _ (.inl h); omega
  case done =>
    rintro D xs W hD hS ⟨aa, na, ca, qs, hbo, hq, ho, hf, hbl, hk⟩ hK
    have hxl : xs.length = M := by have h := congrArg List.length hS; rwa [List.length_map, List.length_range] at h
    have hql : qs.length = M := by have h := congrArg List.length hq; rw [datOpS_length, List.length_map] at h; omega
    have HQ := hid hq
    have HS := hid hS
    have HO := hid ho
    have HF := hid hf
    have HKD := hid hK
    have HK := (show Hid (Same w W) from (HK1.out.trans HK2.out).next hk (fun i hi e => by omega))
    have o0 := hbo.c0
    have HKO := (show Hid ((W.alloc (.cells #[.int .i64 2, .int .i64 0, .slice none 0 0] 46)).ownsRow 0 46 3 (.slice aa na ca) M (kOp.all qs)) from by have h := (ho.same ((Kept.refl _ _).alloc (.cells #[.int .i64 2, .int .i64 0, .slice none 0 0] 46))).row; rw [hql] at h; exact h)
    have HN5 := hid (Blk.newL W [.int .i64 2, .int .i64 0, .slice none 0 0] 46)
    have hml : M ≤ 4096 := by omega
    have hzD : D < W.heap.size := (Array.getElem?_eq_some_iff.1 hK).1
    have hDO : ∀ x, footR kOp (.slice aa na ca) qs x → x ≠ D := fun x hx e => ho.not_bare (B := 0) hx ⟨Nat.zero_le _, _, e ▸ hK, rfl⟩
    have HDO := hid hDO
    have hw2 : w.heap.size ≤ w2.heap.size := by have h1 := HK1.out.size; have h2 := HK2.out.size; omega
    clear hbo hq hS ho hf hbl hk hK hDO
    go_wp2_with (at_builtin; go_loud (refine wpList_append_lies _ rfl (.tmp 43) (.tmp 45) 35 rfl 0 46 i0 _ 3 40 Try.underlying35 hi hz0 hz1 hz2 rfl (by omega) (.slice aa na ca) M (kOp.all qs) rfl (by exact HKO.out) ⟨W.heap.size, 0, none⟩ 1 1 [.int .i64 2, .int .i64 0, .slice none 0 0] rfl rfl (World.news_of_block (cs := #[.int .i64 2, .int .i64 0, .slice none 0 0]) (t := 46) (fr := (0, 0)) (by exact HN5.out)) (by simp [Value.oneCell']) (by omega) (by unfold maxLen; omega) (by omega) (Nat.zero_le _) (W.heap.size + 1) (by simp) ?_); intro g5 cap5 w5 hown5 hgrow5 hat5 hlt5; have HOWN5 := (show Hid (w5.ownsRow 0 46 3 (.slice (some ⟨g5, 0, none⟩) (M + 1) cap5) (M + 1) (kOp.all qs ++ [.int .i64 2, .int .i64 0, .slice none 0 0])) from hown5); have HG5 := (show Hid ((W.alloc (.cells #[.int .i64 2, .int .i64 0, .slice none 0 0] 46)).grownBy w5 (Value.slice aa na ca).ownBlock) from hgrow5); have HAT5 : Hid ((Value.slice aa na ca).ownBlock = some g5 ∨ g5 = W.heap.size + 1) := hat5; clear hown5 hgrow5 hat5)
    have hsz := HK.out.size
    have hsnoc := OwnR.snoc (K := kOp) (⟨2, 0, .slice none 0 0, []⟩ : EOp) (HO.out.same ((Kept.refl _ _).alloc (.cells #[.int .i64 2, .int .i64 0, .slice none 0 0] 46))) (Own.nil _ _ _ _) (fun b hb hf => by simp [kOp, Value.ownBlock] at hb) HG5.out HOWN5.out hql.symm (by rw [World.size_alloc]; exact HAT5.out)
    have hk5 : Kept (fun b => (Value.slice aa na ca).ownBlock = some b) W w5 := ((Kept.refl _ _).alloc _).trans (Kept.of_grown HG5.out (fun k e => e))
    have hKD5 : w5.heap[D]? = some (Obj.deferred (some [])) := hk5.heap HKD.out (fun e => HDO.out D (.inl e) rfl)
    have hfn : ∀ x, footR kOp (.slice (some ⟨g5, 0, none⟩) (M + 1) cap5) (qs ++ [(⟨2, 0, .slice none 0 0, []⟩ : EOp)]) x → w2.heap.size ≤ x ∧ x ≠ D := fun x hx => by
      rcases footR_snoc (v := .slice aa na ca) x hx with rfl | hx | hx
      · rcases HAT5.out with h | h
        · exact ⟨HF.out _ (.inl h), HDO.out _ (.inl h)⟩
        · omega
      · exact ⟨HF.out x hx, HDO.out x hx⟩
      · simp [kOp, Value.ownBlock] at hx
    refine ⟨by simp, .inl ⟨_, _, rfl, run_takeDeferred hKD5, ?_⟩⟩
    have hkD : Kept (fun b => b = D) w5 (w5.putObj D (.deferred none)) := Kept.of_grown (grownBy_putObj' _ D (.deferred none)) (fun r e => by cases e; rfl)
    refine ⟨_, results_tmp rfl _ _ _, _, rfl, _, _, _, _, rfl, ?_, fun x hx => Nat.le_trans hw2 (hfn x hx).1, hsnoc.kept hkD (fun b hb e => (hfn b hb).2 e), ?_⟩
    · have h := HQ.out
      have h2 : xs.map (opK s at0 tb M) = opsF s at0 tb M := by
        unfold opsF
        rw [← HS.out, List.map_map]
        rfl
      simp only [datOpS, List.map_append] at h ⊢
      rw [h, h2]; rfl
    · exact (HK.out.next hk5 (fun i hi e => by have := HF.out i (.inl e); omega)).next hkD (fun i hi e => by have e' : i = D := e; omega)
end Go.Proofs.Ytmnhflanhchdeaa

namespace Go.Proofs.Ytmnhflanhchdeaa
set_option maxRecDepth 100000
set_option maxHeartbeats 16000000
open Go.RowKit
set_option linter.unusedVariables false
theorem logFlushOps_law (x0 : StLog) (w : World) (hv0 : StLog.rd w x0) (hB0 : x0.isB) :
    Calls Try.prog 6 #[x0.val] w fun e w' => e = .returned (.bool true) ∧ Same w w' := by
  obtain ⟨p0sectors, p0epoch, p0stop, p0flushed, ⟨p0tail_e, p0tail_a, p0tail_c, p0tail_b⟩⟩ := x0
  have HV0 := (show Hid (StLog.rd w ⟨p0sectors, p0epoch, p0stop, p0flushed, ⟨p0tail_e, p0tail_a, p0tail_c, p0tail_b⟩⟩) from hv0)
  clear hv0
  have HB0 := (show Hid (StLog.isB ⟨p0sectors, p0epoch, p0stop, p0flushed, ⟨p0tail_e, p0tail_a, p0tail_c, p0tail_b⟩⟩) from hB0)
  clear hB0
  dsimp only [StLog.val, BS.v]
  go_enter Try.func6, Try.ntmps6
  have HKw : Hid (Same w w) := Kept.refl _ _
  go_wp2_with fail
  refine (szLog_any ⟨p0sectors, p0epoch, p0stop, p0flushed, ⟨p0tail_e, p0tail_a, p0tail_c, p0tail_b⟩⟩ _ _ (by omega) (by omega) (HV0.out.same ((Kept.refl _ _).alloc _))).mono ?_
  rintro e w1 ⟨sz0, rfl, hr, hk⟩
  have hkk : Same w w1 := ((Kept.refl _ _).alloc _).trans hk
  have hzw1 := hk.size
  rw [World.size_alloc] at hzw1
  have HA0w1 := (show Hid (Blk w1 (w.heap.size) 26 [.int .i64 p0sectors, .int .i64 p0epoch, .int .i64 p0stop, .int .i64 p0flushed, .slice p0tail_a p0tail_b.length p0tail_c]) from (Blk.new w #[.int .i64 p0sectors, .int .i64 p0epoch, .int .i64 p0stop, .int .i64 p0flushed, .slice p0tail_a p0tail_b.length p0tail_c] 26).same hk)
  have HKw1 := (show Hid (Same w w1) from HKw.out.trans hkk)
  clear hkk hk
  rcases hr with rfl | ⟨hr, hr0⟩
  · go_wp2
    go_ret
    exact ⟨rfl, HKw1.out⟩
  have hsz0 : StLog.szs ⟨p0sectors, p0epoch, p0stop, p0flushed, ⟨p0tail_e, p0tail_a, p0tail_c, p0tail_b⟩⟩ ≤ 1048576 := by omega
  clear hr
  have cA0_0 := HA0w1.out.c0
  have cA0_1 := HA0w1.out.c1
  have cA0_2 := HA0w1.out.c2
  have cA0_3 := HA0w1.out.c3
  have cA0_4 := HA0w1.out.c4
  have lA0 := HA0w1.out.lt
  go_wp2_with fail
  refine (toLog_any ⟨p0sectors, p0epoch, p0stop, p0flushed, ⟨p0tail_e, p0tail_a, p0tail_c, p0tail_b⟩⟩ _ (by omega) (HV0.out.same HKw1.out)).mono ?_
  rintro e w2 ⟨⟨C0sectors, C0epoch, C0stop, C0flushed, ⟨C0tail_e, C0tail_a, C0tail_c, C0tail_b⟩⟩, rfl, hd, hz, hf, ho, hk⟩
  have HCC0 := (show Hid (StLog.dat ⟨C0sectors, C0epoch, C0stop, C0flushed, ⟨C0tail_e, C0tail_a, C0tail_c, C0tail_b⟩⟩ = StLog.dat ⟨p0sectors, p0epoch, p0stop, p0flushed, ⟨p0tail_e, p0tail_a, p0tail_c, p0tail_b⟩⟩) from hd)
  have HZC0 := (show Hid (StLog.szs ⟨C0sectors, C0epoch, C0stop, C0flushed, ⟨C0tail_e, C0tail_a, C0tail_c, C0tail_b⟩⟩ = StLog.szs ⟨p0sectors, p0epoch, p0stop, p0flushed, ⟨p0tail_e, p0tail_a, p0tail_c, p0tail_b⟩⟩) from hz)
  clear hd hz
  dsimp only [StLog.val, BS.v]
  have HFC0 := (show Hid (∀ b, FootL (StLog.rows ⟨C0sectors, C0epoch, C0stop, C0flushed, ⟨C0tail_e, C0tail_a, C0tail_c, C0tail_b⟩⟩) b → w1.heap.size ≤ b ∧ b < w2.heap.size) from fun b hb => ⟨hf b hb, ho.lt b hb⟩)
  have HC0w2 := (show Hid (OwnL w2 (StLog.rows ⟨C0sectors, C0epoch, C0stop, C0flushed, ⟨C0tail_e, C0tail_a, C0tail_c, C0tail_b⟩⟩)) from ho)
  clear hf ho
  have hkk : Same w1 w2 := hk
  have hzw2 := hkk.size
  have HA0w2 := hid (HA0w1.out.same hkk)
  have HKw2 := (show Hid (Same w w2) from HKw1.out.trans hkk)
  clear hkk hk
  clear cA0_0 cA0_1 cA0_2 cA0_3 cA0_4 lA0
  have cA0_0 := HA0w2.out.c0
  have cA0_1 := HA0w2.out.c1
  have cA0_2 := HA0w2.out.c2
  have cA0_3 := HA0w2.out.c3
  have cA0_4 := HA0w2.out.c4
  have lA0 := HA0w2.out.lt
  go_wp2_with fail
  refine (specFlushOps_any ⟨C0sectors, C0epoch, C0stop, C0flushed, ⟨C0tail_e, C0tail_a, C0tail_c, C0tail_b⟩⟩ _ (StLog.isB_dat HCC0.out HB0.out) (by have := HZC0.out; omega) (StLog.own_rd HC0w2.out)).mono ?_
  rintro e w3 ⟨_, rfl, aW, nW, cW, qsW, rfl, hR, hf, ho, hk⟩
  rw [HCC0.out] at hR
  have HR := (show Hid (datOpS qsW = flushD (StLog.dat ⟨p0sectors, p0epoch, p0stop, p0flushed, ⟨p0tail_e, p0tail_a, p0tail_c, p0tail_b⟩⟩)) from hR)
  have HSM : Hid (∀ qs : List EOp, datOpS qs = datOpS qsW → qs.length ≤ 1048576 ∧ sizeOpS qs ≤ 16777216) := fun qs hd => by
    have hd := hd.trans HR.out
    have h2 := flushD_small (d := StLog.dat ⟨p0sectors, p0epoch, p0stop, p0flushed, ⟨p0tail_e, p0tail_a, p0tail_c, p0tail_b⟩⟩) (by have h := hsz0; simp only [StLog.szs] at h; dsimp only [StLog.dat]; omega) hd
    omega
  have HFW := (show Hid (∀ b, footR kOp (.slice aW nW cW) qsW b → w2.heap.size ≤ b ∧ b < w3.heap.size) from fun b hb => ⟨hf b hb, (ho.lt b hb).2⟩)
  have HWw3 := (show Hid (OwnR kOp 0 46 5 w3 (.slice aW nW cW) qsW) from ho)
  clear hf ho hR
  have hkk : Same w2 w3 := hk
  have hzw3 := hkk.size
  have HA0w3 := hid (HA0w2.out.same hkk)
  have HC0w3 := hid (HC0w2.out.same hkk)
  have HKw3 := (show Hid (Same w w3) from HKw2.out.trans hkk)
  clear hkk hk
  clear cA0_0 cA0_1 cA0_2 cA0_3 cA0_4 lA0
  have cA0_0 := HA0w3.out.c0
  have cA0_1 := HA0w3.out.c1
  have cA0_2 := HA0w3.out.c2
  have cA0_3 := HA0w3.out.c3
  have cA0_4 := HA0w3.out.c4
  have lA0 := HA0w3.out.lt
  go_wp2_with fail
  refine (toLog_any ⟨p0sectors, p0epoch, p0stop, p0flushed, ⟨p0tail_e, p0tail_a, p0tail_c, p0tail_b⟩⟩ _ (by omega) (HV0.out.same HKw3.out)).mono ?_
  rintro e w4 ⟨⟨X0sectors, X0epoch, X0stop, X0flushed, ⟨X0tail_e, X0tail_a, X0tail_c, X0tail_b⟩⟩, rfl, hd, hz, hf, ho, hk⟩
  have HCX0 := (show Hid (StLog.dat ⟨X0sectors, X0epoch, X0stop, X0flushed, ⟨X0tail_e, X0tail_a, X0tail_c, X0tail_b⟩⟩ = StLog.dat ⟨p0sectors, p0epoch, p0stop, p0flushed, ⟨p0tail_e, p0tail_a, p0tail_c, p0tail_b⟩⟩) from hd)
  have HZX0 := (show Hid (StLog.szs ⟨X0sectors, X0epoch, X0stop, X0flushed, ⟨X0tail_e, X0tail_a, X0tail_c, X0tail_b⟩⟩ = StLog.szs ⟨p0sectors, p0epoch, p0stop, p0flushed, ⟨p0tail_e, p0tail_a, p0tail_c, p0tail_b⟩⟩) from hz)
  clear hd hz
  dsimp only [StLog.val, BS.v]
  have HFX0 := (show Hid (∀ b, FootL (StLog.rows ⟨X0sectors, X0epoch, X0stop, X0flushed, ⟨X0tail_e, X0tail_a, X0tail_c, X0tail_b⟩⟩) b → w3.heap.size ≤ b ∧ b < w4.heap.size) from fun b hb => ⟨hf b hb, ho.lt b hb⟩)
  have HX0w4 := (show Hid (OwnL w4 (StLog.rows ⟨X0sectors, X0epoch, X0stop, X0flushed, ⟨X0tail_e, X0tail_a, X0tail_c, X0tail_b⟩⟩)) from ho)
  clear hf ho
  have hkk : Same w3 w4 := hk
  have hzw4 := hkk.size
  have HA0w4 := hid (HA0w3.out.same hkk)
  have HWw4 := (show Hid (OwnR kOp 0 46 5 w4 (.slice aW nW cW) qsW) from HWw3.out.same hkk)
  have HKw4 := (show Hid (Same w w4) from HKw3.out.trans hkk)
  clear hkk hk
  clear cA0_0 cA0_1 cA0_2 cA0_3 cA0_4 lA0
  have cA0_0 := HA0w4.out.c0
  have cA0_1 := HA0w4.out.c1
  have cA0_2 := HA0w4.out.c2
  have cA0_3 := HA0w4.out.c3
  have cA0_4 := HA0w4.out.c4
  have lA0 := HA0w4.out.lt
  go_wp2_with fail
  refine (implFlushOps_any ⟨X0sectors, X0epoch, X0stop, X0flushed, ⟨X0tail_e, X0tail_a, X0tail_c, X0tail_b⟩⟩ _ (StLog.isB_dat HCX0.out HB0.out) (by have := HZX0.out; omega) (StLog.own_rd (HX0w4.out.same ((Kept.refl _ _).alloc _)))).mono ?_
  rintro e w5 ⟨_, rfl, aG, nG, cG, qsG, rfl, hR, hf, ho, hk⟩
  rw [HCX0.out] at hR
  have HQG : Hid (datOpS qsG = datOpS qsW) := hR.trans HR.out.symm
  simp only [World.size_alloc] at hf
  have HFG := (show Hid (∀ b, footR kOp (.slice aG nG cG) qsG b → w4.heap.size < b ∧ b < w5.heap.size) from fun b hb => ⟨by have := hf b hb; omega, (ho.lt b hb).2⟩)
  have HGw5 := (show Hid (OwnR kOp 0 46 5 w5 (.slice aG nG cG) qsG) from ho)
  clear hf ho hR
  have hkk : Same w4 w5 := ((Kept.refl _ _).alloc _).trans hk
  have hzw5 := hk.size
  rw [World.size_alloc] at hzw5
  have HA0w5 := hid (HA0w4.out.same hkk)
  have HWw5 := (show Hid (OwnR kOp 0 46 5 w5 (.slice aW nW cW) qsW) from HWw4.out.same hkk)
  have HX0w5 := hid (HX0w4.out.same hkk)
  have HT0w5 := (show Hid (Blk w5 (w4.heap.size) 29 [.int .i64 X0sectors, .int .i64 X0epoch, .int .i64 X0stop, .int .i64 X0flushed, .slice X0tail_a X0tail_b.length X0tail_c]) from (Blk.new w4 #[.int .i64 X0sectors, .int .i64 X0epoch, .int .i64 X0stop, .int .i64 X0flushed, .slice X0tail_a X0tail_b.length X0tail_c] 29).same hk)
  have HKw5 := (show Hid (Same w w5) from HKw4.out.trans hkk)
  clear hkk hk
  clear cA0_0 cA0_1 cA0_2 cA0_3 cA0_4 lA0
  have cA0_0 := HA0w5.out.c0
  have cA0_1 := HA0w5.out.c1
  have cA0_2 := HA0w5.out.c2
  have cA0_3 := HA0w5.out.c3
  have cA0_4 := HA0w5.out.c4
  have lA0 := HA0w5.out.lt
  have cT0_0 := HT0w5.out.c0
  have cT0_1 := HT0w5.out.c1
  have cT0_2 := HT0w5.out.c2
  have cT0_3 := HT0w5.out.c3
  have cT0_4 := HT0w5.out.c4
  have lT0 := HT0w5.out.lt
  go_wp2_with fail
  refine (eqOpS_own 0 _ _ qsG qsW _ (Nat.le_trans (HSM.out qsG HQG.out).1 (by omega)) HQG.out (fun p hp => by have h1 := (HSM.out qsG HQG.out).2; have h2 := sizeOpS_mem qsG p hp; omega) HGw5.out HWw5.out).mono ?_
  rintro e w6 ⟨rfl, hk⟩
  have hkk : Same w5 w6 := hk
  have hzw6 := hkk.size
  have HA0w6 := hid (HA0w5.out.same hkk)
  have HWw6 := (show Hid (OwnR kOp 0 46 5 w6 (.slice aW nW cW) qsW) from HWw5.out.same hkk)
  have HX0w6 := hid (HX0w5.out.same hkk)
  have HT0w6 := hid (HT0w5.out.same hkk)
  have HGw6 := (show Hid (OwnR kOp 0 46 5 w6 (.slice aG nG cG) qsG) from HGw5.out.same hkk)
  have HKw6 := (show Hid (Same w w6) from HKw5.out.trans hkk)
  clear hkk hk
  clear cA0_0 cA0_1 cA0_2 cA0_3 cA0_4 lA0 cT0_0 cT0_1 cT0_2 cT0_3 cT0_4 lT0
  have cA0_0 := HA0w6.out.c0
  have cA0_1 := HA0w6.out.c1
  have cA0_2 := HA0w6.out.c2
  have cA0_3 := HA0w6.out.c3
  have cA0_4 := HA0w6.out.c4
  have lA0 := HA0w6.out.lt
  have cT0_0 := HT0w6.out.c0
  have cT0_1 := HT0w6.out.c1
  have cT0_2 := HT0w6.out.c2
  have cT0_3 := HT0w6.out.c3
  have cT0_4 := HT0w6.out.c4
  have lT0 := HT0w6.out.lt
  go_wp2_with fail
  go_cut [31] (fun v wc => v = .bool false ∧ Hid (Same w6 wc))
  case first =>
    have HD1 : Hid (Same w w6.drew) := HKw6.out.drew
    have HD2 : Hid (Same w6 w6.drew) := (Kept.refl _ _).drew
    go_region_with (first | (go_at_call 11; refine (toLog_any ⟨p0sectors, p0epoch, p0stop, p0flushed, ⟨p0tail_e, p0tail_a, p0tail_c, p0tail_b⟩⟩ _ (by omega) (by exact HV0.out.same HD1.out)).mono ?_; rintro e wx7 ⟨⟨zsectors, zepoch, zstop, zflushed, ⟨ztail_e, ztail_a, ztail_c, ztail_b⟩⟩, rfl, hd7, _, hf7, ho7, hk7⟩; have HO7 := (show Hid (OwnL wx7 (StLog.rows ⟨zsectors, zepoch, zstop, zflushed, ⟨ztail_e, ztail_a, ztail_c, ztail_b⟩⟩)) from ho7); have HQ7 := (show Hid (StLog.dat ⟨zsectors, zepoch, zstop, zflushed, ⟨ztail_e, ztail_a, ztail_c, ztail_b⟩⟩ = StLog.dat ⟨p0sectors, p0epoch, p0stop, p0flushed, ⟨p0tail_e, p0tail_a, p0tail_c, p0tail_b⟩⟩) from hd7); have HK7 : Hid (Same w6 wx7) := HD2.out.trans hk7; clear ho7 hd7 hf7 hk7; dsimp only [StLog.val, BS.v]; have y0 : wx7.cell? ⟨w4.heap.size, 0, none⟩ = some (.int .i64 X0sectors) := (HT0w6.out.same HK7.out).cell 0; have y1 : wx7.cell? ⟨w4.heap.size, 1, none⟩ = some (.int .i64 X0epoch) := (HT0w6.out.same HK7.out).cell 1; have y2 : wx7.cell? ⟨w4.heap.size, 2, none⟩ = some (.int .i64 X0stop) := (HT0w6.out.same HK7.out).cell 2; have y3 : wx7.cell? ⟨w4.heap.size, 3, none⟩ = some (.int .i64 X0flushed) := (HT0w6.out.same HK7.out).cell 3; have y4 : wx7.cell? ⟨w4.heap.size, 4, none⟩ = some (.slice X0tail_a X0tail_b.length X0tail_c) := (HT0w6.out.same HK7.out).cell 4) | (go_at_call 13; refine (eqLog_own ⟨X0sectors, X0epoch, X0stop, X0flushed, ⟨X0tail_e, X0tail_a, X0tail_c, X0tail_b⟩⟩ ⟨zsectors, zepoch, zstop, zflushed, ⟨ztail_e, ztail_a, ztail_c, ztail_b⟩⟩ _ (by have h1 := StLog.size_rd (StLog.own_rd HX0w6.out); have h2 := HZX0.out; omega) (HCX0.out.trans HQ7.out.symm) (HX0w6.out.same HK7.out) HO7.out).mono ?_; rintro e wx8 ⟨rfl, hk8⟩))
    all_goals
      have HK8 : Hid (Same w6 wx8) := HK7.out.trans hk8
      clear hk8
      go_wp2_with fail
      go_meet
      case rel => exact ⟨rfl, HK8⟩
  case rest =>
  obtain ⟨rfl, HKC⟩ := hcut
  obtain ⟨w7, hwc⟩ : ∃ x, x = wc := ⟨_, rfl⟩
  subst hwc
  clear cA0_0 cA0_1 cA0_2 cA0_3 cA0_4 lA0 cT0_0 cT0_1 cT0_2 cT0_3 cT0_4 lT0
  have hkk : Same w6 w7 := HKC.out
  have hzw7 := hkk.size
  have HA0w7 := hid (HA0w6.out.same hkk)
  have HWw7 := (show Hid (OwnR kOp 0 46 5 w7 (.slice aW nW cW) qsW) from HWw6.out.same hkk)
  have HX0w7 := hid (HX0w6.out.same hkk)
  have HT0w7 := hid (HT0w6.out.same hkk)
  have HGw7 := (show Hid (OwnR kOp 0 46 5 w7 (.slice aG nG cG) qsG) from HGw6.out.same hkk)
  have HKw7 := (show Hid (Same w w7) from HKw6.out.trans hkk)
  clear hkk
  have hE0 : (0 : Int) ≤ 1 := by omega
  have hE0b : (1 : Int) ≤ 1 := by omega
  have hxz0 := StLog.size_rd (StLog.own_rd HX0w7.out)
  have hxy0 := HZX0.out
  have hxx0 := StLog.size_le ⟨X0sectors, X0epoch, X0stop, X0flushed, ⟨X0tail_e, X0tail_a, X0tail_c, X0tail_b⟩⟩
  obtain ⟨E1, hE⟩ : ∃ E, 1 + StLog.size ⟨X0sectors, X0epoch, X0stop, X0flushed, ⟨X0tail_e, X0tail_a, X0tail_c, X0tail_b⟩⟩ = E := ⟨_, rfl⟩
  have hE1 : 0 ≤ E1 := by omega
  have hE1b : E1 ≤ 7000001 := by omega
  have HE1 := (show Hid (1 + StLog.size ⟨X0sectors, X0epoch, X0stop, X0flushed, ⟨X0tail_e, X0tail_a, X0tail_c, X0tail_b⟩⟩ = E1) from hE)
  clear hE hxz0 hxy0 hxx0
  have cA0_0 := HA0w7.out.c0
  have cA0_1 := HA0w7.out.c1
  have cA0_2 := HA0w7.out.c2
  have cA0_3 := HA0w7.out.c3
  have cA0_4 := HA0w7.out.c4
  have lA0 := HA0w7.out.lt
  have cT0_0 := HT0w7.out.c0
  have cT0_1 := HT0w7.out.c1
  have cT0_2 := HT0w7.out.c2
  have cT0_3 := HT0w7.out.c3
  have cT0_4 := HT0w7.out.c4
  have lT0 := HT0w7.out.lt
  go_wp2_with fail
  have hm := markLog_own ⟨X0sectors, X0epoch, X0stop, X0flushed, ⟨X0tail_e, X0tail_a, X0tail_c, X0tail_b⟩⟩ 1 w7 (by omega) (by rw [HE1.out]; omega) HX0w7.out
  rw [HE1.out] at hm
  dsimp only [StLog.val, BS.v] at hm
  refine hm.mono ?_
  clear hm
  rintro e w8 ⟨rfl, _, hk⟩
  have hzw8 := hk.size
  have HA0w8 := (show Hid (Blk w8 (w.heap.size) 26 [.int .i64 p0sectors, .int .i64 p0epoch, .int .i64 p0stop, .int .i64 p0flushed, .slice p0tail_a p0tail_b.length p0tail_c]) from HA0w7.out.kept hk (fun e => by have h1 := HFX0.out _ e; omega))
  have HWw8 := (show Hid (OwnR kOp 0 46 5 w8 (.slice aW nW cW) qsW) from HWw7.out.kept hk (fun b hb e => by have h1 := HFX0.out _ e; have h2 := HFW.out b hb; omega))
  have HT0w8 := (show Hid (Blk w8 (w4.heap.size) 29 [.int .i64 X0sectors, .int .i64 X0epoch, .int .i64 X0stop, .int .i64 X0flushed, .slice X0tail_a X0tail_b.length X0tail_c]) from HT0w7.out.kept hk (fun e => by have h1 := HFX0.out _ e; omega))
  have HGw8 := (show Hid (OwnR kOp 0 46 5 w8 (.slice aG nG cG) qsG) from HGw7.out.kept hk (fun b hb e => by have h1 := HFX0.out _ e; have h2 := HFG.out b hb; omega))
  have HKw8 := (show Hid (Same w w8) from HKw7.out.next hk (fun b hb e => by have h1 := HFX0.out _ e; omega))
  clear cA0_0 cA0_1 cA0_2 cA0_3 cA0_4 lA0 cT0_0 cT0_1 cT0_2 cT0_3 cT0_4 lT0
  clear hk
  have hEn : ¬ E1 < 0 := by omega
  have cA0_0 := HA0w8.out.c0
  have cA0_1 := HA0w8.out.c1
  have cA0_2 := HA0w8.out.c2
  have cA0_3 := HA0w8.out.c3
  have cA0_4 := HA0w8.out.c4
  have lA0 := HA0w8.out.lt
  go_wp2_with fail
  refine (eqOpS_own 0 _ _ qsG qsW _ (Nat.le_trans (HSM.out qsG HQG.out).1 (by omega)) HQG.out (fun p hp => by have h1 := (HSM.out qsG HQG.out).2; have h2 := sizeOpS_mem qsG p hp; omega) HGw8.out HWw8.out).mono ?_
  rintro e w9 ⟨rfl, hk⟩
  have hkk : Same w8 w9 := hk
  have hzw9 := hkk.size
  have HA0w9 := hid (HA0w8.out.same hkk)
  have HWw9 := (show Hid (OwnR kOp 0 46 5 w9 (.slice aW nW cW) qsW) from HWw8.out.same hkk)
  have HGw9 := (show Hid (OwnR kOp 0 46 5 w9 (.slice aG nG cG) qsG) from HGw8.out.same hkk)
  have HKw9 := (show Hid (Same w w9) from HKw8.out.trans hkk)
  clear hkk hk
  clear cA0_0 cA0_1 cA0_2 cA0_3 cA0_4 lA0
  have hgs := HSM.out qsG HQG.out
  obtain ⟨M, hM⟩ : ∃ M, endR mOp 1 qsG = M := ⟨_, rfl⟩
  have hM0 : 0 ≤ M := by rw [← hM, endOpS_size]; omega
  have hM1 : M ≤ 1125899906842624 := by rw [← hM, endOpS_size]; omega
  have HM : Hid (endR mOp 1 qsG = M) := hM
  clear hM
  have hM2 : ¬ M < 0 := by omega
  have cA0_0 := HA0w9.out.c0
  have cA0_1 := HA0w9.out.c1
  have cA0_2 := HA0w9.out.c2
  have cA0_3 := HA0w9.out.c3
  have cA0_4 := HA0w9.out.c4
  have lA0 := HA0w9.out.lt
  go_wp2_with fail
  have hm := markOpS_own 0 (.slice aG nG cG) qsG 1 w9 (by omega) (by rw [HM.out]; exact hM1) (by omega) HGw9.out
  rw [HM.out] at hm
  refine hm.mono ?_
  clear hm
  rintro e w10 ⟨rfl, ho, hk⟩
  have hzw10 := hk.size
  have HA0w10 := (show Hid (Blk w10 (w.heap.size) 26 [.int .i64 p0sectors, .int .i64 p0epoch, .int .i64 p0stop, .int .i64 p0flushed, .slice p0tail_a p0tail_b.length p0tail_c]) from HA0w9.out.kept hk (fun e => by have h1 := HFG.out _ e; omega))
  have HWw10 := (show Hid (OwnR kOp 0 46 5 w10 (.slice aW nW cW) qsW) from HWw9.out.kept hk (fun b hb e => by have h1 := HFG.out _ e; have h2 := HFW.out b hb; omega))
  have HKw10 := (show Hid (Same w w10) from HKw9.out.next hk (fun b hb e => by have h1 := HFG.out _ e; omega))
  have HUw10 := (show Hid (OwnR kOp 0 46 5 w10 (.slice aG nG cG) (markR mOp 1 qsG)) from ho)
  clear cA0_0 cA0_1 cA0_2 cA0_3 cA0_4 lA0
  clear hk ho
  have cA0_0 := HA0w10.out.c0
  have cA0_1 := HA0w10.out.c1
  have cA0_2 := HA0w10.out.c2
  have cA0_3 := HA0w10.out.c3
  have cA0_4 := HA0w10.out.c4
  have lA0 := HA0w10.out.lt
  go_wp2_with fail
  have hm := heldOpS_own 0 (.slice aG nG cG) qsG 1 w10 (by omega) (by rw [HM.out]; exact hM1) (by omega) HUw10.out
  rw [HM.out] at hm
  refine hm.mono ?_
  clear hm
  rintro e w11 ⟨rfl, hww⟩
  have hk : Same w10 w11 := by rw [hww]; exact Kept.refl _ _
  clear hww
  have hkk : Same w10 w11 := hk
  have hzw11 := hkk.size
  have HA0w11 := hid (HA0w10.out.same hkk)
  have HWw11 := (show Hid (OwnR kOp 0 46 5 w11 (.slice aW nW cW) qsW) from HWw10.out.same hkk)
  have HUw11 := hid (HUw10.out.same hkk)
  have HKw11 := (show Hid (Same w w11) from HKw10.out.trans hkk)
  clear hkk hk
  clear cA0_0 cA0_1 cA0_2 cA0_3 cA0_4 lA0
  have cA0_0 := HA0w11.out.c0
  have cA0_1 := HA0w11.out.c1
  have cA0_2 := HA0w11.out.c2
  have cA0_3 := HA0w11.out.c3
  have cA0_4 := HA0w11.out.c4
  have lA0 := HA0w11.out.lt
  go_wp2_with fail
  refine (toLog_any ⟨p0sectors, p0epoch, p0stop, p0flushed, ⟨p0tail_e, p0tail_a, p0tail_c, p0tail_b⟩⟩ _ (by omega) (HV0.out.same HKw11.out)).mono ?_
  rintro e w12 ⟨⟨J0sectors, J0epoch, J0stop, J0flushed, ⟨J0tail_e, J0tail_a, J0tail_c, J0tail_b⟩⟩, rfl, hd, hz, hf, ho, hk⟩
  have HCJ0 := (show Hid (StLog.dat ⟨J0sectors, J0epoch, J0stop, J0flushed, ⟨J0tail_e, J0tail_a, J0tail_c, J0tail_b⟩⟩ = StLog.dat ⟨p0sectors, p0epoch, p0stop, p0flushed, ⟨p0tail_e, p0tail_a, p0tail_c, p0tail_b⟩⟩) from hd)
  have HZJ0 := (show Hid (StLog.szs ⟨J0sectors, J0epoch, J0stop, J0flushed, ⟨J0tail_e, J0tail_a, J0tail_c, J0tail_b⟩⟩ = StLog.szs ⟨p0sectors, p0epoch, p0stop, p0flushed, ⟨p0tail_e, p0tail_a, p0tail_c, p0tail_b⟩⟩) from hz)
  clear hd hz
  dsimp only [StLog.val, BS.v]
  have HFJ0 := (show Hid (∀ b, FootL (StLog.rows ⟨J0sectors, J0epoch, J0stop, J0flushed, ⟨J0tail_e, J0tail_a, J0tail_c, J0tail_b⟩⟩) b → w11.heap.size ≤ b ∧ b < w12.heap.size) from fun b hb => ⟨hf b hb, ho.lt b hb⟩)
  have HJ0w12 := (show Hid (OwnL w12 (StLog.rows ⟨J0sectors, J0epoch, J0stop, J0flushed, ⟨J0tail_e, J0tail_a, J0tail_c, J0tail_b⟩⟩)) from ho)
  clear hf ho
  have hkk : Same w11 w12 := hk
  have hzw12 := hkk.size
  have HA0w12 := hid (HA0w11.out.same hkk)
  have HWw12 := (show Hid (OwnR kOp 0 46 5 w12 (.slice aW nW cW) qsW) from HWw11.out.same hkk)
  have HUw12 := hid (HUw11.out.same hkk)
  have HKw12 := (show Hid (Same w w12) from HKw11.out.trans hkk)
  clear hkk hk
  clear cA0_0 cA0_1 cA0_2 cA0_3 cA0_4 lA0
  have cA0_0 := HA0w12.out.c0
  have cA0_1 := HA0w12.out.c1
  have cA0_2 := HA0w12.out.c2
  have cA0_3 := HA0w12.out.c3
  have cA0_4 := HA0w12.out.c4
  have lA0 := HA0w12.out.lt
  go_wp2_with fail
  refine (implFlushOps_any ⟨J0sectors, J0epoch, J0stop, J0flushed, ⟨J0tail_e, J0tail_a, J0tail_c, J0tail_b⟩⟩ _ (StLog.isB_dat HCJ0.out HB0.out) (by have := HZJ0.out; omega) (StLog.own_rd HJ0w12.out)).mono ?_
  rintro e w13 ⟨_, rfl, aL, nL, cL, qsL, rfl, hR, hf, ho, hk⟩
  rw [HCJ0.out] at hR
  have HQL : Hid (datOpS qsL = datOpS qsW) := hR.trans HR.out.symm
  have HFL := (show Hid (∀ b, footR kOp (.slice aL nL cL) qsL b → w12.heap.size ≤ b ∧ b < w13.heap.size) from fun b hb => ⟨hf b hb, (ho.lt b hb).2⟩)
  have HLw13 := (show Hid (OwnR kOp 0 46 5 w13 (.slice aL nL cL) qsL) from ho)
  clear hf ho hR
  have hkk : Same w12 w13 := hk
  have hzw13 := hkk.size
  have HA0w13 := hid (HA0w12.out.same hkk)
  have HWw13 := (show Hid (OwnR kOp 0 46 5 w13 (.slice aW nW cW) qsW) from HWw12.out.same hkk)
  have HUw13 := hid (HUw12.out.same hkk)
  have HJ0w13 := hid (HJ0w12.out.same hkk)
  have HKw13 := (show Hid (Same w w13) from HKw12.out.trans hkk)
  clear hkk hk
  clear cA0_0 cA0_1 cA0_2 cA0_3 cA0_4 lA0
  have cA0_0 := HA0w13.out.c0
  have cA0_1 := HA0w13.out.c1
  have cA0_2 := HA0w13.out.c2
  have cA0_3 := HA0w13.out.c3
  have cA0_4 := HA0w13.out.c4
  have lA0 := HA0w13.out.lt
  go_wp2_with fail
  refine (eqOpS_own 0 _ _ qsL qsW _ (Nat.le_trans (HSM.out qsL HQL.out).1 (by omega)) HQL.out (fun p hp => by have h1 := (HSM.out qsL HQL.out).2; have h2 := sizeOpS_mem qsL p hp; omega) HLw13.out HWw13.out).mono ?_
  rintro e w14 ⟨rfl, hk⟩
  have hkk : Same w13 w14 := hk
  have hzw14 := hkk.size
  have HA0w14 := hid (HA0w13.out.same hkk)
  have HWw14 := (show Hid (OwnR kOp 0 46 5 w14 (.slice aW nW cW) qsW) from HWw13.out.same hkk)
  have HUw14 := hid (HUw13.out.same hkk)
  have HLw14 := (show Hid (OwnR kOp 0 46 5 w14 (.slice aL nL cL) qsL) from HLw13.out.same hkk)
  have HKw14 := (show Hid (Same w w14) from HKw13.out.trans hkk)
  clear hkk hk
  clear cA0_0 cA0_1 cA0_2 cA0_3 cA0_4 lA0
  have cA0_0 := HA0w14.out.c0
  have cA0_1 := HA0w14.out.c1
  have cA0_2 := HA0w14.out.c2
  have cA0_3 := HA0w14.out.c3
  have cA0_4 := HA0w14.out.c4
  have lA0 := HA0w14.out.lt
  go_wp2_with fail
  have hm := heldOpS_own 0 (.slice aG nG cG) qsG 1 w14 (by omega) (by rw [HM.out]; exact hM1) (by omega) HUw14.out
  rw [HM.out] at hm
  refine hm.mono ?_
  clear hm
  rintro e w15 ⟨rfl, hww⟩
  have hk : Same w14 w15 := by rw [hww]; exact Kept.refl _ _
  clear hww
  have hkk : Same w14 w15 := hk
  have hzw15 := hkk.size
  have HA0w15 := hid (HA0w14.out.same hkk)
  have HUw15 := hid (HUw14.out.same hkk)
  have HKw15 := (show Hid (Same w w15) from HKw14.out.trans hkk)
  clear hkk hk
  clear cA0_0 cA0_1 cA0_2 cA0_3 cA0_4 lA0
  go_wp2
  go_ret
  exact ⟨rfl, HKw15.out⟩
end Go.Proofs.Ytmnhflanhchdeaa

namespace Go.Proofs.Ytmnhflanhchdeaa.fnExactLogFlushOps
open Go.ChangeShapes Go.WideShapes Go.ChangeAt Go.RowKit
set_option linter.unusedVariables false
theorem own : ownKnob Try.prog.godebug = none := by kernel_rfl
theorem laidOut : laidOutB Try.prog = true := by kernel_rfl
set_option maxRecDepth 100000 in
theorem lifted (os : Os) (started : os.Started) (H : Type) (enc : TypeId × Value → H) :
    ReturnsInHanded {} Try.checked os 6 .any (Rows.fnExactLogFlushOpsSpec.pre6 enc Try.prog Try.f6 Rows.fnExactLogFlushOpsRow.domain false) (Rows.fnExactLogFlushOpsSpec.post enc Try.prog Try.f6 false true false false) := by
  refine returnsInHanded_of_change (C := Try.checked) own started (by kernel_rfl) Try.func6
    (ChangeSpec.witness6 (enc := enc) (C := Try.checked) false ⟨#[], #[.agg #[.int .i64 0, .int .i64 0, .int .i64 0, .int .i64 0, .slice none 0 0]], []⟩ 8 (by kernel_rfl) (by kernel_rfl) (by kernel_rfl) (by kernel_rfl)) ?_
  intro W base args ds gs before hval0 hW hcnd _
  have hval : ∀ (j : Nat) t v, Try.f6.params[j]? = some t → args[j]? = some v → Value.okWide Try.prog W .any base t v := hval0
  have hW' := hW
  obtain ⟨p, q, hA0, hV, rfl, hfz, hnd⟩ := hW
  have hA : DataW.TrodAll enc Try.prog W 0 (fun _ => true) true Try.f6.params.toList args.toList ds p := hA0
  rw [Try.params6] at hA hval
  obtain ⟨v0, vs0, d0, ds0, p0, q0, hargs, rfl, rfl, h0, r0⟩ := trodAll_cons hA
  obtain ⟨rfl, rfl, rfl⟩ := trodAll_nil r0
  obtain rfl : args = #[v0] := by cases args; simp_all
  obtain ⟨rfl, rfl⟩ := trodVars_none hV
  have k0 := h0
  have lt0 : ∀ x ∈ p0, x.block < W.heap.size := by obtain ⟨m, hm⟩ := k0; exact DataW.trod_lt m _ _ _ hm
  obtain ⟨x0, rfl, rd0, bd0⟩ := open_log (hval 0 26 v0 rfl rfl) h0
  clear hA0 hval0
  refine (logFlushOps_law x0 W rd0 bd0).mono fun e W' ⟨he, hk⟩ => ?_
  have bel : Below W.heap.size W W' := hk.below (Nat.le_refl _) (fun _ _ => id)
  subst he
  exact ⟨_, rfl, _, _, _, [], _, [], hW', trodAll_mk1 (shut_bool Try.underlying4 _), (trodAll_cons_mk (Below.trod laidOut (by kernel_rfl) (of_decide_eq_true (by kernel_rfl)) k0 bel lt0) trodAll_mk0), rfl, bel.frame _, fun h => by cases h⟩
theorem over : Rows.fnExactLogFlushOpsRow.holds Try.pinned (OpenSpec.ofChange Rows.fnExactLogFlushOpsSpec) :=
  OpenClaim.holds_of_wide 6 Try.f6 rfl rfl rfl rfl rfl rfl rfl ⟨rfl, rfl, rfl, rfl, rfl⟩ rfl rfl rfl rfl rfl (by kernel_rfl) Try.func6 (by kernel_rfl)
    (of_decide_eq_true (by kernel_rfl)) (by unfold Func.isWrapper; first | (rw [if_pos (by decide +kernel)]; kernel_rfl) | (rw [if_neg (by decide +kernel)]; exact ⟨rfl, rfl⟩))
    (fun os started H enc _ => lifted os started H enc)
end Go.Proofs.Ytmnhflanhchdeaa.fnExactLogFlushOps
namespace Go.Proofs.Ytmnhflanhchdeaa
theorem logFlushOps_proved : Rows.FnExactLogFlushOpsSaid := fnExactLogFlushOps.over
#print axioms logFlushOps_proved
end Go.Proofs.Ytmnhflanhchdeaa
