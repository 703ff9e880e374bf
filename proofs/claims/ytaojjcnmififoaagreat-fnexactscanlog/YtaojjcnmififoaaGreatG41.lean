import Derived.Test.YtaojjcnmififoaaGreatG31
import Derived.Test.YtaojjcnmififoaaGreatScU
import Derived.Test.YtaojjcnmififoaaGreatFrI
import Derived.Test.YtaojjcnmififoaaGreatG35
import Derived.Test.YtaojjcnmififoaaGreatG40
import Derived.Test.YtaojjcnmififoaaGreatG01
import Derived.Deep.DeepCutAuto
import Derived.WalkMore
namespace Go.Proofs.YtaojjcnmififoaaGreat
set_option maxRecDepth 100000
set_option maxHeartbeats 8000000
set_option linter.unusedVariables false
set_option linter.unusedSimpArgs false
open Go Go.RowKit
def InvS (w5 : World) (b1 b2 b3 : Nat) (dur : List Int) (ds : List (Int × List Int)) (s fr m : Int) (M : Nat) (pre : List (Fin M)) (W : World) : Prop :=
 ∃ (n : Nat) (t : ScS) (ua : Option Addr) (uc : Nat) (fa : Option Addr) (fn fc : Nat) (qs : List StLogFrame), RchN m n ⟨piesF dur ds s fr (pre.map Fin.val), fr, 1, []⟩ t ∧ ScOk (piesF dur ds s fr (pre.map Fin.val)) fr t ∧ (t.dec m).1 = 1 ∧ datFr qs = t.frs ∧ ScM w5 b1 b2 b3 t.rest t.lsn t.least ua uc fa fn fc qs W
def InvX (w5 : World) (b1 b2 b3 : Nat) (dur : List Int) (ds : List (Int × List Int)) (s fr m : Int) (M : Nat) (c : Code) (pre : List (Fin M)) (W : World) : Prop :=
 c = Code.exit 0 ∧ ∃ (n : Nat) (t : ScS) (ua : Option Addr) (uc : Nat) (fa : Option Addr) (fn fc : Nat) (qs : List StLogFrame), RchN m n ⟨piesF dur ds s fr (pre.map Fin.val), fr, 1, []⟩ t ∧ (t.dec m).1 ≠ 0 ∧ (t.dec m).1 ≠ 1 ∧ datFr qs = t.frs ∧ ScM w5 b1 b2 b3 t.rest t.lsn t.least ua uc fa fn fc qs W
theorem InvS.own (w5 : World) (b1 b2 b3 : Nat) (dur : List Int) (ds : List (Int × List Int)) (s fr m : Int) (M : Nat) : OwnFrom w5.heap.size (InvS w5 b1 b2 b3 dur ds s fr m M) := by
 rintro pre W W' row ⟨n, t, ua, uc, fa, fn, fc, qs, h1, h2, h3, h4, h5⟩ hg hr
 exact ⟨n, t, ua, uc, fa, fn, fc, qs, h1, h2, h3, h4, h5.turn (kept_turn hg hr)⟩
theorem InvX.own (w5 : World) (b1 b2 b3 : Nat) (dur : List Int) (ds : List (Int × List Int)) (s fr m : Int) (M : Nat) (c : Code) : OwnFrom w5.heap.size (InvX w5 b1 b2 b3 dur ds s fr m M c) := by
 rintro pre W W' row ⟨hc, n, t, ua, uc, fa, fn, fc, qs, h1, h2, h3, h4, h5⟩ hg hr
 exact ⟨hc, n, t, ua, uc, fa, fn, fc, qs, h1, h2, h3, h4, h5.turn (kept_turn hg hr)⟩
theorem scan_no {dur : List Int} {ds : List (Int × List Int)} {s fr m : Int} (h : ¬ ScanOK dur.length ds s fr) : ScanA dur ds s fr m (datFr []) 0 := .inl ⟨h, rfl, rfl⟩
theorem implScan_any (dv pv : Value) (dur : List Int) (ps : List PW) (s fr m : Int) (w : World) (hB : IsB dur) (hPB : ∀ p ∈ ps, IsB p.bs) (hd : dur.length ≤ 1099511627776) (hv : RdD w dv pv dur ps) :
  Calls Tryz.prog 7 #[.agg #[dv, pv], .int .i64 s, .int .i64 fr, .int .i64 m] w fun e w' => ∃ v qs en, e = .returned (.agg #[v, .int .i64 en]) ∧ ScanA dur (dataP ps) s fr m (datFr qs) en ∧ (∀ b, footFr v qs b → w.heap.size ≤ b) ∧ OwnFr w' v qs ∧ Same w w' := by
 obtain ⟨a1, c1, rfl⟩ := hv.dur.form
 obtain ⟨a2, c2, rfl⟩ := hv.pend.form
 have HV := hid hv
 have hds : ∀ p ∈ dataP ps, IsB p.2 := fun p hp => by
  obtain ⟨q, hq, rfl⟩ := List.mem_map.1 hp
  exact hPB q hq
 have HPI := (show Hid (∀ k, IsB (pieF dur (dataP ps) s fr k)) from fun k => pieF_isB hB hds k)
 clear hv hPB hB hds
 obtain ⟨x0, x1, x2, x3, hk0, hz0⟩ := new4 w [.slice a1 dur.length c1, .slice a2 ps.length c2] [.int .i64 fr] [.int .i64 m] [.slice none 0 0, .int .i64 0] 33 2 2 29
 have hP := fun wx => implPlace_any s fr wx
 have kH := fun wx (hk : Same w wx) => holdsLog_any _ _ dur ps s wx (HV.out.same hk)
 by_cases hh : (16 ≤ s ∧ s ≤ 800) ∧ Room dur.length (dataP ps) s
 case neg =>
  have kH := fun wx hk => said_false hh (kH wx hk)
  have HN : Hid (¬ ScanOK dur.length (dataP ps) s fr) := fun h => hh ⟨h.1.1, h.2⟩
  clear hh hP
  go_enter Tryz.func7, Tryz.ntmps7
  have HZ0 := hid x3
  have HK0 := hid hk0
  clear x0 x1 x2 x3 hk0 hz0
  go_wp2
  go_step3
  go_wp2_with fail
  refine (kH _ HK0.out).mono ?_
  rintro e w1 ⟨rfl, hk⟩
  have HK1 := hid (HK0.out.trans hk)
  have HZ1 := hid (HZ0.out.same hk)
  obtain ⟨z0, z1⟩ := HZ1.out.all2
  have fz := HZ1.out.frozen
  have lz := HZ1.out.lt
  clear hk kH
  go_wp2
  rw [Exit.noGoto_ret]
  refine bodyPost_ret (v := .agg #[.slice none 0 0, .int .i64 0]) (by simp [results, Tryz.results7, go_sem, z0, z1]) rfl ⟨_, [], 0, rfl, scan_no HN.out, fun b hb => absurd hb (footFr_nil b), OwnFr.nil _, ?_⟩
  ·iterate 2 refine Kept.setCell ?_ (.inl (by simp only []; omega)) _
   exact HK1.out
 have kH := fun wx hk => said_true hh (kH wx hk)
 by_cases hp : 512 ≤ fr ∧ fr ≤ 1099511627776
 case neg =>
  rw [logPlace_no (fun h => hp h.2)] at hP
  have HN : Hid (¬ ScanOK dur.length (dataP ps) s fr) := fun h => hp h.1.2
  clear hh hp
  go_enter Tryz.func7, Tryz.ntmps7
  have HZ0 := hid x3
  have HK0 := hid hk0
  have HF0 := hid x1
  clear x0 x1 x2 x3 hk0 hz0
  go_wp2
  go_step3
  go_wp2_with fail
  refine (kH _ HK0.out).mono ?_
  rintro e w1 ⟨rfl, hk⟩
  have HK1 := hid (HK0.out.trans hk)
  have HZ1 := hid (HZ0.out.same hk)
  have f0 := (HF0.out.same hk).c0
  clear hk kH
  go_wp2_with fail
  refine (hP _).mono ?_
  rintro e w2 ⟨rfl, hk⟩
  have HK2 := hid (HK1.out.trans hk)
  have HZ2 := hid (HZ1.out.same hk)
  obtain ⟨z0, z1⟩ := HZ2.out.all2
  have fz := HZ2.out.frozen
  have lz := HZ2.out.lt
  clear hk
  go_wp2
  rw [Exit.noGoto_ret]
  refine bodyPost_ret (v := .agg #[.slice none 0 0, .int .i64 0]) (by simp [results, Tryz.results7, go_sem, z0, z1]) rfl ⟨_, [], 0, rfl, scan_no HN.out, fun b hb => absurd hb (footFr_nil b), OwnFr.nil _, ?_⟩
  ·iterate 2 refine Kept.setCell ?_ (.inl (by simp only []; omega)) _
   exact HK2.out
 have HOK := (show Hid (ScanOK dur.length (dataP ps) s fr) from ⟨⟨hh.1, hp⟩, hh.2⟩)
 have hpb := logPlace_bound (s := s) (l := fr) ⟨hh.1, hp⟩
 obtain ⟨pl, hpl⟩ : ∃ pl, logPlace s fr = pl := ⟨_, rfl⟩
 rw [hpl] at hP hpb
 have hp0 : ¬ pl < 0 := by omega
 have kS := fun wx (hk : Same w wx) => seen_any _ _ dur ps wx hh.2.1 (HV.out.same hk)
 obtain ⟨M, hM⟩ : ∃ M, scM s fr = M := ⟨_, rfl⟩
 obtain ⟨bg, hbg⟩ : ∃ z, fr - fr % 512 = z := ⟨_, rfl⟩
 have hbg1 : 0 ≤ bg := by omega
 have hbg0 : 512 ≤ bg := by have := hp.1; omega
 have hbg2 : bg ≤ fr := by omega
 have hbg3 : fr < bg + 512 := by omega
 have hs1 : s ≤ 800 := hh.1.2
 have hs0 : 16 ≤ s := hh.1.1
 have hf0 : 512 ≤ fr := hp.1
 have hf1 : fr ≤ 1099511627776 := hp.2
 have hlt := hh.2.2
 obtain ⟨st, hst⟩ : ∃ z, min (bg + s * 512) (1099511627776 : Int) = z := ⟨_, rfl⟩
 have hst1 : st ≤ 1099511627776 := by omega
 have hst2 : bg ≤ st := by omega
 have hMa : ∀ k : Nat, k < M → bg + 512 * (k : Int) < st := fun k hk => by rw [← hM] at hk; unfold scM at hk; rw [hbg] at hk; omega
 have hMb : st ≤ bg + 512 * (M : Int) := by rw [← hM]; unfold scM; rw [hbg]; omega
 have hM8 : M ≤ 800 := by rw [← hM]; unfold scM; rw [hbg]; omega
 have HM := hid hM
 have HBG := hid hbg
 have HST := hid hst
 have kB := fun wx => sectorStart_any fr wx (by omega) hf1
 rw [hbg] at kB
 clear hh hp hM hpl hpb hst hbg
 refine callsIn_wide.1 (callsIn_of_wp_marks (F := Fence.wide) (n := 3) Tryz.func7 rfl trivial (wpIn_wide.2 ?_) rfl)
 simp only [Tryz.ntmps7, List.size_toArray, List.length_cons, List.length_nil, Nat.reduceAdd, Nat.reduceSub, Array.replicate_succ, Array.replicate_zero, List.push_toArray, List.append_toArray, List.nil_append, List.cons_append]
 have HZ0 := hid x3
 have HK0 := hid hk0
 have HF0 := hid x1
 have HM0 := hid x2
 have HD0 := hid x0
 obtain ⟨w0, hw0⟩ : ∃ z, ((((w.alloc (.cells #[.slice a1 dur.length c1, .slice a2 ps.length c2] 33)).alloc (.cells #[.int .i64 fr] 2)).alloc (.cells #[.int .i64 m] 2)).alloc (.cells #[.slice none 0 0, .int .i64 0] 29)) = z := ⟨_, rfl⟩
 rw [hw0] at HZ0 HK0 HF0 HM0 HD0 hz0
 have HW0 := hid hw0
 have hz0' : w.heap.size + 1 + 1 + 1 < w0.heap.size := by omega
 clear x0 x1 x2 x3 hk0 hz0 hw0
 go_wp2
 go_step3
 go_wp2_with fail
 rw [HW0.out]
 refine (kH _ HK0.out).mono ?_
 rintro e w1 ⟨rfl, hk⟩
 have HK1 := hid (HK0.out.trans hk)
 have H01 := hid hk
 clear HW0
 have f0 := (HF0.out.same hk).c0
 clear hk kH
 go_wp2_with fail
 refine (hP _).mono ?_
 rintro e w2 ⟨rfl, hk⟩
 have HK2 := hid (HK1.out.trans hk)
 have H02 := hid (H01.out.trans hk)
 obtain ⟨d0, d1⟩ := (HD0.out.same H02.out).all2
 clear hk hP f0 HK1 H01
 go_wp2_with fail
 refine (kS _ HK2.out).mono ?_
 rintro e w3 ⟨v3, rfl, G, us, rfl, hul, hG, hGb, hRd, hk⟩
 have HK3 := hid (HK2.out.trans hk)
 have H03 := hid (H02.out.trans hk)
 have HUL := hid hul
 have HGB := hid hGb
 have HRD := (show Hid (∀ i (h : i < us.length), Rd .u8 w3 us[i] (seeD (i : Int) dur (dataP ps))) from fun i h => (hRd i h).same hk)
 have hz3 := H03.out.size
 have hG3 := hGb.lt
 have f0 := (HF0.out.same H03.out).c0
 have l6 : w.heap.size + 1 < w3.heap.size := by omega
 clear hk kS hul hGb hRd d0 d1 H02 HK2
 have HB9 := hid (Blk.newL w3 [.slice (some ⟨G, 0, none⟩) us.length us.length] 58)
 have H4 := (show Hid (Same w3 (w3.alloc (.cells #[.slice (some ⟨G, 0, none⟩) us.length us.length] 58))) from (Kept.refl _ _).alloc _)
 go_upto_region 4 with fail
 generalize w3.alloc (.cells #[.slice (some ⟨G, 0, none⟩) us.length us.length] 58) = w4 at HB9 H4 ⊢
 have hz4 := HB9.out.lt
 clear f0
 have f0 := (HF0.out.same (H03.out.trans H4.out)).c0
 go_cut [10] from 30 to 36 (fun v wx => v = .int .i64 st ∧ Hid (Same w4 wx))
 case first =>
  go_wp2_with fail
  refine (kB _).mono ?_
  rintro e w5 ⟨rfl, hk⟩
  have HK5 := hid hk
  clear hk
  by_cases hmn : bg + s * 512 ≤ 1099511627776
  ·go_wp2
   go_meet
   case rel => exact ⟨by rw [show st = bg + s * 512 from by have := HST.out; omega], HK5⟩
  ·go_wp2
   go_meet
   case rel => exact ⟨by rw [show st = 1099511627776 from by have := HST.out; omega], HK5⟩
 case rest =>
  obtain ⟨rfl, HKc⟩ := hcut
  clear kB f0
  have f0 := (HF0.out.same ((H03.out.trans H4.out).trans HKc.out)).c0
  have hzc := HKc.out.size
  obtain ⟨y1, y2, y3, hk5⟩ := new3 wc [.slice none 0 0, .int .i64 fr] [.int .i64 1] [.slice none 0 0] 29 2 22
  go_wp2
  generalize (((wc.alloc (.cells #[.slice none 0 0, .int .i64 fr] 29)).alloc (.cells #[.int .i64 1] 2)).alloc (.cells #[.slice none 0 0] 22)) = w5 at y1 y2 y3 hk5 ⊢
  clear f0
  have f0 := (HF0.out.same (((H03.out.trans H4.out).trans HKc.out).trans hk5)).c0
  have H35 := hid ((H4.out.trans HKc.out).trans hk5)
  have HB95 := hid ((HB9.out.same HKc.out).same hk5)
  have hz5 := y3.lt
  go_step3
  go_wp2_with fail
  refine (stretch_any s fr st _).mono ?_
  rintro e w6 ⟨rfl, hx0, hx1, hx2, hz6, hk6⟩
  have HX0 := hid hx0
  have HX1 := hid hx1
  have HX2 := hid hx2
  have HK06 := hid ((H03.out.trans H35.out).trans hk6)
  have H36 := hid (H35.out.trans hk6)
  have HB96 := hid (HB95.out.same hk6)
  have HY1 := hid (y1.same hk6)
  have HY2 := hid (y2.same hk6)
  have HY3 := hid (y3.same hk6)
  have HG6 := hid (HGB.out.same H36.out)
  have hz60 : w5.heap.size + 1 + 1 + 1 ≤ w6.heap.size := by omega
  have hz3c : w3.heap.size < wc.heap.size := by omega
  clear hx0 hx1 hx2 hk6 y1 y2 y3 hk5 hz6 f0 HB95 H35 HGB HB9 HKc H4
  go_wp2_with fail
  refine (wpIn_wide (n := 3)).1 ?_
  refine wpIn_rangeFunc_ownG (F := Fence.wide) (n := 3) rfl (by decide) (gf := 46) (lb := #[.pointer (some ⟨w5.heap.size + 1, 0, none⟩), .pointer (some ⟨w5.heap.size + 1 + 1, 0, none⟩), .pointer (some ⟨w5.heap.size, 0, none⟩)]) rfl trivial (enters_of Tryz.func46 (by kernel_rfl) rfl)
   (stretch1_stops 2 w5.heap.size M s fr st bg w6 HBG.out (by omega) hst1 hf1 hMa hMb HX0.out HX1.out HX2.out) KpB.t (KpB.put (by omega)) (Below.refl _ _) (fun _ => rfl)
   (InvS w6 wc.heap.size (wc.heap.size + 1) (wc.heap.size + 1 + 1) dur (dataP ps) s fr m M) (InvX w6 wc.heap.size (wc.heap.size + 1) (wc.heap.size + 1 + 1) dur (dataP ps) s fr m M) (InvS.own _ _ _ _ _ _ _ _ _ _) (InvX.own _ _ _ _ _ _ _ _ _ _)
   ⟨0, ⟨[], fr, 1, []⟩, none, 0, none, 0, 0, [], rfl, ScOk.start (fun x hx => by simp [piesF] at hx), decF_nil _ _ _, rfl, HY1.out, HY2.out, HY3.out, Un.nil _ _, OwnFr.nil _, fun b hb => absurd hb (footFr_nil b), fun b hb => absurd hb (footFr_nil b), Kept.refl _ _, by omega⟩
   (fun x => { tmps := #[.agg #[.slice a1 dur.length c1, .slice a2 ps.length c2], .int .i64 s, .int .i64 fr, .int .i64 m, .pointer (some ⟨w.heap.size, 0, none⟩), undef, .pointer (some ⟨w.heap.size + 1, 0, none⟩), .pointer (some ⟨w.heap.size + 1 + 1, 0, none⟩), .pointer (some ⟨w.heap.size + 1 + 1 + 1, 0, none⟩), .pointer (some ⟨w3.heap.size, 0, none⟩), .int .i64 st, .pointer (some ⟨wc.heap.size, 0, none⟩), .pointer (some ⟨wc.heap.size + 1, 0, none⟩), .pointer (some ⟨wc.heap.size + 1 + 1, 0, none⟩), .int .i64 (bg + 512 * (x.val : Int)), .int .i64 (logPlace s (bg + 512 * (x.val : Int))), undef, .agg #[.slice a1 dur.length c1, .slice a2 ps.length c2], .int .i64 s, .bool true, .bool false, .bool false, .int .i64 s, .int .i64 fr, .int .i64 pl, .bool (decide (pl < 0)), .bool (decide (pl < 0)), undef, .agg #[.slice a1 dur.length c1, .slice a2 ps.length c2], .slice (some ⟨G, 0, none⟩) us.length us.length, u30, u31, u32, u33, u34, u35, .int .i64 fr, .agg #[.slice none 0 0, .int .i64 fr], .int .i64 s, .int .i64 fr, .int .i64 st, .func (.func 46) #[] #[.pointer (some ⟨w5.heap.size + 1, 0, none⟩), .pointer (some ⟨w5.heap.size + 1 + 1, 0, none⟩), .pointer (some ⟨w5.heap.size, 0, none⟩)], .int .i64 (bg + 512 * (x.val : Int)), .int .i64 (logPlace s (bg + 512 * (x.val : Int))), undef, undef, undef, undef, undef, undef, undef, undef, undef, undef, undef, undef, undef, undef, undef, undef, undef, undef, undef, undef, undef, undef, undef, undef, undef, undef, undef, undef, undef, undef, undef, undef, undef, undef, undef, undef, undef, undef, undef, undef, undef, undef, undef, undef, undef, undef, undef, undef], defers := [] }) ?assign ?body ?done ?stop
  case assign =>
   intro l x W K hK
   dsimp only [secs]
   refine wpIn_seq (round_region (letsOut_then (letsOut_then (fun ⟨_, _, h⟩ => h))) rfl ?_)
   go_wp2
   refine round_region (letsOut_then (fun ⟨_, _, h⟩ => h)) rfl ?_
   go_wp2
   exact hK
  case' stop =>
   rintro D c pre W hD hS ⟨rfl, n, t, ua, uc, fa, fn, fc, qs, hrc, h0, h1, hdat, hsm⟩ hK
   have hpm : pre.length ≤ scM s fr := by
    rw [HM.out]
    have h9 : ∀ x ∈ pre.map Fin.val, x < M := fun x hx => by obtain ⟨q, _, rfl⟩ := List.mem_map.1 hx; exact q.2
    rw [show pre.map Fin.val = List.range pre.length from hS] at h9
    rcases Nat.eq_zero_or_pos pre.length with h | h
    ·omega
    ·have := h9 (pre.length - 1) (List.mem_range.2 (by omega)); omega
   have h1 : (t.dec m).1 ≠ 1 ∨ pre.length = scM s fr := .inl h1
   refine wpIn_exit ?_
  case' done =>
   rintro D pre W hD hS ⟨n, t, ua, uc, fa, fn, fc, qs, hrc, hok, h1, hdat, hsm⟩ hK
   have hlM : pre.length = M := by have h := congrArg List.length hS; rwa [List.length_map, List.length_range] at h
   have hpm : pre.length ≤ scM s fr := by rw [HM.out]; omega
   have h0 : (t.dec m).1 ≠ 0 := by rw [h1]; decide
   have h1 : (t.dec m).1 ≠ 1 ∨ pre.length = scM s fr := .inr (by rw [HM.out]; exact hlM)
   have hS : pre.map Fin.val = List.range pre.length := by rw [hlM]; exact hS
   clear hlM
  case stop | done =>
   have hxl : pre.map Fin.val = List.range pre.length := hS
   rw [hxl] at hrc
   have HAN := (show Hid (ScanA dur (dataP ps) s fr m (datFr qs) t.lsn) from by rw [hdat]; exact ScanA.stopped HOK.out hpm hrc h0 h1)
   have HKD := hid hK
   obtain ⟨q0, q1⟩ := hsm.scan.all2
   have hkW : Kept (fun b => b = wc.heap.size ∨ b = wc.heap.size + 1 ∨ b = wc.heap.size + 1 + 1) w6 W := hsm.kept
   have hzb := HZ0.out.same HK06.out |>.kept hkW (by omega)
   obtain ⟨z0, z1⟩ := hzb.all2
   have fz := hzb.frozen
   have lz := hzb.lt
   have HO := hid hsm.own
   have HF := hid hsm.foot
   have HKW := hid hkW
   have HZB := hid hzb
   have HK06' := hid (HK0.out.trans HK06.out)
   have hz06 := HK0.out.size
   have hz066 := HK06.out.size
   have hzW := hkW.size
   have hDW : D < W.heap.size := (Array.getElem?_eq_some_iff.1 hK).1
   clear hrc h0 h1 hdat hsm hkW hzb hK hS hxl
   go_wp2
   rw [Exit.noGoto_ret]
   have hkR : Kept (fun b => b = w.heap.size + 1 + 1 + 1) W ((W.setCell ⟨w.heap.size + 1 + 1 + 1, 0, none⟩ (.slice fa fn fc)).setCell ⟨w.heap.size + 1 + 1 + 1, 1, none⟩ (.int .i64 t.lsn)) := Kept.setTwo (R := fun b => b = w.heap.size + 1 + 1 + 1) (Kept.refl _ _) (.inr rfl) _ _
   have hbZ := (show Blk ((W.setCell ⟨w.heap.size + 1 + 1 + 1, 0, none⟩ (.slice fa fn fc)).setCell ⟨w.heap.size + 1 + 1 + 1, 1, none⟩ (.int .i64 t.lsn)) (w.heap.size + 1 + 1 + 1) 29 [.slice fa fn fc, .int .i64 t.lsn] from (HZB.out.stored 0 _).stored 1 _)
   generalize (W.setCell ⟨w.heap.size + 1 + 1 + 1, 0, none⟩ (.slice fa fn fc)).setCell ⟨w.heap.size + 1 + 1 + 1, 1, none⟩ (.int .i64 t.lsn) = wz at hkR hbZ ⊢
   have hKD5 : wz.heap[D]? = some (Obj.deferred (some [])) := hkR.heap HKD.out (fun e => by have e' : D = w.heap.size + 1 + 1 + 1 := e; omega)
   have hkD : Kept (fun b => b = D) wz (wz.putObj D (.deferred none)) := Kept.of_grown (grownBy_putObj' _ D (.deferred none)) (fun r e => by cases e; rfl)
   obtain ⟨r0, r1⟩ := (hbZ.kept hkD (by omega)).all2
   have hDF : ∀ b, footFr (.slice fa fn fc) qs b → ¬ b = D := fun b hb e => by
    subst e
    rcases hb with hb | ⟨r, hr, hb⟩
    ·exact owns_not_bare (B := 0) HO.out.own.row hb ⟨Nat.zero_le _, _, HKD.out, rfl⟩
    ·exact owns_not_bare (B := 0) (HO.out.rows.own r hr) hb ⟨Nat.zero_le _, _, HKD.out, rfl⟩
   refine ⟨by simp, .inl ⟨_, _, rfl, run_takeDeferred hKD5, ?_⟩⟩
   refine ⟨.agg #[.slice fa fn fc, .int .i64 t.lsn], by simp [results, Tryz.results7, go_sem, r0, r1], _, qs, t.lsn, rfl, HAN.out, fun b hb => ?_, ?_, ?_⟩
   ·have := HF.out b hb; omega
   ·exact (HO.out.kept hkR (fun b hb e => by have e' : b = w.heap.size + 1 + 1 + 1 := e; have := HF.out b hb; omega)).kept hkD (fun b hb e => hDF b hb e)
   ·exact (((HK06'.out.next HKW.out (fun i hi e => by omega)).next hkR (fun i hi e => by omega)).next hkD (fun i hi e => by have e' : i = D := e; omega))
  case body =>
   rintro l pre x W ⟨n, t, ua, uc, fa, fn, fc, qs, hrc, hok, hcd, hdat, hsm⟩ hlen
   obtain ⟨k, hkM⟩ := x
   dsimp only
   have HRC := hid hrc
   have HOKt := hid hok
   have HDAT := hid hdat
   have HSM := hid hsm
   have hcnt := hok.cnt
   have hatt := hok.at'
   have hplb := logPlace_bound (s := s) (l := bg + 512 * (k : Int)) ⟨⟨hs0, hs1⟩, by have := hMa k hkM; omega⟩
   obtain ⟨pk, hpk⟩ : ∃ p : Nat, logPlace s (bg + 512 * (k : Int)) = (p : Int) := ⟨(logPlace s (bg + 512 * (k : Int))).toNat, by omega⟩
   have hsec : secF dur (dataP ps) s (fr - fr % 512) k = seeD (pk : Int) dur (dataP ps) := by unfold secF; rw [HBG.out, hpk]
   have hkM' : k < scM s fr := by rw [HM.out]; exact hkM
   have hpl1 := secF_length HOK.out hkM'
   rw [hsec] at hpl1
   rw [hpk] at hplb ⊢
   have hpU : pk < us.length := by have := HUL.out; omega
   obtain ⟨gU, oU, cU, heU, hcU, hcc⟩ : ∃ g o c, us[pk] = .slice (some ⟨g, o, none⟩) 512 c ∧ 512 ≤ c ∧ ∀ i, i < (seeD (pk : Int) dur (dataP ps)).length → w3.cell? ⟨g, o + i, none⟩ = some (.int .u8 ((seeD (pk : Int) dur (dataP ps)).getD i 0)) := by
    rcases (HRD.out pk hpU).2 with ⟨h, _⟩ | ⟨b, off, c, h1, h2, h3⟩
    ·rw [h] at hpl1; simp at hpl1
    ·rw [hpl1] at h1 h2
     exact ⟨b, off, c, h1, h2, h3⟩
   have hgU : gU < w3.heap.size := World.block_lt_of_cell? _ _ (hcc 0 (by rw [hpl1]; decide))
   obtain ⟨e5, he5⟩ : ∃ z : Nat, (fr % 512).toNat - 512 * k = z := ⟨_, rfl⟩
   have he6 : e5 < 512 := by omega
   have hzW := hsm.kept.size
   have hHW : Kept (fun b => b = wc.heap.size ∨ b = wc.heap.size + 1 ∨ b = wc.heap.size + 1 + 1) w6 W := hsm.kept
   have HRP : Hid (Rd .u8 W (.slice (some ⟨gU, oU + e5, none⟩) (512 - e5) (cU - e5)) (pieF dur (dataP ps) s fr k)) := by
    have hc6 : ∀ i, i < (seeD (pk : Int) dur (dataP ps)).length → W.cell? ⟨gU, oU + i, none⟩ = some (.int .u8 ((seeD (pk : Int) dur (dataP ps)).getD i 0)) := fun i hi => hHW.cellOf (H36.out.cellOf (hcc i hi) id) (fun h => by dsimp only at h; omega)
    have h9 := Rd.part hc6 e5 (512 - e5) (n := 512 - e5) (c := cU - e5) (by rw [hpl1]; omega) rfl (by omega) (by unfold maxLen; omega)
    rw [List.take_of_length_le (by rw [List.length_drop, hpl1]; exact Nat.le_refl _)] at h9
    unfold Hid pieF
    rw [hsec, he5]
    exact h9
   have hpie : (pieF dur (dataP ps) s fr k).length = 512 - e5 := by rw [pieF_length HOK.out hkM', he5]
   have hS : (fun wx : World => wx.cell? ⟨wc.heap.size + 1 + 1, 0, none⟩ = some (.slice ua t.rest.length uc) ∧ wx.cell? ⟨w3.heap.size, 0, none⟩ = some (.slice (some ⟨G, 0, none⟩) us.length us.length) ∧ wx.cell? ⟨G, pk, none⟩ = some (.slice (some ⟨gU, oU, none⟩) 512 cU) ∧ wx.cell? ⟨w.heap.size + 1, 0, none⟩ = some (.int .i64 fr)) W.drew := ⟨hsm.un.c0, (HB96.out.kept hHW (by omega)).c0, by rw [← heU]; exact ((HG6.out.kept hHW (by omega)).cell pk).trans (List.getElem?_eq_getElem hpU), (HF0.out.same HK06.out |>.kept hHW (by omega)).c0⟩
   obtain ⟨d9, hd9⟩ : ∃ z : Int, fr - (bg + 512 * (k : Int)) = z := ⟨_, rfl⟩
   have hwr : IntKind.i64.wrap d9 = d9 := by rw [IntKind.wrap_i64]; omega
   have hmx : max d9 0 = (e5 : Int) := by have := HBG.out; omega
   have hcE : ¬ cU = e5 := by omega
   have hE1 : ((e5 : Nat) : Int) ≤ (cU : Int) := by omega
   have hE2 : ((e5 : Nat) : Int) ≤ 512 := by omega
   have hE3 : (0 : Int) ≤ ((e5 : Nat) : Int) := by omega
   clear hrc hok hdat hsec hpl1 heU hcc he5
   refine wpIn_block (wpIn_seq (round_region_V (fun wx : World => wx.cell? ⟨wc.heap.size + 1 + 1, 0, none⟩ = some (.slice ua t.rest.length uc) ∧ wx.cell? ⟨w3.heap.size, 0, none⟩ = some (.slice (some ⟨G, 0, none⟩) us.length us.length) ∧ wx.cell? ⟨G, pk, none⟩ = some (.slice (some ⟨gU, oU, none⟩) 512 cU) ∧ wx.cell? ⟨w.heap.size + 1, 0, none⟩ = some (.int .i64 fr)) 11 12 (letsOut_then (letsOut_block letsOut_ownG)) (by kernel_rfl) rfl (by kernel_rfl) ?_))
   refine tk 0 44 hS ?_
   refine tk 1 45 hS ?_
   refine tk 2 46 hS ?_
   refine tk 3 47 hS ?_
   refine tk 4 48 hS ?_
   refine tk 5 49 hS ?_
   refine tk 6 50 hS ?_
   refine tkV 7 51 (.int .i64 d9) hS ?_
   refine tkV 8 52 (.int .i64 (e5 : Int)) hS ?_
   refine tkV 9 53 (.slice (some ⟨gU, oU + e5, none⟩) (512 - e5) (cU - e5)) hS ?_
   have hPl := piesF_length HOK.out (pre.map Fin.val) (fun j hj => by
    obtain ⟨q, _, rfl⟩ := List.mem_map.1 hj
    rw [HM.out]
    exact q.2)
   rw [List.length_map] at hPl
   have hkd : Same W W.drew := (Kept.refl _ _).drew
   obtain ⟨a', c', w8, hrun, hun, hkk, hff⟩ := un_append (ty := 22) (hsm.bytes.same hkd) (by have h1 : W.drew.heap.size = W.heap.size := rfl; omega) (HRP.out.same hkd) (by rw [hpie]; omega) (by rw [hpie]; omega)
   have HMO := hid (ScM.more (X := pieF dur (dataP ps) s fr k) (hsm.same hkd) (by omega) (by omega) hun hkk hff)
   have hnu : ∀ b, b < w6.heap.size → ¬ ((Value.slice ua t.rest.length uc).ownBlock = some b ∧ ∃ j, (W.drew.cell? ⟨b, j, none⟩).isSome = true) := fun b hb e => by have := (hsm.bytes.lt b e.1).1; omega
   have HS8 : (fun wx : World => wx.cell? ⟨wc.heap.size + 1 + 1, 0, none⟩ = some (.slice ua t.rest.length uc) ∧ wx.cell? ⟨w3.heap.size, 0, none⟩ = some (.slice (some ⟨G, 0, none⟩) us.length us.length) ∧ wx.cell? ⟨G, pk, none⟩ = some (.slice (some ⟨gU, oU, none⟩) 512 cU) ∧ wx.cell? ⟨w.heap.size + 1, 0, none⟩ = some (.int .i64 fr)) w8 := ⟨hkk.cellOf hS.1 (hnu (wc.heap.size + 1 + 1) (by omega)), hkk.cellOf hS.2.1 (hnu w3.heap.size (by omega)), hkk.cellOf hS.2.2.1 (hnu G (by omega)), hkk.cellOf hS.2.2.2 (hnu (w.heap.size + 1) (by omega))⟩
   have hb8 := ((hsm.un.same hkd).kept hkk (hnu _ (by omega))).frozen
   rw [hpie] at HMO hrun
   have HRUN := hid hrun
   clear hrun hun hkk hff
   refine wpAnyV_one (i := 10) (by kernel_rfl) rfl (fun K hK => ?_)
   refine step_append_runQ (by rfl) (.tmp 44) (.tmp 53) 22 22 (by rfl) _ _ (by rfl) (by rfl) _ _ HRUN.out ?_
   simp only [List.getElem_toArray, List.getElem_cons_succ, List.getElem_cons_zero]
   refine hK.out _ _ (fun _ => HS8) ?_
   clear hK K
   try simp only [Act.put, sA, s0, sS]
   have z13 := HS8.1
   refine wpAnyV_one (i := 11) (by kernel_rfl) rfl (fun K hK => ?_)
   go_simp
   refine hK.out _ _ (fun h => absurd rfl h) ?_
   clear hK K
   refine wpAnyV_done (by kernel_rfl) ?_
   try simp only [Act.put, sA, s0, sS]
   generalize w8.setCell ⟨wc.heap.size + 1 + 1, 0, none⟩ _ = w9 at HMO ⊢
   obtain ⟨hm9, hf9⟩ := HMO.out
   have HM9 := hid hm9
   have HF9 := hid (kfTr (kfSame hkd) hf9)
   obtain ⟨P, hP⟩ : ∃ z, piesF dur (dataP ps) s fr ((pre ++ [(⟨k, hkM⟩ : Fin M)]).map Fin.val) = z := ⟨_, rfl⟩
   have hP2 : P = piesF dur (dataP ps) s fr (pre.map Fin.val) ++ pieF dur (dataP ps) s fr k := by rw [← hP, List.map_append]; exact piesF_snoc _ _ _ _ _ _
   have HRC9 := (show Hid (RchN m n ⟨P, fr, 1, []⟩ ⟨t.rest ++ pieF dur (dataP ps) s fr k, t.lsn, t.least, t.frs⟩) from by rw [hP2]; exact HRC.out.app _)
   have HOK9 := (show Hid (ScOk P fr ⟨t.rest ++ pieF dur (dataP ps) s fr k, t.lsn, t.least, t.frs⟩) from by rw [hP2]; exact HOKt.out.app (HPI.out k))
   have hP8 : P.length ≤ 512 * 800 := by rw [hP2, List.length_append, hpie]; omega
   have HP := hid hP
   have HSMW := hid hsm
   clear hm9 hf9 HMO HS8 hS hb8 hnu z13 HRUN hP hP2 HRC HOKt hcnt hatt hsm hPl hpie HRP hcd
   refine wpIn_block ?_
   gi_loopw [16] (fun v wx => ∃ (n : Nat) (t : ScS) (ua : Option Addr) (uc : Nat) (fa : Option Addr) (fn fc : Nat) (qs : List StLogFrame), Hid (RchN m n ⟨P, fr, 1, []⟩ t) ∧ Hid (ScOk P fr t) ∧ Hid (datFr qs = t.frs) ∧ Hid (ScM w6 wc.heap.size (wc.heap.size + 1) (wc.heap.size + 1 + 1) t.rest t.lsn t.least ua uc fa fn fc qs wx) ∧ Hid (KeepsFrom w6.heap.size W wx)) (fun _ wx => (2199023255552 - intOf ((wx.cell? ⟨wc.heap.size, 1, none⟩).getD (.int .i64 0))).toNat)
   case atStart => exact ⟨n, _, a', c', fa, fn, fc, qs, HRC9, HOK9, HDAT, HM9, HF9⟩
   case round =>
    clear HRC9 HOK9 HM9 HF9 HDAT HSM
    obtain ⟨n, t, ua, uc, fa, fn, fc, qs, HRC, HOKt, HDAT, HSM, HKF⟩ := hrel
    obtain ⟨rest, lsn, least, frs⟩ := t
    dsimp only at HDAT HSM ⊢
    have hat := HOKt.out.at'
    have hcnt := HOKt.out.cnt
    dsimp only at hat hcnt
    have HISB := (show Hid (IsB rest) from HOKt.out.isB)
    have HQL : Hid (qs.length = frs.length) := by unfold Hid; rw [← HDAT.out, datFr_length]
    have HFN : Hid (fn = qs.length) := by
     unfold Hid
     obtain ⟨_, _, h⟩ := HSM.out.own.own.rd.form
     simp only [Value.slice.injEq] at h
     exact h.2.1
    obtain ⟨q0, q1⟩ := HSM.out.scan.all2
    have q2 := HSM.out.least.c0
    have q3 := HSM.out.un.c0
    have hkx : Kept (fun b => b = wc.heap.size ∨ b = wc.heap.size + 1 ∨ b = wc.heap.size + 1 + 1) w6 wr := HSM.out.kept
    have q7 := (HM0.out.same HK06.out |>.kept hkx (by omega)).c0
    have hzr := hkx.size
    have hrb : rest.length ≤ 409600 := by omega
    have hlsn : fr ≤ lsn ∧ lsn ≤ fr + 409600 := by omega
    have kD := implFr_any _ rest lsn least m wr HISB.out ⟨by omega, by omega⟩ (by omega) HSM.out.bytes.rd
    clear hkx
    refine wpIn_hide (letsOut_then (letsOut_block (letsOut_block letsOut_ownG))) (fun QR HQR hLQ => ?_)
    refine wpIn_block (wpIn_seqH (fun K hK => round_region (letsOut_then (letsOut_block hLQ)) rfl ?_))
    go_wp2_with fail
    refine kD.mono ?_
    rintro e w7 ⟨y, rfl, hyd, hyf, hyo, hk7⟩
    rw [StFrameResult.val_cls]
    have HB8 := hid (Blk.new w7 #[.int .i64 0, .int .i64 0, .int .i64 0, .int .i64 0, .int .i64 0, .int .i64 0, .int .i64 0, .int .i64 0, .bool false, .slice none 0 0, .bool false, .slice none 0 0, .int .i64 0, .int .i64 0, .slice none 0 0, .slice none 0 0, .slice none 0 0] 52)
    have HTH := hid (HB8.out.there 0 y.cls.toArray.size (Nat.le_refl 17))
    have HZ := (show Hid (FRs wr ((w7.alloc (.cells #[.int .i64 0, .int .i64 0, .int .i64 0, .int .i64 0, .int .i64 0, .int .i64 0, .int .i64 0, .int .i64 0, .bool false, .slice none 0 0, .bool false, .slice none 0 0, .int .i64 0, .int .i64 0, .slice none 0 0, .slice none 0 0, .slice none 0 0] 52)).setCells w7.heap.size 0 y.cls) (decF rest lsn least m) (.pointer (some ⟨w7.heap.size, 0, none⟩))) from FRs.laid hyd hk7.size HB8.out rfl (fun b hb => by have h1 := hyf b hb; have h2 := hyo.lt b hb; omega) (hyo.same ((Kept.refl _ _).alloc _)) (hk7.trans ((Kept.refl _ _).alloc _)))
    have HY1' := hid (y.cls_one)
    clear hyd hyf hyo hk7 HB8 q0 q1 q2 q3 q7 kD
    go_wp2_with (first | (refine wpList_store_mid rfl 52 _ _ rfl w7.heap.size 0 y.cls.toArray rfl rfl HTH.out infoFr8 HY1'.out ?_; rw [List.toList_toArray]))
    refine hK.out _ _ ?_
    clear hK K
    generalize World.setCells _ w7.heap.size 0 y.cls = w8 at HZ ⊢
    clear HTH HY1'
    obtain ⟨Z, y, hpt, hyd, hZ, hbz, hyf, hyo, hyk⟩ := HZ.out
    rw [hpt]
    clear HZ hpt
    have hyc : y.code = (decF rest lsn least m).1 := congrArg (fun x => x.1) hyd
    have HYC := hid hyc
    clear hyc
    have hzc := hyk.size
    have HSM8 := hid (HSM.out.same hyk)
    have HKF8 := hid (kfTr HKF.out (kfSame hyk))
    have hZ0 := hbz.lt
    have g0 : w8.cell? ⟨Z, 0, none⟩ = some (.int .i64 y.code) := hbz.cell 0
    refine wpIn_seqH (fun K hK => round_region (letsOut_then (letsOut_block hLQ)) rfl ?_)
    go_wp2
    refine hK.out _ _ ?_
    clear hK K
    refine wpIn_block (wpIn_seqH (fun K hK => round_region (letsOut_then (letsOut_block (letsOut_block hLQ))) rfl ?_))
    by_cases hcz : y.code = 0
    case neg =>
     have hcq : (y.code == 0) = false := by simp [hcz]
     have hcd : decide (y.code = 0) = false := by simp [hcz]
     go_wp2
     refine hK.out _ _ ?_
     clear hK K
     refine wpIn_cond_false (by first | rfl | exact congrArg Value.bool hcq | exact congrArg Value.bool hcd) ?_
     refine wpIn_seqH (fun K hK => round_region (letsOut_then (letsOut_block (letsOut_block hLQ))) rfl ?_)
     by_cases hc1 : y.code = 1
     ·have hcq1 : (y.code == 1) = true := by simp [hc1]
      have hcd1 : decide (y.code = 1) = true := by simp [hc1]
      go_wp2
      refine hK.out _ _ ?_
      clear hK K
      refine wpIn_cond_true (by first | rfl | exact congrArg Value.bool hcq1 | exact congrArg Value.bool hcd1) (wpIn_exit ?_)
      show QR (.exit 1) _ _
      refine HQR.out _ _ _ ?_
      refine (show KeepsFrom w6.heap.size W w8 ∧ KpB w5.heap.size W w8 ∧ InvS w6 wc.heap.size (wc.heap.size + 1) (wc.heap.size + 1 + 1) dur (dataP ps) s fr m M (pre ++ [⟨k, hkM⟩]) w8 from ?_)
      refine ⟨HKF8.out, fun j hj1 hj2 => ?_, n, ⟨rest, lsn, least, frs⟩, ua, uc, fa, fn, fc, qs, by rw [HP.out]; exact HRC.out, by rw [HP.out]; exact HOKt.out, by show (decF rest lsn least m).1 = 1; rw [← HYC.out]; exact hc1, HDAT.out, HSM8.out⟩
      rw [HSM8.out.kept.block j (by omega) (by omega), HSMW.out.kept.block j (by omega) (by omega)]
     ·have hcq1 : (y.code == 1) = false := by simp [hc1]
      have hcd1 : decide (y.code = 1) = false := by simp [hc1]
      go_wp2
      refine hK.out _ _ ?_
      clear hK K
      refine wpIn_cond_false (by first | rfl | exact congrArg Value.bool hcq1 | exact congrArg Value.bool hcd1) (wpIn_exit ?_)
      show QR (.exit 0) _ _
      refine HQR.out _ _ _ ?_
      refine (show KeepsFrom w6.heap.size W w8 ∧ InvX w6 wc.heap.size (wc.heap.size + 1) (wc.heap.size + 1 + 1) dur (dataP ps) s fr m M (.exit 0) (pre ++ [⟨k, hkM⟩]) w8 from ?_)
      exact ⟨HKF8.out, rfl, n, ⟨rest, lsn, least, frs⟩, ua, uc, fa, fn, fc, qs, by rw [HP.out]; exact HRC.out, by show (decF rest lsn least m).1 ≠ 0; rw [← HYC.out]; exact hcz, by show (decF rest lsn least m).1 ≠ 1; rw [← HYC.out]; exact hc1, HDAT.out, HSM8.out⟩
    have hdz : (decF rest lsn least m).1 = 0 := by rw [← HYC.out]; exact hcz
    have HRN := hid (RchN.snoc HRC.out (show (ScS.dec m ⟨rest, lsn, least, frs⟩).1 = 0 from hdz))
    have HON := hid (HOKt.out.next (m := m) (show (ScS.dec m ⟨rest, lsn, least, frs⟩).1 = 0 from hdz))
    obtain ⟨sz, hsz, hs33, _, hs99⟩ := decF_size hdz
    have hysz : y.fsz = (sz : Int) := (congrArg (fun x => x.2.1) hyd).trans hsz
    have hye : y.epoch = (decF rest lsn least m).2.2.1 := congrArg (fun x => x.2.2.1) hyd
    have hyr : y.record.dat = (decF rest lsn least m).2.2.2 := congrArg (fun x => x.2.2.2) hyd
    have hnx : ScS.next m ⟨rest, lsn, least, frs⟩ = ⟨rest.drop sz, lsn + (sz : Int), y.epoch, frs ++ [(lsn, y.epoch, y.record.dat)]⟩ := by
     unfold ScS.next ScS.dec
     dsimp only
     rw [hsz, hye, hyr]
     rfl
    rw [hnx] at HRN HON
    clear hnx HYC hye hyr hsz hdz hyd HRC HOKt g0
    obtain ⟨code, fsz, ep, ⟨kind, txn, prev, page, slot, ⟨bU, ⟨bE, bA, bC, bB⟩⟩, ⟨aU, ⟨aE, aA, aC, aB⟩⟩, uN, nT, ⟨tE, tA, tN, tC, tB⟩, ⟨dE, dA, dN, dC, dB⟩, ⟨iE, iA, iC, iB⟩⟩⟩ := y
    dsimp only at hcz hysz ⊢
    subst hcz hysz
    dsimp only [StFrameResult.cls, BS.v, FR.v] at hbz
    obtain ⟨p, HPC, HPD, HYO, HYF⟩ : ∃ p : StLogFrame, Hid (p.cells = [.int .i64 lsn, .int .i64 ep, .int .i64 kind, .int .i64 txn, .int .i64 prev, .int .i64 page, .int .i64 slot, .bool bU, .slice bA bB.length bC, .bool aU, .slice aA aB.length aC, .int .i64 uN, .int .i64 nT, .slice tA tN tC, .slice dA dN dC, .slice iA iB.length iC]) ∧ Hid (p.dat = (lsn, ep, StLogRecord.dat ⟨kind, txn, prev, page, slot, ⟨bU, ⟨bE, bA, bC, bB⟩⟩, ⟨aU, ⟨aE, aA, aC, aB⟩⟩, uN, nT, ⟨tE, tA, tN, tC, tB⟩, ⟨dE, dA, dN, dC, dB⟩, ⟨iE, iA, iC, iB⟩⟩)) ∧ Hid (OwnL w8 p.rows) ∧ Hid (∀ b, FootL p.rows b → wr.heap.size ≤ b ∧ ¬ b = Z) := ⟨(StFrameResult.fr ⟨0, (sz : Int), ep, ⟨kind, txn, prev, page, slot, ⟨bU, ⟨bE, bA, bC, bB⟩⟩, ⟨aU, ⟨aE, aA, aC, aB⟩⟩, uN, nT, ⟨tE, tA, tN, tC, tB⟩, ⟨dE, dA, dN, dC, dB⟩, ⟨iE, iA, iC, iB⟩⟩⟩ lsn), rfl, rfl, hyo, hyf⟩
    have HBZ := hid hbz
    obtain ⟨g0, g1, g2, g3, g4, g5, g6, g7, g8, g9, g10, g11, g12, g13, g14, g15, g16⟩ := hbz.all17
    obtain ⟨q0, q1⟩ := HSM8.out.scan.all2
    have fs := HSM8.out.scan.frozen
    have hlow := HSM.out.low
    have hl1 := HSM8.out.scan.lt
    have hfl : qs.length ≤ 20000 := by have := HQL.out; omega
    have hnf : ¬ (Value.slice fa fn fc).ownBlock = some wc.heap.size := fun e => by have := HSM.out.foot _ (.inl e); omega
    have hnz : ¬ (Value.slice fa fn fc).ownBlock = some Z := fun e => by have := (HSM.out.own.lt _ (.inl e)); omega
    have HND := (show Hid (∀ b, FootL p.rows b → ¬ footFr (.slice fa fn fc) qs b) from fun b hb hf => by have h1 := (HYF.out b hb).1; have h2 := HSM.out.own.lt b hf; omega)
    clear hyo hyf hbz
    go_wp2
    refine hK.out _ _ ?_
    clear hK K
    refine wpIn_cond_true rfl ?_
    refine wpIn_seqH (fun K hK => round_region (letsOut_then (letsOut_block (letsOut_block hLQ))) rfl ?_)
    go_wp2_with (at_builtin; go_loud (refine wpList_addFr (p := p) rfl (.tmp 66) (.tmp 74) rfl rfl rfl (by rw [HPC.out]; exact Blk.newL w8 [.int .i64 lsn, .int .i64 ep, .int .i64 kind, .int .i64 txn, .int .i64 prev, .int .i64 page, .int .i64 slot, .bool bU, .slice bA bB.length bC, .bool aU, .slice aA aB.length aC, .int .i64 uN, .int .i64 nT, .slice tA tN tC, .slice dA dN dC, .slice iA iB.length iC] 55) (HSM8.out.own.same ((Kept.refl _ _).alloc _)) (HYO.out.same ((Kept.refl _ _).alloc _)) HND.out hfl ?_); intro gF cF w10 ho6 hk6 hf6; have HS7 := hid ((HSM8.out.scan.alloc _).kept hk6 hnf); have HO6 := hid ho6; have HK8 := (show Hid (Kept (fun b => (Value.slice fa fn fc).ownBlock = some b) w8 w10) from ((Kept.refl _ _).alloc _).trans hk6); have HFS := (show Hid (∀ b, footFr (.slice (some ⟨gF, 0, none⟩) (fn + 1) cF) (qs ++ [p]) b → w6.heap.size ≤ b ∧ ¬ (Value.slice ua rest.length uc).ownBlock = some b) from fun b hb => by rcases hf6 b hb with h | h | h; { exact ⟨HSM.out.foot b h, HSM.out.apart b h⟩ }; { have h1 := (HYF.out b h).1; exact ⟨by omega, fun e => by have := (HSM.out.bytes.lt _ e).2; omega⟩ }; { rw [World.size_alloc] at h; exact ⟨by omega, fun e => by have := (HSM.out.bytes.lt _ e).2; omega⟩ }); have z0 := HS7.out.cell 0; have fz6 := HS7.out.frozen; have lz6 := HS7.out.lt; clear ho6 hk6 hf6)
    refine hK.out _ _ ?_
    clear hK K
    have hk8 := HK8.out
    have HZ7 := hid (HBZ.out.kept hk8 hnz)
    have hk9 : Kept (fun b => b = wc.heap.size) w10 (w10.setCell ⟨wc.heap.size, 0, none⟩ (.slice (some ⟨gF, 0, none⟩) (fn + 1) cF)) := Kept.setCell (R := fun b => b = wc.heap.size) (Kept.refl _ _) (p := ⟨wc.heap.size, 0, none⟩) (.inr rfl) _
    have HS9 := hid (HS7.out.stored 0 (.slice (some ⟨gF, 0, none⟩) (fn + 1) cF))
    have HZ9 := hid (HZ7.out.kept hk9 (fun e => by have e' : Z = wc.heap.size := e; omega))
    have HO9 := hid (HO6.out.kept hk9 (fun b hb e => by have e' : b = wc.heap.size := e; have := (HFS.out b hb).1; omega))
    have HKF9 := (show Hid (KeepsFrom w6.heap.size W (w10.setCell ⟨wc.heap.size, 0, none⟩ (.slice (some ⟨gF, 0, none⟩) (fn + 1) cF))) from kfTr HKF8.out (kfTr (keepsFrom_of hk8 (fun b e => owns_not_bare HSM8.out.own.own.row e)) (keepsFrom_of hk9 (fun b e => by have e' : b = wc.heap.size := e; subst e'; exact HS7.out.not_bare))))
    have HL9 := hid ((HSM8.out.least.kept hk8 (fun e => by have := HSM.out.foot _ (.inl e); omega)).kept hk9 (by omega))
    have HU9 := hid ((HSM8.out.un.kept hk8 (fun e => by have := HSM.out.foot _ (.inl e); omega)).kept hk9 (by omega))
    have HY9 := hid ((HSM8.out.bytes.kept hk8 (fun b _ hb _ e => HSM.out.apart b (.inl e) hb)).kept hk9 (fun b hb _ _ e => by have e' : b = wc.heap.size := e; omega))
    have HK9 := (show Hid (Kept (fun b => b = wc.heap.size ∨ b = wc.heap.size + 1 ∨ b = wc.heap.size + 1 + 1) w6 (w10.setCell ⟨wc.heap.size, 0, none⟩ (.slice (some ⟨gF, 0, none⟩) (fn + 1) cF))) from (HSM8.out.kept.next hk8 (fun i hi e => by have := HSM.out.foot i (.inl e); omega)).next hk9 (fun i hi e => .inl e))
    generalize w10.setCell ⟨wc.heap.size, 0, none⟩ (.slice (some ⟨gF, 0, none⟩) (fn + 1) cF) = w11 at HS9 HZ9 HO9 HKF9 HL9 HU9 HY9 HK9 ⊢
    clear z0 fz6 lz6 g0 g1 g2 g3 g4 g5 g6 g7 g8 g9 g10 g11 g12 g13 g14 g15 g16 q0 q1 fs HS7 HZ7 HO6 hk8 hk9 HK8
    have q1 : w11.cell? ⟨wc.heap.size, 1, none⟩ = some (.int .i64 lsn) := HS9.out.cell 1
    have fs := HS9.out.frozen
    have g1 : w11.cell? ⟨Z, 1, none⟩ = some (.int .i64 (sz : Int)) := HZ9.out.cell 1
    refine wpIn_seqH (fun K hK => round_region (letsOut_then (letsOut_block (letsOut_block hLQ))) rfl ?_)
    go_wp2
    refine hK.out _ _ ?_
    clear hK K
    have hkB : Kept (fun b => b = wc.heap.size) w11 (w11.setCell ⟨wc.heap.size, 1, none⟩ (.int .i64 (lsn + (sz : Int)))) := Kept.setCell (R := fun b => b = wc.heap.size) (Kept.refl _ _) (p := ⟨wc.heap.size, 1, none⟩) (.inr rfl) _
    have HSa := (show Hid (Blk (w11.setCell ⟨wc.heap.size, 1, none⟩ (.int .i64 (lsn + (sz : Int)))) wc.heap.size 29 [.slice (some ⟨gF, 0, none⟩) (fn + 1) cF, .int .i64 (lsn + (sz : Int))]) from HS9.out.stored 1 _)
    have HZa := hid (HZ9.out.kept hkB (fun e => by have e' : Z = wc.heap.size := e; omega))
    have HOa := hid (HO9.out.kept hkB (fun b hb e => by have e' : b = wc.heap.size := e; have := (HFS.out b hb).1; omega))
    have HKFa := hid (kfTr HKF9.out (keepsFrom_of (B := w6.heap.size) hkB (fun b e => by have e' : b = wc.heap.size := e; subst e'; exact HS9.out.not_bare)))
    have HLa := hid (HL9.out.kept hkB (by omega))
    have HUa := hid (HU9.out.kept hkB (by omega))
    have HYa := hid (HY9.out.kept hkB (fun b hb _ _ e => by have e' : b = wc.heap.size := e; omega))
    have HKa := hid (HK9.out.next hkB (fun i hi e => .inl e))
    generalize w11.setCell ⟨wc.heap.size, 1, none⟩ (.int .i64 (lsn + (sz : Int))) = w12 at HSa HZa HOa HKFa HLa HUa HYa HKa ⊢
    clear hkB q1 fs g1 HS9 HZ9 HO9 HKF9 HL9 HU9 HY9 HK9
    have q2 := HLa.out.c0
    have fl := HLa.out.frozen
    have g2 : w12.cell? ⟨Z, 2, none⟩ = some (.int .i64 ep) := HZa.out.cell 2
    refine wpIn_seqH (fun K hK => round_region (letsOut_then (letsOut_block (letsOut_block hLQ))) rfl ?_)
    go_wp2
    refine hK.out _ _ ?_
    clear hK K
    have hkB : Kept (fun b => b = wc.heap.size + 1) w12 (w12.setCell ⟨wc.heap.size + 1, 0, none⟩ (.int .i64 ep)) := Kept.setCell (R := fun b => b = wc.heap.size + 1) (Kept.refl _ _) (p := ⟨wc.heap.size + 1, 0, none⟩) (.inr rfl) _
    have HLb := (show Hid (Blk (w12.setCell ⟨wc.heap.size + 1, 0, none⟩ (.int .i64 ep)) (wc.heap.size + 1) 2 [.int .i64 ep]) from HLa.out.stored 0 _)
    have HSb := hid (HSa.out.kept hkB (by omega))
    have HZb := hid (HZa.out.kept hkB (fun e => by have e' : Z = wc.heap.size + 1 := e; omega))
    have HOb := hid (HOa.out.kept hkB (fun b hb e => by have e' : b = wc.heap.size + 1 := e; have := (HFS.out b hb).1; omega))
    have HKFb := hid (kfTr HKFa.out (keepsFrom_of (B := w6.heap.size) hkB (fun b e => by have e' : b = wc.heap.size + 1 := e; subst e'; exact HLa.out.not_bare)))
    have HUb := hid (HUa.out.kept hkB (by omega))
    have HYb := hid (HYa.out.kept hkB (fun b hb _ _ e => by have e' : b = wc.heap.size + 1 := e; omega))
    have HKb := hid (HKa.out.next hkB (fun i hi e => .inr (.inl e)))
    generalize w12.setCell ⟨wc.heap.size + 1, 0, none⟩ (.int .i64 ep) = w13 at HLb HSb HZb HOb HKFb HUb HYb HKb ⊢
    clear hkB q2 fl g2 HSa HZa HOa HKFa HLa HUa HYa HKa
    have g1 : w13.cell? ⟨Z, 1, none⟩ = some (.int .i64 (sz : Int)) := HZb.out.cell 1
    obtain ⟨gA, oA, rfl⟩ : ∃ g o, ua = some ⟨g, o, none⟩ := by
     rcases HYb.out with ⟨_, h⟩ | ⟨g, off, cap, h, _⟩
     ·rw [h] at hs99; simp at hs99; omega
     ·simp only [Value.slice.injEq] at h
      exact ⟨g, off, h.1⟩
    obtain ⟨huc, hum⟩ := HYb.out.cap
    have hum2 : (uc : Int) ≤ 9223372036854775807 := by unfold maxLen at hum; omega
    have q3 := HUb.out.c0
    have fu := HUb.out.frozen
    have hsu : (sz : Int) ≤ (rest.length : Int) := by omega
    have hsu2 : (sz : Int) ≤ (uc : Int) := by omega
    have HYd := (show Hid (∃ a2 c2, Un w6.heap.size w13 (.slice a2 (rest.length - sz) c2) (rest.drop sz) ∧ (∀ b, (Value.slice a2 (rest.length - sz) c2).ownBlock = some b → (Value.slice (some ⟨gA, oA, none⟩) rest.length uc).ownBlock = some b) ∧ (if uc = sz then a2 = some ⟨gA, oA, none⟩ ∧ c2 = 0 else a2 = some ⟨gA, oA + sz, none⟩ ∧ c2 = uc - sz)) from by
     by_cases hcu : uc = sz
     ·have hrl : rest.length = sz := by omega
      refine ⟨some ⟨gA, oA, none⟩, 0, ?_, fun b hb => hb, by rw [if_pos hcu]; exact ⟨rfl, rfl⟩⟩
      rw [hrl, Nat.sub_self, List.drop_of_length_le (by omega)]
      have h9 := HYb.out.dropAll oA
      exact h9
     ·exact ⟨some ⟨gA, oA + sz, none⟩, uc - sz, HYb.out.drop hs99, fun b hb => hb, by rw [if_neg hcu]; exact ⟨rfl, rfl⟩⟩)
    obtain ⟨a2', c2', hY2, hYf2, hYe⟩ := HYd.out
    have HY2' := hid hY2
    have HYF2 := hid hYf2
    clear hY2 hYf2 HYd
    refine round_region (letsOut_block (letsOut_block hLQ)) rfl ?_
    have HEND := (show Hid (∀ wz, wz = w13.setCell ⟨wc.heap.size + 1 + 1, 0, none⟩ (.slice a2' (rest.length - sz) c2') → (∃ (n : Nat) (t : ScS) (ua : Option Addr) (uc : Nat) (fa : Option Addr) (fn fc : Nat) (qs : List StLogFrame), Hid (RchN m n ⟨P, fr, 1, []⟩ t) ∧ Hid (ScOk P fr t) ∧ Hid (datFr qs = t.frs) ∧ Hid (ScM w6 wc.heap.size (wc.heap.size + 1) (wc.heap.size + 1 + 1) t.rest t.lsn t.least ua uc fa fn fc qs wz) ∧ Hid (KeepsFrom w6.heap.size W wz)) ∧ (2199023255552 - intOf ((wz.cell? ⟨wc.heap.size, 1, none⟩).getD (.int .i64 0))).toNat < (2199023255552 - intOf ((wr.cell? ⟨wc.heap.size, 1, none⟩).getD (.int .i64 0))).toNat) from by
     rintro wz rfl
     have hkB : Kept (fun b => b = wc.heap.size + 1 + 1) w13 (w13.setCell ⟨wc.heap.size + 1 + 1, 0, none⟩ (.slice a2' (rest.length - sz) c2')) := Kept.setCell (R := fun b => b = wc.heap.size + 1 + 1) (Kept.refl _ _) (p := ⟨wc.heap.size + 1 + 1, 0, none⟩) (.inr rfl) _
     have hSc := HSb.out.kept hkB (by omega)
     refine ⟨⟨n + 1, _, a2', c2', some ⟨gF, 0, none⟩, fn + 1, cF, _, HRN, HON, ?_, ⟨hSc, HLb.out.kept hkB (by omega), ?_, ?_, HOb.out.kept hkB (fun b hb e => by have e' : b = wc.heap.size + 1 + 1 := e; have := (HFS.out b hb).1; omega), fun b hb => (HFS.out b hb).1, fun b hb e => ?_, HKb.out.next hkB (fun i hi e => .inr (.inr e)), hlow⟩, ?_⟩, ?_⟩
     ·show datFr (qs ++ [p]) = _
      unfold datFr
      rw [List.map_append]
      rw [show qs.map StLogFrame.dat = frs from HDAT.out, List.map_singleton, HPD.out]
     ·rw [List.length_drop]
      exact HUb.out.stored 0 _
     ·rw [List.length_drop]
      exact HY2'.out.kept hkB (fun b hb _ _ e => by have e' : b = wc.heap.size + 1 + 1 := e; omega)
     ·rw [List.length_drop] at e
      exact (HFS.out b hb).2 (HYF2.out b e)
     ·exact kfTr HKFb.out (keepsFrom_of (B := w6.heap.size) hkB (fun b e => by have e' : b = wc.heap.size + 1 + 1 := e; subst e'; exact HUb.out.not_bare))
     ·rw [show _ = some _ from hSc.cell 1, show _ = some _ from HSM.out.scan.cell 1]
      show (2199023255552 - (lsn + (sz : Int))).toNat < (2199023255552 - lsn).toNat
      omega)
    by_cases hcu : uc = sz
    ·rw [if_pos hcu] at hYe
     rw [show rest.length - sz = 0 from by omega] at HEND
     obtain ⟨rfl, rfl⟩ := hYe
     subst hcu
     go_wp2
     refine HQR.out _ _ _ ?_
     obtain ⟨hrel, hmeas⟩ := HEND.out _ rfl
     unfold Exit.then
     dsimp only
     exact ⟨⟨_, _, _, _, _, _, _, _, _, _, _, _, _, _, _, _, _, _, _, _, _, _, _, _, _, _, _, _, _, _, _, _, _, _, _, _, _, hrel, rfl⟩, hmeas⟩
    ·rw [if_neg hcu] at hYe
     obtain ⟨rfl, rfl⟩ := hYe
     go_wp2
     refine HQR.out _ _ _ ?_
     obtain ⟨hrel, hmeas⟩ := HEND.out _ rfl
     unfold Exit.then
     dsimp only
     exact ⟨⟨_, _, _, _, _, _, _, _, _, _, _, _, _, _, _, _, _, _, _, _, _, _, _, _, _, _, _, _, _, _, _, _, _, _, _, _, _, hrel, rfl⟩, hmeas⟩
theorem markTxnEntryS_own (x : FR) (k0 : Int) (w : World) (h0 : 0 ≤ k0) (h1 : k0 + (x.bs.length : Int) ≤ 1125899906842624) (ha : OwnL w (x.rows 4)) :
  Calls Tryz.prog 55 #[x.v, .int .i64 k0] w fun e w' => e = .returned (.int .i64 (k0 + (x.bs.length : Int))) ∧ OwnL w' ((x.marked k0).rows 4) ∧ Kept (FootL (x.rows 4)) w w' := by
 have hl := FR.own_len ha
 have hf := FR.own_form ha
 obtain ⟨xe, xa, xn, xc, bs⟩ := x
 dsimp only [FR.v] at *
 have HA := (show Hid (OwnL w (FR.rows 4 ⟨xe, xa, xn, xc, bs⟩)) from ha)
 clear ha
 rcases hf with ⟨rfl, rfl, rfl⟩ | ⟨g, rfl, hac, hcm, ho⟩
 ·obtain rfl : bs = [] := List.length_eq_zero_iff.1 (by omega)
  clear hl
  go_enter Tryz.func55, Tryz.ntmps55
  go_wp2
  refine wp_loop_rounds 1 ?_
  rw [rounds_succ]
  go_wp2
  go_ret
  exact ⟨by simp, HA.out, Kept.refl _ _⟩
 ·have HL := (show Hid (bs.length = xn * 4) from hl)
  have HO0 := (show Hid (OwnF 4 xe w g xn xc bs) from ho)
  rw [hl] at h1 ⊢
  have hxn : k0 + (xn : Int) * 4 ≤ 1125899906842624 := by simpa using h1
  unfold maxLen at hcm
  clear ho hl HA h1
  go_enter Tryz.func55, Tryz.ntmps55
  go_wp2
  go_loopw [1, 5] (fun v i wr => ∃ k : Nat, k ≤ xn ∧ i = .int .i64 k ∧ v = .int .i64 (k0 + (k : Int) * 4) ∧ Hid (OwnF 4 xe wr g xn xc (partI k0 bs (k * 4))) ∧ Hid (Kept (fun b => b = g) w wr)) (fun _ i _ => xn - (intOf i).toNat)
  case atStart => exact ⟨0, Nat.zero_le _, rfl, by simp, by rw [Nat.zero_mul, partI_zero]; exact HO0, Kept.refl _ _⟩
  case round =>
   obtain ⟨k, hk, rfl, rfl, HO, HK⟩ := hrel
   by_cases hlt : k < xn
   ·have c0 := HO.out.cell (k * 4) (by omega)
    have f0 := HO.out.frozen (k * 4)
    have c1 := HO.out.cell (k * 4 + 1) (by omega)
    have f1 := HO.out.frozen (k * 4 + 1)
    have c2 := HO.out.cell (k * 4 + 2) (by omega)
    have f2 := HO.out.frozen (k * 4 + 2)
    have c3 := HO.out.cell (k * 4 + 3) (by omega)
    have f3 := HO.out.frozen (k * 4 + 3)
    go_wp2
    go_roundw
    case rel =>
     have hl := HL.out
     have q0 := HO.out
     have q1 := q0.stored (k * 4) (k0 + ((k * 4 : Nat) : Int))
     rw [partI_step _ _ _ (by omega)] at q1
     have q2 := q1.stored (k * 4 + 1) (k0 + ((k * 4 + 1 : Nat) : Int))
     rw [partI_step _ _ _ (by omega)] at q2
     have q3 := q2.stored (k * 4 + 2) (k0 + ((k * 4 + 2 : Nat) : Int))
     rw [partI_step _ _ _ (by omega)] at q3
     have q4 := q3.stored (k * 4 + 3) (k0 + ((k * 4 + 3 : Nat) : Int))
     rw [partI_step _ _ _ (by omega)] at q4
     refine ⟨k + 1, by omega, by go_num, by go_num, ?_, ?_⟩
     ·rw [show (k + 1) * 4 = k * 4 + 1 + 1 + 1 + 1 from by omega]; simpa [Hid, Int.add_assoc] using q4
     ·exact ((((HK.out.setCell (.inr rfl) _).setCell (.inr rfl) _).setCell (.inr rfl) _).setCell (.inr rfl) _)
    case measure => simp [intOf]; omega
   ·go_wp2
    go_ret
    obtain rfl : k = xn := by omega
    have h := HO.out
    rw [← HL.out, partI_all] at h
    refine ⟨ret_int (by push_cast; rfl), ?_, HK.out.mono (fun b _ hb => (FootL_one _ _).2 (by simp [FR.v, Value.ownBlock, hb]))⟩
    exact h.out
theorem heldTxnEntryS_own (x : FR) (k0 : Int) (w : World) (h0 : 0 ≤ k0) (h1 : k0 + (x.bs.length : Int) ≤ 1125899906842624) (ha : OwnL w ((x.marked k0).rows 4)) :
  Calls Tryz.prog 58 #[x.v, .int .i64 k0] w fun e w' => e = .returned (.int .i64 (k0 + (x.bs.length : Int))) ∧ Same w w' := by
 have hl := FR.own_len ha
 have hf := FR.own_form ha
 obtain ⟨xe, xa, xn, xc, bs⟩ := x
 dsimp only [FR.v, FR.marked] at *
 rw [marksI_length] at hl
 clear ha
 rcases hf with ⟨rfl, rfl, rfl⟩ | ⟨g, rfl, hac, hcm, ho⟩
 ·obtain rfl : bs = [] := List.length_eq_zero_iff.1 (by omega)
  clear hl
  go_enter Tryz.func58, Tryz.ntmps58
  go_wp2
  refine wp_loop_rounds 1 ?_
  rw [rounds_succ]
  go_wp2
  go_ret
  exact ⟨by simp, Kept.refl _ _⟩
 ·have hc : ∀ j, j < xn * 4 → w.cell? ⟨g, j, none⟩ = some (.int .i64 (k0 + j)) := fun j hj => by
   rw [ho.cell j hj, marksI_at _ _ _ (by omega)]
  rw [hl] at h1 ⊢
  have hxn : k0 + (xn : Int) * 4 ≤ 1125899906842624 := by simpa using h1
  unfold maxLen at hcm
  clear ho h1
  go_enter Tryz.func58, Tryz.ntmps58
  go_wp2
  go_loop [1, 5] (fun v i => ∃ k : Nat, k ≤ xn ∧ i = .int .i64 k ∧ v = .int .i64 (k0 + (k : Int) * 4)) (fun _ i => xn - (intOf i).toNat)
  case atStart => exact ⟨0, Nat.zero_le _, rfl, by simp⟩
  case round =>
   obtain ⟨k, hk, rfl, rfl⟩ := hrel
   by_cases hlt : k < xn
   ·have c0 : w.cell? ⟨g, k * 4, none⟩ = some (.int .i64 (k0 + (k : Int) * 4)) := by rw [hc (k * 4) (by omega)]; congr 2 <;> (push_cast; omega)
    have c1 : w.cell? ⟨g, k * 4 + 1, none⟩ = some (.int .i64 (k0 + (k : Int) * 4 + 1)) := by rw [hc (k * 4 + 1) (by omega)]; congr 2 <;> (push_cast; omega)
    have c2 : w.cell? ⟨g, k * 4 + 2, none⟩ = some (.int .i64 (k0 + (k : Int) * 4 + 2)) := by rw [hc (k * 4 + 2) (by omega)]; congr 2 <;> (push_cast; omega)
    have c3 : w.cell? ⟨g, k * 4 + 3, none⟩ = some (.int .i64 (k0 + (k : Int) * 4 + 3)) := by rw [hc (k * 4 + 3) (by omega)]; congr 2 <;> (push_cast; omega)
    clear hc
    go_wp2
    go_round
    case rel => exact ⟨k + 1, by omega, by go_num, by go_num⟩
    case measure => simp [intOf]; omega
   ·go_wp2
    go_ret
    obtain rfl : k = xn := by omega
    exact ⟨ret_int (by push_cast; rfl), Kept.refl _ _⟩
theorem markDirtyEntryS_own (x : FR) (k0 : Int) (w : World) (h0 : 0 ≤ k0) (h1 : k0 + (x.bs.length : Int) ≤ 1125899906842624) (ha : OwnL w (x.rows 2)) :
  Calls Tryz.prog 56 #[x.v, .int .i64 k0] w fun e w' => e = .returned (.int .i64 (k0 + (x.bs.length : Int))) ∧ OwnL w' ((x.marked k0).rows 2) ∧ Kept (FootL (x.rows 2)) w w' := by
 have hl := FR.own_len ha
 have hf := FR.own_form ha
 obtain ⟨xe, xa, xn, xc, bs⟩ := x
 dsimp only [FR.v] at *
 have HA := (show Hid (OwnL w (FR.rows 2 ⟨xe, xa, xn, xc, bs⟩)) from ha)
 clear ha
 rcases hf with ⟨rfl, rfl, rfl⟩ | ⟨g, rfl, hac, hcm, ho⟩
 ·obtain rfl : bs = [] := List.length_eq_zero_iff.1 (by omega)
  clear hl
  go_enter Tryz.func56, Tryz.ntmps56
  go_wp2
  refine wp_loop_rounds 1 ?_
  rw [rounds_succ]
  go_wp2
  go_ret
  exact ⟨by simp, HA.out, Kept.refl _ _⟩
 ·have HL := (show Hid (bs.length = xn * 2) from hl)
  have HO0 := (show Hid (OwnF 2 xe w g xn xc bs) from ho)
  rw [hl] at h1 ⊢
  have hxn : k0 + (xn : Int) * 2 ≤ 1125899906842624 := by simpa using h1
  unfold maxLen at hcm
  clear ho hl HA h1
  go_enter Tryz.func56, Tryz.ntmps56
  go_wp2
  go_loopw [1, 5] (fun v i wr => ∃ k : Nat, k ≤ xn ∧ i = .int .i64 k ∧ v = .int .i64 (k0 + (k : Int) * 2) ∧ Hid (OwnF 2 xe wr g xn xc (partI k0 bs (k * 2))) ∧ Hid (Kept (fun b => b = g) w wr)) (fun _ i _ => xn - (intOf i).toNat)
  case atStart => exact ⟨0, Nat.zero_le _, rfl, by simp, by rw [Nat.zero_mul, partI_zero]; exact HO0, Kept.refl _ _⟩
  case round =>
   obtain ⟨k, hk, rfl, rfl, HO, HK⟩ := hrel
   by_cases hlt : k < xn
   ·have c0 := HO.out.cell (k * 2) (by omega)
    have f0 := HO.out.frozen (k * 2)
    have c1 := HO.out.cell (k * 2 + 1) (by omega)
    have f1 := HO.out.frozen (k * 2 + 1)
    go_wp2
    go_roundw
    case rel =>
     have hl := HL.out
     have q0 := HO.out
     have q1 := q0.stored (k * 2) (k0 + ((k * 2 : Nat) : Int))
     rw [partI_step _ _ _ (by omega)] at q1
     have q2 := q1.stored (k * 2 + 1) (k0 + ((k * 2 + 1 : Nat) : Int))
     rw [partI_step _ _ _ (by omega)] at q2
     refine ⟨k + 1, by omega, by go_num, by go_num, ?_, ?_⟩
     ·rw [show (k + 1) * 2 = k * 2 + 1 + 1 from by omega]; simpa [Hid, Int.add_assoc] using q2
     ·exact ((HK.out.setCell (.inr rfl) _).setCell (.inr rfl) _)
    case measure => simp [intOf]; omega
   ·go_wp2
    go_ret
    obtain rfl : k = xn := by omega
    have h := HO.out
    rw [← HL.out, partI_all] at h
    refine ⟨ret_int (by push_cast; rfl), ?_, HK.out.mono (fun b _ hb => (FootL_one _ _).2 (by simp [FR.v, Value.ownBlock, hb]))⟩
    exact h.out
theorem heldDirtyEntryS_own (x : FR) (k0 : Int) (w : World) (h0 : 0 ≤ k0) (h1 : k0 + (x.bs.length : Int) ≤ 1125899906842624) (ha : OwnL w ((x.marked k0).rows 2)) :
  Calls Tryz.prog 59 #[x.v, .int .i64 k0] w fun e w' => e = .returned (.int .i64 (k0 + (x.bs.length : Int))) ∧ Same w w' := by
 have hl := FR.own_len ha
 have hf := FR.own_form ha
 obtain ⟨xe, xa, xn, xc, bs⟩ := x
 dsimp only [FR.v, FR.marked] at *
 rw [marksI_length] at hl
 clear ha
 rcases hf with ⟨rfl, rfl, rfl⟩ | ⟨g, rfl, hac, hcm, ho⟩
 ·obtain rfl : bs = [] := List.length_eq_zero_iff.1 (by omega)
  clear hl
  go_enter Tryz.func59, Tryz.ntmps59
  go_wp2
  refine wp_loop_rounds 1 ?_
  rw [rounds_succ]
  go_wp2
  go_ret
  exact ⟨by simp, Kept.refl _ _⟩
 ·have hc : ∀ j, j < xn * 2 → w.cell? ⟨g, j, none⟩ = some (.int .i64 (k0 + j)) := fun j hj => by
   rw [ho.cell j hj, marksI_at _ _ _ (by omega)]
  rw [hl] at h1 ⊢
  have hxn : k0 + (xn : Int) * 2 ≤ 1125899906842624 := by simpa using h1
  unfold maxLen at hcm
  clear ho h1
  go_enter Tryz.func59, Tryz.ntmps59
  go_wp2
  go_loop [1, 5] (fun v i => ∃ k : Nat, k ≤ xn ∧ i = .int .i64 k ∧ v = .int .i64 (k0 + (k : Int) * 2)) (fun _ i => xn - (intOf i).toNat)
  case atStart => exact ⟨0, Nat.zero_le _, rfl, by simp⟩
  case round =>
   obtain ⟨k, hk, rfl, rfl⟩ := hrel
   by_cases hlt : k < xn
   ·have c0 : w.cell? ⟨g, k * 2, none⟩ = some (.int .i64 (k0 + (k : Int) * 2)) := by rw [hc (k * 2) (by omega)]; congr 2 <;> (push_cast; omega)
    have c1 : w.cell? ⟨g, k * 2 + 1, none⟩ = some (.int .i64 (k0 + (k : Int) * 2 + 1)) := by rw [hc (k * 2 + 1) (by omega)]; congr 2 <;> (push_cast; omega)
    clear hc
    go_wp2
    go_round
    case rel => exact ⟨k + 1, by omega, by go_num, by go_num⟩
    case measure => simp [intOf]; omega
   ·go_wp2
    go_ret
    obtain rfl : k = xn := by omega
    exact ⟨ret_int (by push_cast; rfl), Kept.refl _ _⟩
end Go.Proofs.YtaojjcnmififoaaGreat
