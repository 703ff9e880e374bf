import Derived.Test.YtaojjcnmififoaaGreatG30
import Derived.Test.YtaojjcnmififoaaGreatG31
import Derived.Test.YtaojjcnmififoaaGreatScU
import Derived.Test.YtaojjcnmififoaaGreatFrS
import Derived.Deep.DeepCutAuto
namespace Go.Proofs.YtaojjcnmififoaaGreat
set_option maxRecDepth 100000
set_option maxHeartbeats 8000000
set_option linter.unusedVariables false
set_option linter.unusedSimpArgs false
open Go.RowKit
theorem said_true {f : FuncId} {args : Array Value} {w : World} {P : Prop} (hP : P) (h : Calls Tryz.prog f args w fun e w' => Says e P ∧ Same w w') : Calls Tryz.prog f args w fun e w' => e = .returned (.bool true) ∧ Same w w' :=
 h.mono fun e w' ⟨⟨B, he, hB⟩, hk⟩ => ⟨by rw [he, hB.2 hP], hk⟩
theorem said_false {f : FuncId} {args : Array Value} {w : World} {P : Prop} (hP : ¬ P) (h : Calls Tryz.prog f args w fun e w' => Says e P ∧ Same w w') : Calls Tryz.prog f args w fun e w' => e = .returned (.bool false) ∧ Same w w' :=
 h.mono fun e w' ⟨⟨B, he, hB⟩, hk⟩ => ⟨by rw [he]; cases B with | false => rfl | true => exact absurd (hB.1 rfl) hP, hk⟩
theorem ScanA.no {dur : List Int} {ds : List (Int × List Int)} {s fr m : Int} (h : ¬ ScanOK dur.length ds s fr) : ScanA dur ds s fr m (datFr []) 0 := .inl ⟨h, rfl, rfl⟩
theorem specScan_any (dv pv : Value) (dur : List Int) (ps : List PW) (s fr m : Int) (w : World) (hB : IsB dur) (hPB : ∀ p ∈ ps, IsB p.bs) (hd : dur.length ≤ 1099511627776) (hv : RdD w dv pv dur ps) :
  Calls Tryz.prog 5 #[.agg #[dv, pv], .int .i64 s, .int .i64 fr, .int .i64 m] w fun e w' => ∃ v qs en, e = .returned (.agg #[v, .int .i64 en]) ∧ ScanA dur (dataP ps) s fr m (datFr qs) en ∧ (∀ b, footFr v qs b → w.heap.size ≤ b) ∧ OwnFr w' v qs ∧ Same w w' := by
 obtain ⟨a1, c1, rfl⟩ := hv.dur.form
 obtain ⟨a2, c2, rfl⟩ := hv.pend.form
 have HV := hid hv
 have hds : ∀ p ∈ dataP ps, IsB p.2 := fun p hp => by
  obtain ⟨q, hq, rfl⟩ := List.mem_map.1 hp
  exact hPB q hq
 have HBT := hid (scT_isB (s := s) (fr := fr) hB hds)
 clear hv hPB hB hds
 have HK0 := (show Hid (Same w ((w.alloc (.cells #[.slice a1 dur.length c1, .slice a2 ps.length c2] 33)).alloc (.cells #[.slice none 0 0, .int .i64 0] 29))) from ((Kept.refl _ _).alloc _).alloc _)
 have HA0 := hid (Blk.newA w [.slice a1 dur.length c1, .slice a2 ps.length c2] 33 [.slice none 0 0, .int .i64 0] 29)
 have HZ0 := hid (Blk.newB w [.slice a1 dur.length c1, .slice a2 ps.length c2] 33 [.slice none 0 0, .int .i64 0] 29)
 have hP := fun wx => specPlace_any s fr wx
 by_cases hp : (16 ≤ s ∧ s ≤ 800) ∧ (512 ≤ fr ∧ fr ≤ 1099511627776)
 case neg =>
  rw [logPlace_no hp] at hP
  have HN : Hid (¬ ScanOK dur.length (dataP ps) s fr) := fun h => hp h.1
  clear hp
  go_enter Tryz.func5, Tryz.ntmps5
  go_wp2_with fail
  refine (hP _).mono ?_
  rintro e w1 ⟨rfl, hk⟩
  have HK1 := hid (HK0.out.trans hk)
  have HZ1 := hid (HZ0.out.same hk)
  obtain ⟨z0, z1⟩ := HZ1.out.all2
  have fz := HZ1.out.frozen
  have lz := HZ1.out.lt
  clear hk hP
  go_wp2
  refine bodyPost_ret (v := .agg #[.slice none 0 0, .int .i64 0]) (by simp [results, Tryz.results5, go_sem, z0, z1]) rfl ⟨_, [], 0, rfl, ScanA.no HN.out, fun b hb => absurd hb (footFr_nil b), OwnFr.nil _, ?_⟩
  ·iterate 2 refine Kept.setCell ?_ (.inl (by simp only []; omega)) _
   exact HK1.out
 have hpb := logPlace_bound hp
 obtain ⟨pl, hpl⟩ : ∃ pl, logPlace s fr = pl := ⟨_, rfl⟩
 rw [hpl] at hP hpb
 obtain ⟨hpb1, hpb2⟩ := hpb
 have hp0 : ¬ pl < 0 := by omega
 by_cases hr : Room dur.length (dataP ps) s
 case neg =>
  have hR := fun wx (hk : Same w wx) => said_false hr (l5Room_any _ _ dur ps s wx (by omega) (HV.out.same hk))
  have HN : Hid (¬ ScanOK dur.length (dataP ps) s fr) := fun h => hr h.2
  clear hp hr
  go_enter Tryz.func5, Tryz.ntmps5
  go_wp2_with fail
  refine (hP _).mono ?_
  rintro e w1 ⟨rfl, hk⟩
  have HK1 := hid (HK0.out.trans hk)
  have HZ1 := hid (HZ0.out.same hk)
  obtain ⟨d0, d1⟩ := (HA0.out.same hk).all2
  clear hk hP
  go_wp2_with fail
  refine (hR _ HK1.out).mono ?_
  rintro e w2 ⟨rfl, hk⟩
  have HK2 := hid (HK1.out.trans hk)
  have HZ2 := hid (HZ1.out.same hk)
  obtain ⟨z0, z1⟩ := HZ2.out.all2
  have fz := HZ2.out.frozen
  have lz := HZ2.out.lt
  clear hk hR
  go_wp2
  refine bodyPost_ret (v := .agg #[.slice none 0 0, .int .i64 0]) (by simp [results, Tryz.results5, go_sem, z0, z1]) rfl ⟨_, [], 0, rfl, ScanA.no HN.out, fun b hb => absurd hb (footFr_nil b), OwnFr.nil _, ?_⟩
  ·iterate 2 refine Kept.setCell ?_ (.inl (by simp only []; omega)) _
   exact HK2.out
 have hR := fun wx (hk : Same w wx) => said_true hr (l5Room_any _ _ dur ps s wx (by omega) (HV.out.same hk))
 have HOK := (show Hid (ScanOK dur.length (dataP ps) s fr) from ⟨hp, hr⟩)
 have hS := fun wx (hk : Same w wx) => l1Settle_all _ _ dur ps wx hd (HV.out.same hk) hr.1
 obtain ⟨M, hM⟩ : ∃ M, scM s fr = M := ⟨_, rfl⟩
 obtain ⟨bg, hbg⟩ : ∃ z, fr - fr % 512 = z := ⟨_, rfl⟩
 have hbg1 : 0 ≤ bg := by omega
 have hbg2 : bg ≤ fr := by omega
 have hbg3 : fr < bg + 512 := by omega
 have hMs : (M : Int) ≤ s := by rw [← hM]; unfold scM; omega
 have hMx : bg + 512 * (M : Int) ≤ 1099511627776 := by rw [← hM, ← hbg]; unfold scM; omega
 have hMy : (M : Int) = s ∨ 1099511627776 < bg + 512 * ((M : Int) + 1) := by rw [← hM, ← hbg]; unfold scM; omega
 have hs1 : s ≤ 800 := hp.1.2
 have hs0 : 16 ≤ s := hp.1.1
 have hf0 : 512 ≤ fr := hp.2.1
 have hf1 : fr ≤ 1099511627776 := hp.2.2
 have HM := hid hM
 have HBG := hid hbg
 have hdm : fr.tmod 512 = fr % 512 := by rw [Int.tmod_eq_emod_of_nonneg (by omega)]
 have hsub : fr - fr % 512 = bg := hbg
 have hlt := hr.2
 have hD5 := hr.1.1
 clear hp hr hM hpl hpb1 hpb2
 go_enter Tryz.func5, Tryz.ntmps5
 go_wp2_with fail
 refine (hP _).mono ?_
 rintro e w1 ⟨rfl, hk⟩
 have HK1 := hid (HK0.out.trans hk)
 have HZ1 := hid (HZ0.out.same hk)
 have HA1 := hid (HA0.out.same hk)
 obtain ⟨d0, d1⟩ := HA1.out.all2
 clear hk hP HK0 HZ0 HA0
 go_wp2_with fail
 refine (hR _ HK1.out).mono ?_
 rintro e w2 ⟨rfl, hk⟩
 have HK2 := hid (HK1.out.trans hk)
 have HZ2 := hid (HZ1.out.same hk)
 have HA2 := hid (HA1.out.same hk)
 clear d0 d1
 obtain ⟨d0, d1⟩ := HA2.out.all2
 clear hk hR HK1 HZ1 HA1
 go_wp2_with fail
 refine (hS _ HK2.out).mono ?_
 rintro e w3 ⟨aS, nS', cS, rfl, hfS, hoS, hk⟩
 have HK3 := hid (HK2.out.trans hk)
 have HZ3 := hid (HZ2.out.same hk)
 obtain ⟨sd, hsd⟩ : ∃ z, settleN (fun _ => true) dur (dataP ps) ps.length = z := ⟨_, rfl⟩
 rw [hsd] at hoS
 have hsl : sd.length = dur.length := by rw [← hsd]; exact settleN_length _ _ _ HOK.out.2.1 _ (by rw [dataP_length]; exact Nat.le_refl _)
 have HSD := hid hsd
 obtain ⟨gS, rfl, rfl, hcS⟩ : ∃ g, aS = some ⟨g, 0, none⟩ ∧ nS' = sd.length ∧ sd.length ≤ cS := by
  rcases hoS.form with ⟨h, h2⟩ | ⟨g, cap, h, _, _, h3, _⟩
  ·have := HOK.out.2.2; have := HOK.out.1.1.1; rw [h2] at hsl; simp at hsl; omega
  ·simp only [Value.slice.injEq] at h
   obtain ⟨rfl, rfl, rfl⟩ := h
   exact ⟨g, rfl, rfl, h3⟩
 have hgS := hfS gS rfl
 have hcm : cS ≤ maxLen := by
  rcases hoS.form with ⟨h, h2⟩ | ⟨g, cap, h, _, _, _, h4⟩
  ·simp at h
  ·simp only [Value.slice.injEq] at h
   obtain ⟨_, _, rfl⟩ := h
   exact h4
 have hcm : (cS : Int) ≤ 9223372036854775807 := by unfold maxLen at hcm; omega
 have HOS := hid hoS
 have hz3 := hk.size
 have lz2 := HZ2.out.lt
 clear hk hS HK2 HZ2 HA2 d0 d1 hoS hfS hsd
 have HW4 := hid (Blk.newL w3 [.slice (some ⟨gS, 0, none⟩) sd.length cS, .slice none 0 0] 33)
 have hk4 : Same w3 (w3.alloc (.cells #[.slice (some ⟨gS, 0, none⟩) sd.length cS, .slice none 0 0] 33)) := (Kept.refl _ _).alloc _
 generalize hLs : sd.length = SL at *
 have HLS := hid hLs
 have hslA : SL ≤ dur.length := by omega
 have hslB : dur.length ≤ SL := by omega
 clear hLs hsl
 go_upto_region 5 with fail
 generalize w3.alloc (.cells #[.slice (some ⟨gS, 0, none⟩) SL cS, .slice none 0 0] 33) = w4 at HW4 hk4 ⊢
 have HK4 := hid (HK3.out.trans hk4)
 have HZ4 := hid (HZ3.out.same hk4)
 have HOS4 := hid (HOS.out.same hk4)
 have hz4 := HW4.out.lt
 clear hk4 HK3 HZ3 HOS
 have HUN := (show Hid (Un w4.heap.size (w4.alloc (.cells #[] 5)) (.slice (some ⟨w4.heap.size, 0, none⟩) 0 0) (strF dur (dataP ps) s bg 0)) from .inr ⟨w4.heap.size, 0, 0, rfl, Nat.le_refl _, Nat.le_refl _, Nat.zero_le _, by simp, fun j hj => by omega, fun j hj => by simp [strF] at hj⟩)
 have HK5 := hid (sameA w4 [] 5)
 go_wp2
 go_loopw [11, 12] (fun v i wr => ∃ (k : Nat) (a : Option Addr) (c : Nat), k ≤ M ∧ i = .int .i64 (k : Int) ∧ v = .slice a (512 * k) c ∧ Hid (Un w4.heap.size wr (.slice a (512 * k) c) (strF dur (dataP ps) s bg k)) ∧ Hid (Same w4 wr)) (fun _ i _ => M - (intOf i).toNat)
 case atStart => exact ⟨0, _, _, Nat.zero_le _, rfl, rfl, HUN, HK5⟩
 case round =>
  clear HUN HK5
  obtain ⟨k, a, c, hk, rfl, rfl, HU, HK⟩ := hrel
  have hzr := HK.out.size
  obtain ⟨d0, d1⟩ := (HW4.out.same HK.out).all2
  by_cases hkM : k < M
  case pos =>
   have hk1 : (k : Int) < s := by omega
   have hk2 : bg + ((k : Int) + 1) * 512 ≤ 1099511627776 := by omega
   have kP := fun wx => specPlace_any s (bg + (k : Int) * 512) wx
   have hplb := logPlace_bound (s := s) (l := bg + (k : Int) * 512) ⟨⟨hs0, hs1⟩, by have := HBG.out; omega⟩
   obtain ⟨pk, hpk⟩ : ∃ p : Nat, logPlace s (bg + (k : Int) * 512) = (p : Int) := ⟨(logPlace s (bg + (k : Int) * 512)).toNat, by omega⟩
   rw [hpk] at kP hplb
   have hpl2 : pk < dur.length / 512 := by omega
   have hpl3 : pk * 512 + 512 ≤ SL := by omega
   have hat1 : ((pk : Int) * 512).toNat = pk * 512 := by omega
   have hat2 : ((pk : Int) * 512 + 512).toNat = pk * 512 + 512 := by omega
   have hat3 : (pk : Int) * 512 + 512 ≤ (cS : Int) := by omega
   have HSEE : Hid ((sd.drop (pk * 512)).take 512 = secF dur (dataP ps) s bg k) := by
    unfold Hid
    have h := settle_see (ds := dataP ps) HOK.out.2.1 hpl2
    rw [dataP_length, HSD.out] at h
    rw [h, ← hpk]
    unfold secF
    rw [Int.mul_comm]
   clear hpk
   go_wp2_with fail
   refine (kP _).mono ?_
   rintro e x1 ⟨rfl, hk9⟩
   have HX := hid (HK.out.trans hk9)
   have HUX := hid (HU.out.same hk9)
   have HOX := hid (HOS4.out.same HX.out)
   clear d0 d1
   obtain ⟨d0, d1⟩ := (HW4.out.same HX.out).all2
   have hzx := hk9.size
   clear hk9 kP
   have hRD : Rd .u8 x1 (.slice (some ⟨gS, pk * 512, none⟩) 512 (cS - pk * 512)) (secF dur (dataP ps) s bg k) := by
    rw [← HSEE.out]
    have hr := HOX.out.rd
    rcases hr.2 with ⟨h, _⟩ | ⟨b, off, c9, h, hl9, hc9⟩
    ·have hLs := HLS.out; rw [h] at hLs; simp at hLs; omega
    ·simp only [Value.slice.injEq, Option.some.injEq, Addr.mk.injEq, and_true] at h
     obtain ⟨⟨rfl, rfl⟩, _, rfl⟩ := h
     have h9 := Rd.part (fun j hj => hc9 j hj) (pk * 512) 512 (n := 512) (c := cS - pk * 512) (by rw [HLS.out]; omega) rfl (by omega) (by unfold maxLen; omega)
     rwa [Nat.zero_add] at h9
   have hsc : (secF dur (dataP ps) s bg k).length = 512 := by rw [← HBG.out]; exact secF_length HOK.out (by rw [HM.out]; exact hkM)
   have hst : (strF dur (dataP ps) s bg k).length = 512 * k := by rw [← HBG.out]; exact strF_length HOK.out (by rw [HM.out]; omega)
   obtain ⟨a', c', x2, hrun, hun, hkk, hff⟩ := un_append (ty := 22) HUX.out (by omega) hRD (by rw [hsc]; decide) (by rw [hst, hsc]; omega)
   rw [hst, hsc] at hrun hun hff
   rw [← strF_succ] at hun
   have HUN := hid hun
   have HX2 := (show Hid (Same w4 x2) from HX.out.next hkk (fun i hi e => by have := HUX.out.lt i e.1; omega))
   have HRUN := hid hrun
   clear hrun hun hkk hff hRD
   go_wp2_with (at_builtin; go_loud (refine wpList_append_run8 rfl (.tmp 55) (.tmp 61) 22 22 rfl _ _ rfl rfl _ _ HRUN.out ?_))
   go_roundw
   case rel => exact ⟨k + 1, a', c', by omega, by go_num, rfl, HUN, HX2⟩
   case measure => simp [intOf]; omega
  obtain rfl : k = M := by omega
  go_upto_region 7 with fail
  go_cut [45] (fun v wx => v = .bool false ∧ wr = wx)
  case first =>
   by_cases hms : (k : Int) < s
   ·have hmz : ¬ bg + ((k : Int) + 1) * 512 ≤ 1099511627776 := by omega
    go_wp2
    go_meet
    case rel => exact ⟨rfl, rfl⟩
   ·go_wp2
    go_meet
    case rel => exact ⟨rfl, rfl⟩
  case rest =>
   obtain ⟨rfl, rfl⟩ := hcut
   generalize wr = wq at *
   obtain ⟨str, hstr⟩ : ∃ z, strF dur (dataP ps) s bg k = z := ⟨_, rfl⟩
   rw [hstr] at HU
   have hsl2 : str.length = 512 * k := by rw [← hstr, ← HBG.out]; exact strF_length HOK.out (by rw [HM.out]; exact Nat.le_refl _)
   have HT : Hid (scT dur (dataP ps) s fr = str.drop (fr % 512).toNat) := by
    unfold Hid scT
    rw [HM.out, HBG.out, hstr]
   obtain ⟨T, hT⟩ : ∃ z, scT dur (dataP ps) s fr = z := ⟨_, rfl⟩
   rw [hT] at HT HBT
   have HTT := hid hT
   have hlT : (T.length : Int) + (fr - bg) = 512 * (k : Int) ∨ (T.length = 0 ∧ k = 0) := by rw [HT.out, List.length_drop, hsl2]; omega
   have HLT := hid hlT
   have hkb : (k : Int) ≤ 800 := by omega
   clear hstr hT d0 d1 hlT
   have HS5 := hid (Blk.newL wq [.slice none 0 0, .int .i64 fr] 29)
   have hk5 : Same wq (wq.alloc (.cells #[.slice none 0 0, .int .i64 fr] 29)) := (Kept.refl _ _).alloc _
   go_upto_region 12 with fail
   generalize hw5 : wq.alloc (.cells #[.slice none 0 0, .int .i64 fr] 29) = w5 at HS5 hk5 ⊢
   have hz5 : w5.heap.size = wq.heap.size + 1 := by rw [← hw5]; simp
   clear hw5
   have HK5 := hid ((HK4.out.trans HK.out).trans hk5)
   have HZ5 := hid ((HZ4.out.same HK.out).same hk5)
   have HR5 := hid (HU.out.rd.same hk5)
   have HUL := (show Hid (∀ b, (Value.slice a (512 * k) c).ownBlock = some b → b < wq.heap.size) from fun b hb => (HU.out.lt b hb).2)
   obtain ⟨_, _, hve, hcl, hcm2, _⟩ := HU.out.form
   obtain ⟨rfl, rfl⟩ : a = _ ∧ c = _ := by simp only [Value.slice.injEq] at hve; exact ⟨hve.1, hve.2.2⟩
   rw [hsl2] at hcl
   have hcm2 : (c : Int) ≤ 9223372036854775807 := by unfold maxLen at hcm2; omega
   clear hk5 HU HZ4 HW4 hve HOS4
   have hlz5 := HZ5.out.lt
   have hzw : w.heap.size + 1 < wq.heap.size := by have := HZ5.out.lt; omega
   go_wp2
   go_loopw [15] (fun v wx => ∃ (n : Nat) (t : ScS) (fa : Option Addr) (fn fc : Nat) (qs : List StLogFrame), v = .int .i64 t.least ∧ Hid (RchN m n ⟨T, fr, 1, []⟩ t) ∧ Hid (ScOk T fr t) ∧ Hid (datFr qs = t.frs) ∧ Hid (Blk wx wq.heap.size 29 [.slice fa fn fc, .int .i64 t.lsn]) ∧ Hid (OwnFr wx (.slice fa fn fc) qs) ∧ Hid (∀ b, footFr (.slice fa fn fc) qs b → w5.heap.size ≤ b) ∧ Hid (Kept (fun b => b = wq.heap.size) w5 wx)) (fun _ wx => (2199023255552 - intOf ((wx.cell? ⟨wq.heap.size, 1, none⟩).getD (.int .i64 0))).toNat)
   case atStart => exact ⟨0, ⟨T, fr, 1, []⟩, none, 0, 0, [], rfl, rfl, ScOk.start HBT.out, rfl, HS5, OwnFr.nil _, fun b hb => absurd hb (footFr_nil b), Kept.refl _ _⟩
   case round =>
    obtain ⟨n, t, fa, fn, fc, qs, rfl, HRC, HOKt, HQ, HSB, HO, HF, HKx⟩ := hrel
    obtain ⟨rest, lsn, least, frs⟩ := t
    dsimp only at HQ HSB ⊢
    have hat := HOKt.out.at'
    have hcnt := HOKt.out.cnt
    have htl := HOKt.out.tail
    have hisB := HOKt.out.isB
    dsimp only at hat hcnt htl hisB
    have hlT := HLT.out
    have HQL : Hid (qs.length = frs.length) := by unfold Hid; rw [← HQ.out, datFr_length]
    have HFN : Hid (fn = qs.length) := by
     unfold Hid
     obtain ⟨_, _, h⟩ := HO.out.own.rd.form
     simp only [Value.slice.injEq] at h
     exact h.2.1
    obtain ⟨s0, s1⟩ := HSB.out.all2
    have fs := HSB.out.frozen
    have HISB := hid hisB
    have hrb : rest.length ≤ 409600 := by omega
    have hlsn : fr ≤ lsn ∧ lsn ≤ fr + 409600 := by omega
    have hzx := HKx.out.size
    have hrz : lsn - bg < 512 * (k : Int) ↔ 0 < rest.length := by omega
    clear hlT
    by_cases hmore : lsn - bg < 512 * (k : Int)
    case neg =>
     have hnil : rest = [] := by
      apply List.length_eq_zero_iff.1
      omega
     subst hnil
     have hz := HZ5.out.kept HKx.out (by omega)
     obtain ⟨z0, z1⟩ := hz.all2
     have fz := hz.frozen
     have lz := hz.lt
     clear hz htl
     have hb1 : ¬ lsn - bg < ((512 * k : Nat) : Int) := by omega
     go_wp2
     refine bodyPost_ret (v := .agg #[.slice fa fn fc, .int .i64 lsn]) (by simp [results, Tryz.results5, go_sem, z0, z1]) rfl ⟨_, qs, lsn, rfl, .inr ⟨HOK.out, n, _, by rw [HTT.out]; exact HRC.out, by show (decF [] _ _ _).1 ≠ 0; rw [decF_nil]; decide, HQ.out, rfl⟩, fun b hb => ?_, ?_, ?_⟩
     ·have := HF.out b hb; omega
     ·refine HO.out.kept (R := fun b => b = w.heap.size + 1) ?_ (fun b hb e => by have := HF.out b hb; omega)
      exact Kept.setTwo (R := fun b => b = w.heap.size + 1) (Kept.refl _ _) (.inr rfl) _ _
     ·iterate 2 refine Kept.setCell ?_ (.inl (by simp only []; omega)) _
      exact HK5.out.next HKx.out (fun i hi e => by omega)
    have hb1 : lsn - bg < ((512 * k : Nat) : Int) := by omega
    obtain ⟨D5, hD5'⟩ : ∃ d : Nat, lsn - bg = (d : Int) := ⟨(lsn - bg).toNat, by omega⟩
    have hD6 : D5 < 512 * k := by omega
    have hRx := HR5.out.kept HKx.out (fun b hb e => by have := HUL.out b hb; omega)
    obtain ⟨gA, oA, rfl, hcA⟩ : ∃ g o, a = some ⟨g, o, none⟩ ∧ ∀ i, i < str.length → wr.cell? ⟨g, o + i, none⟩ = some (.int .u8 (str.getD i 0)) := by
     rcases hRx.2 with ⟨h, _⟩ | ⟨b, off, c9, h, _, hc9⟩
     ·rw [h] at hsl2; simp at hsl2; omega
     ·simp only [Value.slice.injEq] at h
      obtain ⟨rfl, _, rfl⟩ := h
      exact ⟨b, off, rfl, hc9⟩
    have HRS : Hid (Rd .u8 wr (.slice (some ⟨gA, oA + D5, none⟩) (512 * k - D5) (c - D5)) rest) := by
     have h9 := Rd.part hcA D5 (512 * k - D5) (n := 512 * k - D5) (c := c - D5) (by rw [hsl2]; omega) rfl (by omega) (by unfold maxLen; omega)
     rw [List.take_of_length_le (by rw [List.length_drop, hsl2]; exact Nat.le_refl _)] at h9
     have e1 : str.drop D5 = rest := by
      have hbg9 := HBG.out
      rw [htl, HT.out, List.drop_drop]
      congr 1
      omega
     rw [e1] at h9
     exact h9
    have hcD : ¬ c = D5 := by omega
    have hD7 : ((D5 : Nat) : Int) ≤ (c : Int) := by omega
    have hD8 : ((D5 : Nat) : Int) ≤ ((512 * k : Nat) : Int) := by omega
    have hD9 : (0 : Int) ≤ ((D5 : Nat) : Int) := by omega
    have hwr : IntKind.i64.wrap ((D5 : Nat) : Int) = ((D5 : Nat) : Int) := by rw [IntKind.wrap_i64]; omega
    have kD := fun wx (hk : Same wr wx) => specFr_any _ rest lsn least m wx HISB.out ⟨by omega, by omega⟩ (by omega) (HRS.out.same hk)
    have hcl1 : D5 ≤ c := by omega
    clear hRx hcA hb1 htl hrz
    go_upto_region 14 with fail
    go_cut [16] (fun v wx => Hid (FRs wr wx (decF rest lsn least m) v))
    case first =>
     refine wp_region_V (fun wx : World => wx.cell? ⟨wq.heap.size, 1, none⟩ = some (.int .i64 lsn)) 12 13 rfl (by kernel_rfl) ?_
     generalize hwd : World.drew wr = w6
     have hk6 : Same wr w6 := by rw [← hwd]; exact (Kept.refl _ _).drew
     have hz6 : w6.heap.size ≤ wr.heap.size := by rw [← hwd]; exact Nat.le_refl _
     have hz6b := hk6.size
     clear hwd
     have hS : (fun wx : World => wx.cell? ⟨wq.heap.size, 1, none⟩ = some (.int .i64 lsn)) w6 := hk6.cellOf s1 id
     refine tk 0 72 hS ?_
     refine tk 1 73 hS ?_
     refine tk 2 74 hS ?_
     refine tk 3 75 hS ?_
     refine tkV 4 76 (.int .i64 (D5 : Int)) hS ?_
     refine tkV 5 77 (.slice (some ⟨gA, oA + D5, none⟩) (512 * k - D5) (c - D5)) hS ?_
     refine tk 6 78 hS ?_
     refine tk 7 79 hS ?_
     refine tk 8 80 hS ?_
     refine tk 9 81 hS ?_
     refine wpAnyV_two (i := 10) (j := 11) (by kernel_rfl) rfl rfl (fun K hK => ?_) (fun K hK => ?_)
     ·go_simp
      refine (kD _ hk6).mono ?_
      rintro e w7 ⟨y, rfl, hyd, hyf, hyo, hk7⟩
      have hS : (fun wx : World => wx.cell? ⟨wq.heap.size, 1, none⟩ = some (.int .i64 lsn)) w7 := hk7.cellOf hS id
      rw [StFrameResult.val_cls]
      go_wp2_with fail
      refine hK.out _ _ (fun _ => hS) ?_
      clear hK K
      try simp only [Act.put, sA, s0, sS]
      refine wpAnyV_one (i := 11) (by kernel_rfl) rfl (fun K hK => ?_)
      go_simp
      have HB8 := hid (Blk.new w7 #[.int .i64 0, .int .i64 0, .int .i64 0, .int .i64 0, .int .i64 0, .int .i64 0, .int .i64 0, .int .i64 0, .bool false, .slice none 0 0, .bool false, .slice none 0 0, .int .i64 0, .int .i64 0, .slice none 0 0, .slice none 0 0, .slice none 0 0] 52)
      have hk8 : Same w7 (w7.alloc (.cells #[.int .i64 0, .int .i64 0, .int .i64 0, .int .i64 0, .int .i64 0, .int .i64 0, .int .i64 0, .int .i64 0, .bool false, .slice none 0 0, .bool false, .slice none 0 0, .int .i64 0, .int .i64 0, .slice none 0 0, .slice none 0 0, .slice none 0 0] 52)) := (Kept.refl _ _).alloc _
      generalize w7.alloc (.cells #[.int .i64 0, .int .i64 0, .int .i64 0, .int .i64 0, .int .i64 0, .int .i64 0, .int .i64 0, .int .i64 0, .bool false, .slice none 0 0, .bool false, .slice none 0 0, .int .i64 0, .int .i64 0, .slice none 0 0, .slice none 0 0, .slice none 0 0] 52) = w8 at HB8 hk8 ⊢
      have hS : (fun wx : World => wx.cell? ⟨wq.heap.size, 1, none⟩ = some (.int .i64 lsn)) w8 := hk8.cellOf hS id
      refine hK.out _ _ (fun _ => hS) ?_
      clear hK K
      try simp only [Act.put, sA, s0, sS]
      have hz7 : wr.heap.size ≤ w7.heap.size := by have := hk7.size; omega
      have HZ := (show Hid (FRs wr (w8.setCells w7.heap.size 0 y.cls) (decF rest lsn least m) (.pointer (some ⟨w7.heap.size, 0, none⟩))) from FRs.laid hyd hz7 HB8.out rfl (fun b hb => by have h1 := hyf b hb; have h2 := hyo.lt b hb; omega) (hyo.same hk8) ((hk6.trans hk7).trans hk8))
      have HTH := hid (HB8.out.there 0 y.cls.toArray.size (Nat.le_refl 17))
      clear hyd hyf hyo hk7 hk8 HB8
      refine wpAnyV_one (i := 12) (by kernel_rfl) rfl (fun K hK => ?_)
      refine step_store_mid (by rfl) 52 (.tmp 16) (.tmp 82) (by rfl) w7.heap.size 0 y.cls.toArray (by rfl) (by rfl) HTH.out infoFr8 y.cls_one ?_
      refine hK.out _ _ (fun h => absurd rfl h) ?_
      clear hK K
      refine wpAnyV_done (by kernel_rfl) ?_
      try simp only [Act.put, sA, s0, sS]
      clear hS HTH
      generalize World.setCells w8 w7.heap.size 0 _ = w9 at HZ ⊢
      go_wp2_with fail
      go_meet
      case rel => exact HZ
     ·go_simp
      have HB8 := hid (Blk.new w6 #[.int .i64 0, .int .i64 0, .int .i64 0, .int .i64 0, .int .i64 0, .int .i64 0, .int .i64 0, .int .i64 0, .bool false, .slice none 0 0, .bool false, .slice none 0 0, .int .i64 0, .int .i64 0, .slice none 0 0, .slice none 0 0, .slice none 0 0] 52)
      have hk8 : Same w6 (w6.alloc (.cells #[.int .i64 0, .int .i64 0, .int .i64 0, .int .i64 0, .int .i64 0, .int .i64 0, .int .i64 0, .int .i64 0, .bool false, .slice none 0 0, .bool false, .slice none 0 0, .int .i64 0, .int .i64 0, .slice none 0 0, .slice none 0 0, .slice none 0 0] 52)) := (Kept.refl _ _).alloc _
      have hz8 : (w6.alloc (.cells #[.int .i64 0, .int .i64 0, .int .i64 0, .int .i64 0, .int .i64 0, .int .i64 0, .int .i64 0, .int .i64 0, .bool false, .slice none 0 0, .bool false, .slice none 0 0, .int .i64 0, .int .i64 0, .slice none 0 0, .slice none 0 0, .slice none 0 0] 52)).heap.size = w6.heap.size + 1 := by simp
      generalize w6.alloc (.cells #[.int .i64 0, .int .i64 0, .int .i64 0, .int .i64 0, .int .i64 0, .int .i64 0, .int .i64 0, .int .i64 0, .bool false, .slice none 0 0, .bool false, .slice none 0 0, .int .i64 0, .int .i64 0, .slice none 0 0, .slice none 0 0, .slice none 0 0] 52) = w7 at HB8 hk8 hz8 ⊢
      have hS : (fun wx : World => wx.cell? ⟨wq.heap.size, 1, none⟩ = some (.int .i64 lsn)) w7 := hk8.cellOf hS id
      refine hK.out _ _ (fun _ => hS) ?_
      clear hK K
      try simp only [Act.put, sA, s0, sS]
      refine wpAnyV_one (i := 10) (by kernel_rfl) rfl (fun K hK => ?_)
      go_simp
      refine (kD _ (hk6.trans hk8)).mono ?_
      rintro e w8 ⟨y, rfl, hyd, hyf, hyo, hk9⟩
      have hS : (fun wx : World => wx.cell? ⟨wq.heap.size, 1, none⟩ = some (.int .i64 lsn)) w8 := hk9.cellOf hS id
      have HB9 := hid (HB8.out.same hk9)
      rw [StFrameResult.val_cls]
      go_wp2_with fail
      refine hK.out _ _ (fun _ => hS) ?_
      clear hK K
      try simp only [Act.put, sA, s0, sS]
      have HZ := (show Hid (FRs wr (w8.setCells w6.heap.size 0 y.cls) (decF rest lsn least m) (.pointer (some ⟨w6.heap.size, 0, none⟩))) from FRs.laid hyd (by omega) HB9.out rfl (fun b hb => by have h1 := hyf b hb; omega) hyo ((hk6.trans hk8).trans hk9))
      have HTH := hid (HB9.out.there 0 y.cls.toArray.size (Nat.le_refl 17))
      clear hyd hyf hyo hk9 hk8 HB8 HB9
      refine wpAnyV_one (i := 12) (by kernel_rfl) rfl (fun K hK => ?_)
      refine step_store_mid (by rfl) 52 (.tmp 16) (.tmp 82) (by rfl) w6.heap.size 0 y.cls.toArray (by rfl) (by rfl) HTH.out infoFr8 y.cls_one ?_
      refine hK.out _ _ (fun h => absurd rfl h) ?_
      clear hK K
      refine wpAnyV_done (by kernel_rfl) ?_
      try simp only [Act.put, sA, s0, sS]
      clear hS HTH
      generalize World.setCells w8 w6.heap.size 0 _ = w9 at HZ ⊢
      go_wp2_with fail
      go_meet
      case rel => exact HZ
    case rest =>
     obtain ⟨Z, y, rfl, hyd, hZ, hbz, hyf, hyo, hyk⟩ := hcut.out
     clear hcut kD
     have hyc : y.code = (decF rest lsn least m).1 := congrArg (fun x => x.1) hyd
     have hzc := hyk.size
     have HSC := hid (HSB.out.same hyk)
     have HKC := hid (HKx.out.next hyk (fun i hi e => e.elim))
     have hlq := HSB.out.lt
     clear s0 s1 fs
     obtain ⟨s0, s1⟩ := HSC.out.all2
     have fs := HSC.out.frozen
     by_cases hcz : y.code = 0
     case neg =>
      have g0 : wc.cell? ⟨Z, 0, none⟩ = some (.int .i64 y.code) := hbz.cell 0
      have hz := (HZ5.out.kept HKx.out (by omega)).same hyk
      obtain ⟨z0, z1⟩ := hz.all2
      have fz := hz.frozen
      have lz := hz.lt
      have HCZ : Hid ((decF rest lsn least m).1 ≠ 0) := by unfold Hid; rw [← hyc]; exact hcz
      have HOC := hid (HO.out.same hyk)
      clear hz hyd hyc hbz hyf hyo hyk
      generalize y.code = yc at *
      have hcq : (yc != 0) = true := by simp [hcz]
      go_wp2
      refine bodyPost_ret (v := .agg #[.slice fa fn fc, .int .i64 lsn]) (by simp [results, Tryz.results5, go_sem, z0, z1]) rfl ⟨_, qs, lsn, rfl, .inr ⟨HOK.out, n, ⟨rest, lsn, least, frs⟩, by rw [HTT.out]; exact HRC.out, HCZ.out, HQ.out, rfl⟩, fun b hb => ?_, ?_, ?_⟩
      ·have := HF.out b hb; omega
      ·refine HOC.out.kept (R := fun b => b = w.heap.size + 1) ?_ (fun b hb e => by have := HF.out b hb; omega)
       exact Kept.setTwo (R := fun b => b = w.heap.size + 1) (Kept.refl _ _) (.inr rfl) _ _
      ·iterate 2 refine Kept.setCell ?_ (.inl (by simp only []; omega)) _
       exact HK5.out.next HKC.out (fun i hi e => by omega)
     have hdz : (decF rest lsn least m).1 = 0 := by rw [← hyc]; exact hcz
     have HRN := hid (RchN.snoc HRC.out (show (ScS.dec m ⟨rest, lsn, least, frs⟩).1 = 0 from hdz))
     have HON := hid (HOKt.out.next (m := m) (show (ScS.dec m ⟨rest, lsn, least, frs⟩).1 = 0 from hdz))
     obtain ⟨sz, hsz, hs33, _, hs99⟩ := decF_size hdz
     have hysz : y.fsz = (sz : Int) := (congrArg (fun x => x.2.1) hyd).trans hsz
     have hye : y.epoch = (decF rest lsn least m).2.2.1 := congrArg (fun x => x.2.2.1) hyd
     have hyr : y.record.dat = (decF rest lsn least m).2.2.2 := congrArg (fun x => x.2.2.2) hyd
     have hnx : ScS.next m ⟨rest, lsn, least, frs⟩ = ⟨rest.drop sz, lsn + (sz : Int), y.epoch, frs ++ [(lsn, y.epoch, y.record.dat)]⟩ := by
      unfold ScS.next ScS.dec
      dsimp only
      rw [hsz, hye, hyr]
      rfl
     rw [hnx] at HRN HON
     clear hnx hyc hye hyr hsz hdz hyd HRC HOKt
     obtain ⟨code, fsz, ep, ⟨kind, txn, prev, page, slot, ⟨bU, ⟨bE, bA, bC, bB⟩⟩, ⟨aU, ⟨aE, aA, aC, aB⟩⟩, uN, nT, ⟨tE, tA, tN, tC, tB⟩, ⟨dE, dA, dN, dC, dB⟩, ⟨iE, iA, iC, iB⟩⟩⟩ := y
     dsimp only at hcz hysz
     subst hcz hysz
     dsimp only [StFrameResult.cls, BS.v, FR.v] at hbz
     obtain ⟨p, HPC, HPD, HYO, HYF⟩ : ∃ p : StLogFrame, Hid (p.cells = [.int .i64 lsn, .int .i64 ep, .int .i64 kind, .int .i64 txn, .int .i64 prev, .int .i64 page, .int .i64 slot, .bool bU, .slice bA bB.length bC, .bool aU, .slice aA aB.length aC, .int .i64 uN, .int .i64 nT, .slice tA tN tC, .slice dA dN dC, .slice iA iB.length iC]) ∧ Hid (p.dat = (lsn, ep, StLogRecord.dat ⟨kind, txn, prev, page, slot, ⟨bU, ⟨bE, bA, bC, bB⟩⟩, ⟨aU, ⟨aE, aA, aC, aB⟩⟩, uN, nT, ⟨tE, tA, tN, tC, tB⟩, ⟨dE, dA, dN, dC, dB⟩, ⟨iE, iA, iC, iB⟩⟩)) ∧ Hid (OwnL wc p.rows) ∧ Hid (∀ b, FootL p.rows b → wr.heap.size ≤ b ∧ ¬ b = Z) := ⟨(StFrameResult.fr ⟨0, (sz : Int), ep, ⟨kind, txn, prev, page, slot, ⟨bU, ⟨bE, bA, bC, bB⟩⟩, ⟨aU, ⟨aE, aA, aC, aB⟩⟩, uN, nT, ⟨tE, tA, tN, tC, tB⟩, ⟨dE, dA, dN, dC, dB⟩, ⟨iE, iA, iC, iB⟩⟩⟩ lsn), rfl, rfl, hyo, hyf⟩
     have HBZ := hid hbz
     obtain ⟨g0, g1, g2, g3, g4, g5, g6, g7, g8, g9, g10, g11, g12, g13, g14, g15, g16⟩ := hbz.all17
     have lz := hbz.lt
     have HOC := hid (HO.out.same hyk)
     have hfl : qs.length ≤ 20000 := by have := HQL.out; omega
     have hnf : ¬ (Value.slice fa fn fc).ownBlock = some wq.heap.size := fun e => by have := HF.out _ (.inl e); omega
     have hnz : ¬ (Value.slice fa fn fc).ownBlock = some Z := fun e => by have := (HO.out.lt _ (.inl e)); omega
     have HND := (show Hid (∀ b, FootL p.rows b → ¬ footFr (.slice fa fn fc) qs b) from fun b hb hf => by have h1 := (HYF.out b hb).1; have h2 := HO.out.lt b hf; omega)
     clear hyo hyf hbz
     go_upto_region 17 with (at_builtin; go_loud (refine wpList_addFr (p := p) rfl (.tmp 87) (.tmp 95) rfl rfl rfl (by rw [HPC.out]; exact Blk.newL wc [.int .i64 lsn, .int .i64 ep, .int .i64 kind, .int .i64 txn, .int .i64 prev, .int .i64 page, .int .i64 slot, .bool bU, .slice bA bB.length bC, .bool aU, .slice aA aB.length aC, .int .i64 uN, .int .i64 nT, .slice tA tN tC, .slice dA dN dC, .slice iA iB.length iC] 55) (HOC.out.same ((Kept.refl _ _).alloc _)) (HYO.out.same ((Kept.refl _ _).alloc _)) HND.out hfl ?_); intro gF cF w6 ho6 hk6 hf6; have HS7 := hid ((HSC.out.alloc _).kept hk6 hnf); have HZ7 := hid ((HBZ.out.alloc _).kept hk6 hnz); have HO6 := hid ho6; have HK6 := hid ((HKC.out.alloc _).next hk6 (fun i hi e => absurd (HF.out i (.inl e)) (by omega))); have HFS := (show Hid (∀ b, footFr (.slice (some ⟨gF, 0, none⟩) (fn + 1) cF) (qs ++ [p]) b → w5.heap.size ≤ b) from fun b hb => by rcases hf6 b hb with h | h | h; { exact HF.out b h }; { have := (HYF.out b h).1; omega }; { rw [World.size_alloc] at h; omega }); have z0 := HS7.out.cell 0; have fz6 := HS7.out.frozen; have lz6 := HS7.out.lt; clear ho6 hk6 hf6)
     have hk7 : Kept (fun b => b = wq.heap.size) w6 (w6.setCell ⟨wq.heap.size, 0, none⟩ (.slice (some ⟨gF, 0, none⟩) (fn + 1) cF)) := Kept.setCell (R := fun b => b = wq.heap.size) (Kept.refl _ _) (p := ⟨wq.heap.size, 0, none⟩) (.inr rfl) _
     have HS8 := hid (HS7.out.stored 0 (.slice (some ⟨gF, 0, none⟩) (fn + 1) cF))
     have HZ8 := hid (HZ7.out.kept hk7 (fun e => by have e' : Z = wq.heap.size := e; omega))
     have HO8 := hid (HO6.out.kept hk7 (fun b hb e => by have e' : b = wq.heap.size := e; have := HFS.out b hb; omega))
     have HK8 := hid (HK6.out.trans hk7)
     generalize w6.setCell ⟨wq.heap.size, 0, none⟩ (.slice (some ⟨gF, 0, none⟩) (fn + 1) cF) = w7 at HS8 HZ8 HO8 HK8 ⊢
     clear hk7 z0 fz6 lz6 g0 g1 g2 g3 g4 g5 g6 g7 g8 g9 g10 g11 g12 g13 g14 g15 g16 s0 s1 fs HS7 HZ7 HO6 HK6
     obtain ⟨s0, s1⟩ := (show Blk w7 wq.heap.size 29 [.slice (some ⟨gF, 0, none⟩) (fn + 1) cF, .int .i64 lsn] from HS8.out).all2
     have fs := HS8.out.frozen
     have g1 : w7.cell? ⟨Z, 1, none⟩ = some (.int .i64 (sz : Int)) := HZ8.out.cell 1
     go_upto_region 18 with fail
     have hk9 : Kept (fun b => b = wq.heap.size) w7 (w7.setCell ⟨wq.heap.size, 1, none⟩ (.int .i64 (lsn + (sz : Int)))) := Kept.setCell (R := fun b => b = wq.heap.size) (Kept.refl _ _) (p := ⟨wq.heap.size, 1, none⟩) (.inr rfl) _
     have HS9 := (show Hid (Blk (w7.setCell ⟨wq.heap.size, 1, none⟩ (.int .i64 (lsn + (sz : Int)))) wq.heap.size 29 [.slice (some ⟨gF, 0, none⟩) (fn + 1) cF, .int .i64 (lsn + (sz : Int))]) from HS8.out.stored 1 _)
     have HZ9 := hid (HZ8.out.kept hk9 (fun e => by have e' : Z = wq.heap.size := e; omega))
     have HO9 := hid (HO8.out.kept hk9 (fun b hb e => by have e' : b = wq.heap.size := e; have := HFS.out b hb; omega))
     have HK9 := hid (HK8.out.trans hk9)
     generalize w7.setCell ⟨wq.heap.size, 1, none⟩ (.int .i64 (lsn + (sz : Int))) = w9 at HS9 HZ9 HO9 HK9 ⊢
     clear hk9 s0 s1 fs g1 HS8 HZ8 HO8 HK8
     have g2 : w9.cell? ⟨Z, 2, none⟩ = some (.int .i64 ep) := HZ9.out.cell 2
     go_wp2
     go_roundw
     case rel =>
      refine ⟨n + 1, _, some ⟨gF, 0, none⟩, fn + 1, cF, _, rfl, HRN, HON, ?_, HS9, HO9, HFS, HK9⟩
      show datFr (qs ++ [p]) = _
      unfold datFr
      rw [List.map_append]
      rw [show qs.map StLogFrame.dat = frs from HQ.out, List.map_singleton, HPD.out]
     case measure =>
      have m0 := HSB.out.cell 1
      have m1 := HS9.out.cell 1
      rw [m0, m1]
      show (2199023255552 - (lsn + (sz : Int))).toNat < (2199023255552 - lsn).toNat
      omega
end Go.Proofs.YtaojjcnmififoaaGreat
