import Derived.Test.YtaojjcnmififoaaGreatScU
import Derived.Test.YtaojjcnmififoaaGreatFrS
namespace Go.Proofs.YtaojjcnmififoaaGreat
set_option maxRecDepth 100000
set_option maxHeartbeats 8000000
set_option linter.unusedVariables false
set_option linter.unusedSimpArgs false
open Go.RowKit
theorem ZU {f : FuncId} {args : Array Value} {w : World} {P : Prop} (hP : P) (h : Calls Tryz.prog f args w fun e w' => Says e P ∧ Same w w') : Calls Tryz.prog f args w fun e w' => e = .returned (.bool true) ∧ Same w w' :=
 h.mono fun e w' ⟨⟨B, he, hB⟩, hk⟩ => ⟨by rw [he, hB.2 hP], hk⟩
theorem YI {f : FuncId} {args : Array Value} {w : World} {P : Prop} (hP : ¬ P) (h : Calls Tryz.prog f args w fun e w' => Says e P ∧ Same w w') : Calls Tryz.prog f args w fun e w' => e = .returned (.bool false) ∧ Same w w' :=
 h.mono fun e w' ⟨⟨B, he, hB⟩, hk⟩ => ⟨by rw [he]; cases B with | false => rfl | true => exact absurd (hB.1 rfl) hP, hk⟩
theorem ScanA.no {dur : List Int} {ds : List (Int × List Int)} {s fr m : Int} (h : ¬ Tm dur.length ds s fr) : ScanA dur ds s fr m (Sv []) 0 := .inl ⟨h, rfl, rfl⟩
theorem jau (dv pv : Value) (dur : List Int) (ps : List PW) (s fr m : Int) (w : World) (hB : IsB dur) (ym : ∀ p ∈ ps, IsB p.bs) (hd : dur.length ≤ 1099511627776) (hv : RdD w dv pv dur ps) :
  Calls Tryz.prog 5 #[.agg #[dv, pv], .int .i64 s, .int .i64 fr, .int .i64 m] w fun e w' => ∃ v qs en, e = .returned (.agg #[v, .int .i64 en]) ∧ ScanA dur (Rh ps) s fr m (Sv qs) en ∧ (∀ b, Sm v qs b → w.heap.size ≤ b) ∧ OwnFr w' v qs ∧ Same w w' := by
 obtain ⟨a1, c1, rfl⟩ := hv.dur.form
 obtain ⟨a2, c2, rfl⟩ := hv.pend.form
 have HV := hid hv
 have mg : ∀ p ∈ Rh ps, IsB p.2 := fun p hp => by
  obtain ⟨q, hq, rfl⟩ := List.mem_map.1 hp
  exact ym q hq
 have Hh := hid (jcx (s := s) (fr := fr) hB mg)
 clear hv ym hB mg
 have aJ := (show Hid (Same w ((w.alloc (.cells #[.slice a1 dur.length c1, .slice a2 ps.length c2] 33)).alloc (.cells #[.slice none 0 0, .int .i64 0] 29))) from (kZ0.alloc _).alloc _)
 have mQ := hid (Blk.newA w [.slice a1 dur.length c1, .slice a2 ps.length c2] 33 [.slice none 0 0, .int .i64 0] 29)
 have eo := hid (Blk.newB w [.slice a1 dur.length c1, .slice a2 ps.length c2] 33 [.slice none 0 0, .int .i64 0] 29)
 have hP := fun wx => V8 s fr wx
 by_cases hp : (16 ≤ s ∧ s ≤ 800) ∧ (512 ≤ fr ∧ fr ≤ 1099511627776)
 case neg =>
  rw [TW hp] at hP
  have HN : Hid (¬ Tm dur.length (Rh ps) s fr) := fun h => hp h.1
  clear hp
  go_enter Tryz.func5, Tryz.ntmps5
  go_wp2_with fail
  refine (hP _).mono ?_
  rintro e w1 ⟨rfl, hk⟩
  have aM := hid (aJ.out.trans hk)
  have ik := hid (eo.out.same hk)
  obtain ⟨z0, z1⟩ := ik.out.all2
  have fz := ik.out.frozen
  have lz := ik.out.lt
  clear hk hP
  go_wp2
  refine bodyPost_ret (v := .agg #[.slice none 0 0, .int .i64 0]) (by simp [results, Tryz.results5, go_sem, z0, z1]) rfl ⟨_, [], 0, rfl, ScanA.no HN.out, fun b hb => absurd hb (TT b), OwnFr.nil _, ?_⟩
  ·iterate 2 refine Kept.setCell ?_ (.inl (by simp only []; omega)) _
   exact aM.out
 have tQ := Tz hp
 obtain ⟨pl, nE⟩ : ∃ pl, Sw s fr = pl := ⟨_, rfl⟩
 rw [nE] at hP tQ
 obtain ⟨FU, Gp⟩ := tQ
 have pS : ¬ pl < 0 := by omega
 by_cases hr : Room dur.length (Rh ps) s
 case neg =>
  have hR := fun wx (hk : Same w wx) => YI hr (YC _ _ dur ps s wx (by omega) (HV.out.same hk))
  have HN : Hid (¬ Tm dur.length (Rh ps) s fr) := fun h => hr h.2
  clear hp hr
  go_enter Tryz.func5, Tryz.ntmps5
  go_wp2_with fail
  refine (hP _).mono ?_
  rintro e w1 ⟨rfl, hk⟩
  have aM := hid (aJ.out.trans hk)
  have ik := hid (eo.out.same hk)
  obtain ⟨d0, d1⟩ := (mQ.out.same hk).all2
  clear hk hP
  go_wp2_with fail
  refine (hR _ aM.out).mono ?_
  rintro e w2 ⟨rfl, hk⟩
  have aY := hid (aM.out.trans hk)
  have mI := hid (ik.out.same hk)
  obtain ⟨z0, z1⟩ := mI.out.all2
  have fz := mI.out.frozen
  have lz := mI.out.lt
  clear hk hR
  go_wp2
  refine bodyPost_ret (v := .agg #[.slice none 0 0, .int .i64 0]) (by simp [results, Tryz.results5, go_sem, z0, z1]) rfl ⟨_, [], 0, rfl, ScanA.no HN.out, fun b hb => absurd hb (TT b), OwnFr.nil _, ?_⟩
  ·iterate 2 refine Kept.setCell ?_ (.inl (by simp only []; omega)) _
   exact aY.out
 have hR := fun wx (hk : Same w wx) => ZU hr (YC _ _ dur ps s wx (by omega) (HV.out.same hk))
 have gw := (show Hid (Tm dur.length (Rh ps) s fr) from ⟨hp, hr⟩)
 have hS := fun wx (hk : Same w wx) => jar _ _ dur ps wx hd (HV.out.same hk) hr.1
 obtain ⟨M, hM⟩ : ∃ M, scM s fr = M := ⟨_, rfl⟩
 obtain ⟨bg, oy⟩ : ∃ z, fr - fr % 512 = z := ⟨_, rfl⟩
 have Dj : 0 ≤ bg := by omega
 have CQ : bg ≤ fr := by omega
 have Gk : fr < bg + 512 := by omega
 have Qj : (M : Int) ≤ s := by rw [← hM]; unfold scM; omega
 have Qr : bg + 512 * (M : Int) ≤ 1099511627776 := by rw [← hM, ← oy]; unfold scM; omega
 have QJ : (M : Int) = s ∨ 1099511627776 < bg + 512 * ((M : Int) + 1) := by rw [← hM, ← oy]; unfold scM; omega
 have lv : s ≤ 800 := hp.1.2
 have nu : 16 ≤ s := hp.1.1
 have Lp : 512 ≤ fr := hp.2.1
 have gK : fr ≤ 1099511627776 := hp.2.2
 have HM := hid hM
 have pU := hid oy
 have PL : fr.tmod 512 = fr % 512 := by rw [Int.tmod_eq_emod_of_nonneg (by omega)]
 have yW : fr - fr % 512 = bg := oy
 have bH := hr.2
 have QP := hr.1.1
 clear hp hr hM nE FU Gp
 go_enter Tryz.func5, Tryz.ntmps5
 go_wp2_with fail
 refine (hP _).mono ?_
 rintro e w1 ⟨rfl, hk⟩
 have aM := hid (aJ.out.trans hk)
 have ik := hid (eo.out.same hk)
 have zG := hid (mQ.out.same hk)
 obtain ⟨d0, d1⟩ := zG.out.all2
 clear hk hP aJ eo mQ
 go_wp2_with fail
 refine (hR _ aM.out).mono ?_
 rintro e w2 ⟨rfl, hk⟩
 have aY := hid (aM.out.trans hk)
 have mI := hid (ik.out.same hk)
 have JL := hid (zG.out.same hk)
 clear d0 d1
 obtain ⟨d0, d1⟩ := JL.out.all2
 clear hk hR aM ik zG
 go_wp2_with fail
 refine (hS _ aY.out).mono ?_
 rintro e w3 ⟨aS, Me, cS, rfl, Iv, yR, hk⟩
 have dt := hid (aY.out.trans hk)
 have zd := hid (mI.out.same hk)
 obtain ⟨sd, BM⟩ : ∃ z, Ta (fun _ => true) dur (Rh ps) ps.length = z := ⟨_, rfl⟩
 rw [BM] at yR
 have iO : sd.length = dur.length := by rw [← BM]; exact UL _ _ _ gw.out.2.1 _ (by rw [RN]; exact Nat.le_refl _)
 have On := hid BM
 obtain ⟨gS, rfl, rfl, Qt⟩ : ∃ g, aS = some ⟨g, 0, none⟩ ∧ Me = sd.length ∧ sd.length ≤ cS := by
  rcases yR.form with ⟨h, h2⟩ | ⟨g, cap, h, _, _, h3, _⟩
  ·have := gw.out.2.2; have := gw.out.1.1.1; rw [h2] at iO; simp at iO; omega
  ·simp only [Value.slice.injEq] at h
   obtain ⟨rfl, rfl, rfl⟩ := h
   exact ⟨g, rfl, rfl, h3⟩
 have Qz := Iv gS rfl
 have jY : cS ≤ maxLen := by
  rcases yR.form with ⟨h, h2⟩ | ⟨g, cap, h, _, _, _, h4⟩
  ·simp at h
  ·simp only [Value.slice.injEq] at h
   obtain ⟨_, _, rfl⟩ := h
   exact h4
 have jY : (cS : Int) ≤ 9223372036854775807 := by unfold maxLen at jY; omega
 have IS := hid yR
 have tT := hk.size
 have Qb := mI.out.lt
 clear hk hS aY mI JL d0 d1 yR Iv BM
 have yT := hid (Blk.newL w3 [.slice (some ⟨gS, 0, none⟩) sd.length cS, .slice none 0 0] 33)
 have iF : Same w3 (w3.alloc (.cells #[.slice (some ⟨gS, 0, none⟩) sd.length cS, .slice none 0 0] 33)) := kZ0.alloc _
 generalize Ap : sd.length = SL at *
 have wj := hid Ap
 have O8 : SL ≤ dur.length := by omega
 have LV : dur.length ≤ SL := by omega
 clear Ap iO
 go_upto_region 5 with fail
 generalize w3.alloc (.cells #[.slice (some ⟨gS, 0, none⟩) SL cS, .slice none 0 0] 33) = w4 at yT iF ⊢
 have cu := hid (dt.out.trans iF)
 have wF := hid (zd.out.same iF)
 have ze := hid (IS.out.same iF)
 have Jr := yT.out.lt
 clear iF dt zd IS
 have B4 := (show Hid (Un w4.heap.size (w4.alloc (.cells #[] 5)) (.slice (some ⟨w4.heap.size, 0, none⟩) 0 0) (Vp dur (Rh ps) s bg 0)) from .inr ⟨w4.heap.size, 0, 0, rfl, Nat.le_refl _, Nat.le_refl _, Nat.zero_le _, by simp, fun j hj => by omega, fun j hj => by simp [Vp] at hj⟩)
 have dp := hid (Xx w4 [] 5)
 go_wp2
 go_loopw [11, 12] (fun v i wr => ∃ (k : Nat) (a : Option Addr) (c : Nat), k ≤ M ∧ i = .int .i64 (k : Int) ∧ v = .slice a (512 * k) c ∧ Hid (Un w4.heap.size wr (.slice a (512 * k) c) (Vp dur (Rh ps) s bg k)) ∧ Hid (Same w4 wr)) (fun _ i _ => M - (intOf i).toNat)
 case atStart => exact ⟨0, _, _, Nat.zero_le _, rfl, rfl, B4, dp⟩
 case round =>
  clear B4 dp
  obtain ⟨k, a, c, hk, rfl, rfl, HU, HK⟩ := hrel
  have FF := HK.out.size
  obtain ⟨d0, d1⟩ := (yT.out.same HK.out).all2
  by_cases pq : k < M
  case pos =>
   have aH : (k : Int) < s := by omega
   have aN : bg + ((k : Int) + 1) * 512 ≤ 1099511627776 := by omega
   have kP := fun wx => V8 s (bg + (k : Int) * 512) wx
   have uJ := Tz (s := s) (l := bg + (k : Int) * 512) ⟨⟨nu, lv⟩, by have := pU.out; omega⟩
   obtain ⟨pk, we⟩ : ∃ p : Nat, Sw s (bg + (k : Int) * 512) = (p : Int) := ⟨(Sw s (bg + (k : Int) * 512)).toNat, by omega⟩
   rw [we] at kP uJ
   have Fo : pk < dur.length / 512 := by omega
   have LO : pk * 512 + 512 ≤ SL := by omega
   have MF : ((pk : Int) * 512).toNat = pk * 512 := by omega
   have um : ((pk : Int) * 512 + 512).toNat = pk * 512 + 512 := by omega
   have OB : (pk : Int) * 512 + 512 ≤ (cS : Int) := by omega
   have Ep : Hid ((sd.drop (pk * 512)).take 512 = WQ dur (Rh ps) s bg k) := by
    unfold Hid
    have h := jcd (ds := Rh ps) gw.out.2.1 Fo
    rw [RN, On.out] at h
    rw [h, ← we]
    unfold WQ
    rw [Int.mul_comm]
   clear we
   go_wp2_with fail
   refine (kP _).mono ?_
   rintro e x1 ⟨rfl, fm⟩
   have HX := hid (HK.out.trans fm)
   have Ij := hid (HU.out.same fm)
   have N8 := hid (ze.out.same HX.out)
   clear d0 d1
   obtain ⟨d0, d1⟩ := (yT.out.same HX.out).all2
   have Nf := fm.size
   clear fm kP
   have Jw : Rd .u8 x1 (.slice (some ⟨gS, pk * 512, none⟩) 512 (cS - pk * 512)) (WQ dur (Rh ps) s bg k) := by
    rw [← Ep.out]
    have hr := N8.out.rd
    rcases hr.2 with ⟨h, _⟩ | ⟨b, off, c9, h, P2, qN⟩
    ·have Ap := wj.out; rw [h] at Ap; simp at Ap; omega
    ·simp only [Value.slice.injEq, Option.some.injEq, Addr.mk.injEq, and_true] at h
     obtain ⟨⟨rfl, rfl⟩, _, rfl⟩ := h
     have h9 := Rd.part (fun j hj => qN j hj) (pk * 512) 512 (n := 512) (c := cS - pk * 512) (by rw [wj.out]; omega) rfl (by omega) (by unfold maxLen; omega)
     rwa [Nat.zero_add] at h9
   have wA : (WQ dur (Rh ps) s bg k).length = 512 := by rw [← pU.out]; exact Uu gw.out (by rw [HM.out]; exact pq)
   have kc : (Vp dur (Rh ps) s bg k).length = 512 * k := by rw [← pU.out]; exact TY gw.out (by rw [HM.out]; omega)
   obtain ⟨a', c', x2, iH, kt, aG, uY⟩ := ZY (ty := 22) Ij.out (by omega) Jw (by rw [wA]; decide) (by rw [kc, wA]; omega)
   rw [kc, wA] at iH kt uY
   rw [← VS] at kt
   have B4 := hid kt
   have Fj := hid (HX.out.next aG (fun i hi e => by have := Ij.out.lt i e.1; omega))
   have qp := hid iH
   clear iH kt aG uY Jw
   go_wp2_with (at_builtin; go_loud (refine Wv rfl (.tmp 55) (.tmp 61) 22 22 rfl _ _ rfl rfl _ _ qp.out ?_))
   go_roundw
   case rel => exact ⟨k + 1, a', c', by omega, by go_num, rfl, B4, Fj⟩
   case measure => simp [intOf]; omega
  obtain rfl : k = M := by omega
  go_upto_region 7 with fail
  go_cut [45] (fun v wx => v = .bool false ∧ wr = wx)
  case first =>
   by_cases sQ : (k : Int) < s
   ·have QM : ¬ bg + ((k : Int) + 1) * 512 ≤ 1099511627776 := by omega
    go_wp2
    go_meet
    case rel => exact ⟨rfl, rfl⟩
   ·go_wp2
    go_meet
    case rel => exact ⟨rfl, rfl⟩
  case rest =>
   obtain ⟨rfl, rfl⟩ := hcut
   generalize wr = wq at *
   obtain ⟨str, qq⟩ : ∃ z, Vp dur (Rh ps) s bg k = z := ⟨_, rfl⟩
   rw [qq] at HU
   have nB : str.length = 512 * k := by rw [← qq, ← pU.out]; exact TY gw.out (by rw [HM.out]; exact Nat.le_refl _)
   have HT : Hid (scT dur (Rh ps) s fr = str.drop (fr % 512).toNat) := by
    unfold Hid scT
    rw [HM.out, pU.out, qq]
   obtain ⟨T, hT⟩ : ∃ z, scT dur (Rh ps) s fr = z := ⟨_, rfl⟩
   rw [hT] at HT Hh
   have K0 := hid hT
   have BW : (T.length : Int) + (fr - bg) = 512 * (k : Int) ∨ (T.length = 0 ∧ k = 0) := by rw [HT.out, List.length_drop, nB]; omega
   have rH := hid BW
   have QV : (k : Int) ≤ 800 := by omega
   clear qq hT d0 d1 BW
   have Jg := hid (Blk.newL wq [.slice none 0 0, .int .i64 fr] 29)
   have eA : Same wq (wq.alloc (.cells #[.slice none 0 0, .int .i64 fr] 29)) := kZ0.alloc _
   go_upto_region 12 with fail
   generalize tR : wq.alloc (.cells #[.slice none 0 0, .int .i64 fr] 29) = w5 at Jg eA ⊢
   have Ld : w5.heap.size = wq.heap.size + 1 := by rw [← tR]; simp
   clear tR
   have dp := hid ((cu.out.trans HK.out).trans eA)
   have A4 := hid ((wF.out.same HK.out).same eA)
   have lW := hid (HU.out.rd.same eA)
   have qQ := (show Hid (∀ b, (Value.slice a (512 * k) c).ownBlock = some b → b < wq.heap.size) from fun b hb => (HU.out.lt b hb).2)
   obtain ⟨_, _, pT, lM, zo, _⟩ := HU.out.form
   obtain ⟨rfl, rfl⟩ : a = _ ∧ c = _ := by simp only [Value.slice.injEq] at pT; exact ⟨pT.1, pT.2.2⟩
   rw [nB] at lM
   have zo : (c : Int) ≤ 9223372036854775807 := by unfold maxLen at zo; omega
   clear eA HU wF yT pT ze
   have L5 := A4.out.lt
   have Mk : w.heap.size + 1 < wq.heap.size := by have := A4.out.lt; omega
   go_wp2
   go_loopw [15] (fun v wx => ∃ (n : Nat) (t : ScS) (fa : Option Addr) (fn fc : Nat) (qs : List StLogFrame), v = .int .i64 t.least ∧ Hid (RchN m n ⟨T, fr, 1, []⟩ t) ∧ Hid (ScOk T fr t) ∧ Hid (Sv qs = t.frs) ∧ Hid (Blk wx wq.heap.size 29 [.slice fa fn fc, .int .i64 t.lsn]) ∧ Hid (OwnFr wx (.slice fa fn fc) qs) ∧ Hid (∀ b, Sm (.slice fa fn fc) qs b → w5.heap.size ≤ b) ∧ Hid (Kept (fun b => b = wq.heap.size) w5 wx)) (fun _ wx => (2199023255552 - intOf ((wx.cell? ⟨wq.heap.size, 1, none⟩).getD (.int .i64 0))).toNat)
   case atStart => exact ⟨0, ⟨T, fr, 1, []⟩, none, 0, 0, [], rfl, rfl, ScOk.start Hh.out, rfl, Jg, OwnFr.nil _, fun b hb => absurd hb (TT b), kZ0⟩
   case round =>
    obtain ⟨n, t, fa, fn, fc, qs, rfl, kp, gu, HQ, wn, HO, HF, wE⟩ := hrel
    obtain ⟨rest, lsn, least, frs⟩ := t
    dsimp only at HQ wn ⊢
    have fk := gu.out.at'
    have pH := gu.out.cnt
    have Bo := gu.out.tail
    have zn := gu.out.isB
    dsimp only at fk pH Bo zn
    have BW := rH.out
    have gg : Hid (qs.length = frs.length) := by unfold Hid; rw [← HQ.out, Sg]
    have NT : Hid (fn = qs.length) := by
     unfold Hid
     obtain ⟨_, _, h⟩ := HO.out.own.rd.form
     simp only [Value.slice.injEq] at h
     exact h.2.1
    obtain ⟨s0, s1⟩ := wn.out.all2
    have fs := wn.out.frozen
    have uP := hid zn
    have fI : rest.length ≤ 409600 := by omega
    have Er : fr ≤ lsn ∧ lsn ≤ fr + 409600 := by omega
    have Nf := wE.out.size
    have NF : lsn - bg < 512 * (k : Int) ↔ 0 < rest.length := by omega
    clear BW
    by_cases hmore : lsn - bg < 512 * (k : Int)
    case neg =>
     have kR : rest = [] := by
      apply List.length_eq_zero_iff.1
      omega
     subst kR
     have hz := A4.out.kept wE.out (by omega)
     obtain ⟨z0, z1⟩ := hz.all2
     have fz := hz.frozen
     have lz := hz.lt
     clear hz Bo
     have cN : ¬ lsn - bg < ((512 * k : Nat) : Int) := by omega
     go_wp2
     refine bodyPost_ret (v := .agg #[.slice fa fn fc, .int .i64 lsn]) (by simp [results, Tryz.results5, go_sem, z0, z1]) rfl ⟨_, qs, lsn, rfl, .inr ⟨gw.out, n, _, by rw [K0.out]; exact kp.out, by show (RP [] _ _ _).1 ≠ 0; rw [jbf]; decide, HQ.out, rfl⟩, fun b hb => ?_, ?_, ?_⟩
     ·have := HF.out b hb; omega
     ·refine HO.out.kept (R := fun b => b = w.heap.size + 1) ?_ (fun b hb e => by have := HF.out b hb; omega)
      exact Kept.setTwo (R := fun b => b = w.heap.size + 1) kZ0 (.inr rfl) _ _
     ·iterate 2 refine Kept.setCell ?_ (.inl (by simp only []; omega)) _
      exact dp.out.next wE.out (fun i hi e => by omega)
    have cN : lsn - bg < ((512 * k : Nat) : Int) := by omega
    obtain ⟨D5, MO⟩ : ∃ d : Nat, lsn - bg = (d : Int) := ⟨(lsn - bg).toNat, by omega⟩
    have P5 : D5 < 512 * k := by omega
    have JN := lW.out.kept wE.out (fun b hb e => by have := qQ.out b hb; omega)
    obtain ⟨gA, oA, rfl, Im⟩ : ∃ g o, a = some ⟨g, o, none⟩ ∧ ∀ i, i < str.length → wr.cell? ⟨g, o + i, none⟩ = some (.int .u8 (str.getD i 0)) := by
     rcases JN.2 with ⟨h, _⟩ | ⟨b, off, c9, h, _, qN⟩
     ·rw [h] at nB; simp at nB; omega
     ·simp only [Value.slice.injEq] at h
      obtain ⟨rfl, _, rfl⟩ := h
      exact ⟨b, off, rfl, qN⟩
    have Pm : Hid (Rd .u8 wr (.slice (some ⟨gA, oA + D5, none⟩) (512 * k - D5) (c - D5)) rest) := by
     have h9 := Rd.part Im D5 (512 * k - D5) (n := 512 * k - D5) (c := c - D5) (by rw [nB]; omega) rfl (by omega) (by unfold maxLen; omega)
     rw [List.take_of_length_le (by rw [List.length_drop, nB]; exact Nat.le_refl _)] at h9
     have e1 : str.drop D5 = rest := by
      have OT := pU.out
      rw [Bo, HT.out, List.drop_drop]
      congr 1
      omega
     rw [e1] at h9
     exact h9
    have QU : ¬ c = D5 := by omega
    have QT : ((D5 : Nat) : Int) ≤ (c : Int) := by omega
    have Qq : ((D5 : Nat) : Int) ≤ ((512 * k : Nat) : Int) := by omega
    have PI : (0 : Int) ≤ ((D5 : Nat) : Int) := by omega
    have Al : IntKind.i64.wrap ((D5 : Nat) : Int) = ((D5 : Nat) : Int) := by rw [IntKind.wrap_i64]; omega
    have kD := fun wx (hk : Same wr wx) => jbB _ rest lsn least m wx uP.out ⟨by omega, by omega⟩ (by omega) (Pm.out.same hk)
    have Ob : D5 ≤ c := by omega
    clear JN Im cN Bo NF
    go_upto_region 14 with fail
    go_cut [16] (fun v wx => Hid (FRs wr wx (RP rest lsn least m) v))
    case first =>
     refine Q9 (fun wx : World => wx.cell? ⟨wq.heap.size, 1, none⟩ = some (.int .i64 lsn)) 12 13 rfl (by kernel_rfl) ?_
     generalize hwd : World.drew wr = w6
     have fN : Same wr w6 := by rw [← hwd]; exact kZ0.drew
     have KA : w6.heap.size ≤ wr.heap.size := by rw [← hwd]; exact Nat.le_refl _
     have M3 := fN.size
     clear hwd
     have hS : (fun wx : World => wx.cell? ⟨wq.heap.size, 1, none⟩ = some (.int .i64 lsn)) w6 := fN.cellOf s1 id
     refine tk 0 72 hS ?_
     refine tk 1 73 hS ?_
     refine tk 2 74 hS ?_
     refine tk 3 75 hS ?_
     refine tkV 4 76 (.int .i64 (D5 : Int)) hS ?_
     refine tkV 5 77 (.slice (some ⟨gA, oA + D5, none⟩) (512 * k - D5) (c - D5)) hS ?_
     refine tk 6 78 hS ?_
     refine tk 7 79 hS ?_
     refine tk 8 80 hS ?_
     refine tk 9 81 hS ?_
     refine jbN (i := 10) (j := 11) (by kernel_rfl) rfl rfl (fun K hK => ?_) (fun K hK => ?_)
     ·go_simp
      refine (kD _ fN).mono ?_
      rintro e w7 ⟨y, rfl, jJ, ml, kI, gq⟩
      have hS : (fun wx : World => wx.cell? ⟨wq.heap.size, 1, none⟩ = some (.int .i64 lsn)) w7 := gq.cellOf hS id
      rw [StFrameResult.val_cls]
      go_wp2_with fail
      refine hK.out _ _ (fun _ => hS) ?_
      clear hK K
      try simp only [Act.put, sA, s0, sS]
      refine o1Q 11 (fun K hK => ?_)
      go_simp
      have ju := hid (Blk.new w7 #[.int .i64 0, .int .i64 0, .int .i64 0, .int .i64 0, .int .i64 0, .int .i64 0, .int .i64 0, .int .i64 0, .bool false, .slice none 0 0, .bool false, .slice none 0 0, .int .i64 0, .int .i64 0, .slice none 0 0, .slice none 0 0, .slice none 0 0] 52)
      have gp : Same w7 (w7.alloc (.cells #[.int .i64 0, .int .i64 0, .int .i64 0, .int .i64 0, .int .i64 0, .int .i64 0, .int .i64 0, .int .i64 0, .bool false, .slice none 0 0, .bool false, .slice none 0 0, .int .i64 0, .int .i64 0, .slice none 0 0, .slice none 0 0, .slice none 0 0] 52)) := kZ0.alloc _
      generalize w7.alloc (.cells #[.int .i64 0, .int .i64 0, .int .i64 0, .int .i64 0, .int .i64 0, .int .i64 0, .int .i64 0, .int .i64 0, .bool false, .slice none 0 0, .bool false, .slice none 0 0, .int .i64 0, .int .i64 0, .slice none 0 0, .slice none 0 0, .slice none 0 0] 52) = w8 at ju gp ⊢
      have hS : (fun wx : World => wx.cell? ⟨wq.heap.size, 1, none⟩ = some (.int .i64 lsn)) w8 := gp.cellOf hS id
      refine hK.out _ _ (fun _ => hS) ?_
      clear hK K
      try simp only [Act.put, sA, s0, sS]
      have LS : wr.heap.size ≤ w7.heap.size := by have := gq.size; omega
      have HZ := (show Hid (FRs wr (w8.setCells w7.heap.size 0 y.cls) (RP rest lsn least m) (.pointer (some ⟨w7.heap.size, 0, none⟩))) from FRs.laid jJ LS ju.out rfl (fun b hb => by have h1 := ml b hb; have h2 := kI.lt b hb; omega) (kI.same gp) ((fN.trans gq).trans gp))
      have pZ := hid (ju.out.there 0 y.cls.toArray.size (Nat.le_refl 17))
      clear jJ ml kI gq gp ju
      refine o1Q 12 (fun K hK => ?_)
      refine VL (by rfl) 52 (.tmp 16) (.tmp 82) (by rfl) w7.heap.size 0 y.cls.toArray (by rfl) (by rfl) pZ.out jav y.cls_one ?_
      refine hK.out _ _ (fun h => absurd rfl h) ?_
      clear hK K
      refine Q8 (by kernel_rfl) ?_
      try simp only [Act.put, sA, s0, sS]
      clear hS pZ
      generalize World.setCells w8 w7.heap.size 0 _ = w9 at HZ ⊢
      go_wp2_with fail
      go_meet
      case rel => exact HZ
     ·go_simp
      have ju := hid (Blk.new w6 #[.int .i64 0, .int .i64 0, .int .i64 0, .int .i64 0, .int .i64 0, .int .i64 0, .int .i64 0, .int .i64 0, .bool false, .slice none 0 0, .bool false, .slice none 0 0, .int .i64 0, .int .i64 0, .slice none 0 0, .slice none 0 0, .slice none 0 0] 52)
      have gp : Same w6 (w6.alloc (.cells #[.int .i64 0, .int .i64 0, .int .i64 0, .int .i64 0, .int .i64 0, .int .i64 0, .int .i64 0, .int .i64 0, .bool false, .slice none 0 0, .bool false, .slice none 0 0, .int .i64 0, .int .i64 0, .slice none 0 0, .slice none 0 0, .slice none 0 0] 52)) := kZ0.alloc _
      have Oi : (w6.alloc (.cells #[.int .i64 0, .int .i64 0, .int .i64 0, .int .i64 0, .int .i64 0, .int .i64 0, .int .i64 0, .int .i64 0, .bool false, .slice none 0 0, .bool false, .slice none 0 0, .int .i64 0, .int .i64 0, .slice none 0 0, .slice none 0 0, .slice none 0 0] 52)).heap.size = w6.heap.size + 1 := by simp
      generalize w6.alloc (.cells #[.int .i64 0, .int .i64 0, .int .i64 0, .int .i64 0, .int .i64 0, .int .i64 0, .int .i64 0, .int .i64 0, .bool false, .slice none 0 0, .bool false, .slice none 0 0, .int .i64 0, .int .i64 0, .slice none 0 0, .slice none 0 0, .slice none 0 0] 52) = w7 at ju gp Oi ⊢
      have hS : (fun wx : World => wx.cell? ⟨wq.heap.size, 1, none⟩ = some (.int .i64 lsn)) w7 := gp.cellOf hS id
      refine hK.out _ _ (fun _ => hS) ?_
      clear hK K
      try simp only [Act.put, sA, s0, sS]
      refine o1Q 10 (fun K hK => ?_)
      go_simp
      refine (kD _ (fN.trans gp)).mono ?_
      rintro e w8 ⟨y, rfl, jJ, ml, kI, fm⟩
      have hS : (fun wx : World => wx.cell? ⟨wq.heap.size, 1, none⟩ = some (.int .i64 lsn)) w8 := fm.cellOf hS id
      have eG := hid (ju.out.same fm)
      rw [StFrameResult.val_cls]
      go_wp2_with fail
      refine hK.out _ _ (fun _ => hS) ?_
      clear hK K
      try simp only [Act.put, sA, s0, sS]
      have HZ := (show Hid (FRs wr (w8.setCells w6.heap.size 0 y.cls) (RP rest lsn least m) (.pointer (some ⟨w6.heap.size, 0, none⟩))) from FRs.laid jJ (by omega) eG.out rfl (fun b hb => by have h1 := ml b hb; omega) kI ((fN.trans gp).trans fm))
      have pZ := hid (eG.out.there 0 y.cls.toArray.size (Nat.le_refl 17))
      clear jJ ml kI fm gp ju eG
      refine o1Q 12 (fun K hK => ?_)
      refine VL (by rfl) 52 (.tmp 16) (.tmp 82) (by rfl) w6.heap.size 0 y.cls.toArray (by rfl) (by rfl) pZ.out jav y.cls_one ?_
      refine hK.out _ _ (fun h => absurd rfl h) ?_
      clear hK K
      refine Q8 (by kernel_rfl) ?_
      try simp only [Act.put, sA, s0, sS]
      clear hS pZ
      generalize World.setCells w8 w6.heap.size 0 _ = w9 at HZ ⊢
      go_wp2_with fail
      go_meet
      case rel => exact HZ
    case rest =>
     obtain ⟨Z, y, rfl, jJ, hZ, mV, ml, kI, oE⟩ := hcut.out
     clear hcut kD
     have oN : y.code = (RP rest lsn least m).1 := congrArg (fun x => x.1) jJ
     have Br := oE.size
     have GI := hid (wn.out.same oE)
     have A0 := hid (wE.out.next oE (fun i hi e => e.elim))
     have i6 := wn.out.lt
     clear s0 s1 fs
     obtain ⟨s0, s1⟩ := GI.out.all2
     have fs := GI.out.frozen
     by_cases hcz : y.code = 0
     case neg =>
      have g0 : wc.cell? ⟨Z, 0, none⟩ = some (.int .i64 y.code) := mV.cell 0
      have hz := (A4.out.kept wE.out (by omega)).same oE
      obtain ⟨z0, z1⟩ := hz.all2
      have fz := hz.frozen
      have lz := hz.lt
      have OE : Hid ((RP rest lsn least m).1 ≠ 0) := by unfold Hid; rw [← oN]; exact hcz
      have xN := hid (HO.out.same oE)
      clear hz jJ oN mV ml kI oE
      generalize y.code = yc at *
      have I5 : (yc != 0) = true := by simp [hcz]
      go_wp2
      refine bodyPost_ret (v := .agg #[.slice fa fn fc, .int .i64 lsn]) (by simp [results, Tryz.results5, go_sem, z0, z1]) rfl ⟨_, qs, lsn, rfl, .inr ⟨gw.out, n, ⟨rest, lsn, least, frs⟩, by rw [K0.out]; exact kp.out, OE.out, HQ.out, rfl⟩, fun b hb => ?_, ?_, ?_⟩
      ·have := HF.out b hb; omega
      ·refine xN.out.kept (R := fun b => b = w.heap.size + 1) ?_ (fun b hb e => by have := HF.out b hb; omega)
       exact Kept.setTwo (R := fun b => b = w.heap.size + 1) kZ0 (.inr rfl) _ _
      ·iterate 2 refine Kept.setCell ?_ (.inl (by simp only []; omega)) _
       exact dp.out.next A0.out (fun i hi e => by omega)
     have qL : (RP rest lsn least m).1 = 0 := by rw [← oN]; exact hcz
     have Am := hid (RchN.snoc kp.out (show (ScS.dec m ⟨rest, lsn, least, frs⟩).1 = 0 from qL))
     have AU := hid (gu.out.next (m := m) (show (ScS.dec m ⟨rest, lsn, least, frs⟩).1 = 0 from qL))
     obtain ⟨sz, gE, Ev, _, qH⟩ := VR qL
     have oT : y.fsz = (sz : Int) := (congrArg (fun x => x.2.1) jJ).trans gE
     have pQ : y.epoch = (RP rest lsn least m).2.2.1 := congrArg (fun x => x.2.2.1) jJ
     have zT : y.record.dat = (RP rest lsn least m).2.2.2 := congrArg (fun x => x.2.2.2) jJ
     have zY : ScS.next m ⟨rest, lsn, least, frs⟩ = ⟨rest.drop sz, lsn + (sz : Int), y.epoch, frs ++ [(lsn, y.epoch, y.record.dat)]⟩ := by
      unfold ScS.next ScS.dec
      dsimp only
      rw [gE, pQ, zT]
      rfl
     rw [zY] at Am AU
     clear zY oN pQ zT gE qL jJ kp gu
     obtain ⟨code, fsz, ep, ⟨kind, txn, prev, page, slot, ⟨bU, ⟨bE, bA, bC, bB⟩⟩, ⟨aU, ⟨aE, aA, aC, aB⟩⟩, uN, nT, ⟨tE, tA, tN, tC, tB⟩, ⟨dE, dA, dN, dC, dB⟩, ⟨iE, iA, iC, iB⟩⟩⟩ := y
     dsimp only at hcz oT
     subst hcz oT
     dsimp only [StFrameResult.cls, BS.v, FR.v] at mV
     obtain ⟨p, pd, Ds, Cf, zS⟩ : ∃ p : StLogFrame, Hid (p.cells = [.int .i64 lsn, .int .i64 ep, .int .i64 kind, .int .i64 txn, .int .i64 prev, .int .i64 page, .int .i64 slot, .bool bU, .slice bA bB.length bC, .bool aU, .slice aA aB.length aC, .int .i64 uN, .int .i64 nT, .slice tA tN tC, .slice dA dN dC, .slice iA iB.length iC]) ∧ Hid (p.dat = (lsn, ep, StLogRecord.dat ⟨kind, txn, prev, page, slot, ⟨bU, ⟨bE, bA, bC, bB⟩⟩, ⟨aU, ⟨aE, aA, aC, aB⟩⟩, uN, nT, ⟨tE, tA, tN, tC, tB⟩, ⟨dE, dA, dN, dC, dB⟩, ⟨iE, iA, iC, iB⟩⟩)) ∧ Hid (OwnL wc p.rows) ∧ Hid (∀ b, Rf p.rows b → wr.heap.size ≤ b ∧ ¬ b = Z) := ⟨(StFrameResult.fr ⟨0, (sz : Int), ep, ⟨kind, txn, prev, page, slot, ⟨bU, ⟨bE, bA, bC, bB⟩⟩, ⟨aU, ⟨aE, aA, aC, aB⟩⟩, uN, nT, ⟨tE, tA, tN, tC, tB⟩, ⟨dE, dA, dN, dC, dB⟩, ⟨iE, iA, iC, iB⟩⟩⟩ lsn), rfl, rfl, kI, ml⟩
     have qt := hid mV
     obtain ⟨g0, g1, g2, g3, g4, g5, g6, g7, g8, g9, F2, C4, DY, E8, E9, Fs, Dn⟩ := mV.all17
     have lz := mV.lt
     have xN := hid (HO.out.same oE)
     have As : qs.length ≤ 20000 := by have := gg.out; omega
     have Gh : ¬ (Value.slice fa fn fc).ownBlock = some wq.heap.size := fun e => by have := HF.out _ (.inl e); omega
     have EO : ¬ (Value.slice fa fn fc).ownBlock = some Z := fun e => by have := (HO.out.lt _ (.inl e)); omega
     have Ef := (show Hid (∀ b, Rf p.rows b → ¬ Sm (.slice fa fn fc) qs b) from fun b hb hf => by have h1 := (zS.out b hb).1; have h2 := HO.out.lt b hf; omega)
     clear kI ml mV
     go_upto_region 17 with (at_builtin; go_loud (refine Xb (p := p) rfl (.tmp 87) (.tmp 95) rfl rfl rfl (by rw [pd.out]; exact Blk.newL wc [.int .i64 lsn, .int .i64 ep, .int .i64 kind, .int .i64 txn, .int .i64 prev, .int .i64 page, .int .i64 slot, .bool bU, .slice bA bB.length bC, .bool aU, .slice aA aB.length aC, .int .i64 uN, .int .i64 nT, .slice tA tN tC, .slice dA dN dC, .slice iA iB.length iC] 55) (xN.out.same (kZ0.alloc _)) (Cf.out.same (kZ0.alloc _)) Ef.out As ?_); intro gF cF w6 Ag fN yJ; have mY := hid ((GI.out.alloc _).kept fN Gh); have yq := hid ((qt.out.alloc _).kept fN EO); have iK := hid Ag; have eh := hid ((A0.out.alloc _).next fN (fun i hi e => absurd (HF.out i (.inl e)) (by omega))); have pV := (show Hid (∀ b, Sm (.slice (some ⟨gF, 0, none⟩) (fn + 1) cF) (qs ++ [p]) b → w5.heap.size ≤ b) from fun b hb => by rcases yJ b hb with h | h | h; { exact HF.out b h }; { have := (zS.out b h).1; omega }; { rw [World.size_alloc] at h; omega }); have z0 := mY.out.cell 0; have F9 := mY.out.frozen; have Fz := mY.out.lt; clear Ag fN yJ)
     have gq : Kept (fun b => b = wq.heap.size) w6 (w6.setCell ⟨wq.heap.size, 0, none⟩ (.slice (some ⟨gF, 0, none⟩) (fn + 1) cF)) := Kept.setCell (R := fun b => b = wq.heap.size) kZ0 (p := ⟨wq.heap.size, 0, none⟩) (.inr rfl) _
     have nf := hid (mY.out.stored 0 (.slice (some ⟨gF, 0, none⟩) (fn + 1) cF))
     have BN := hid (yq.out.kept gq (fun e => by have e' : Z = wq.heap.size := e; omega))
     have sg := hid (iK.out.kept gq (fun b hb e => by have e' : b = wq.heap.size := e; have := pV.out b hb; omega))
     have gx := hid (eh.out.trans gq)
     generalize w6.setCell ⟨wq.heap.size, 0, none⟩ (.slice (some ⟨gF, 0, none⟩) (fn + 1) cF) = w7 at nf BN sg gx ⊢
     clear gq z0 F9 Fz g0 g1 g2 g3 g4 g5 g6 g7 g8 g9 F2 C4 DY E8 E9 Fs Dn s0 s1 fs mY yq iK eh
     obtain ⟨s0, s1⟩ := (show Blk w7 wq.heap.size 29 [.slice (some ⟨gF, 0, none⟩) (fn + 1) cF, .int .i64 lsn] from nf.out).all2
     have fs := nf.out.frozen
     have g1 : w7.cell? ⟨Z, 1, none⟩ = some (.int .i64 (sz : Int)) := BN.out.cell 1
     go_upto_region 18 with fail
     have fm : Kept (fun b => b = wq.heap.size) w7 (w7.setCell ⟨wq.heap.size, 1, none⟩ (.int .i64 (lsn + (sz : Int)))) := Kept.setCell (R := fun b => b = wq.heap.size) kZ0 (p := ⟨wq.heap.size, 1, none⟩) (.inr rfl) _
     have dQ := (show Hid (Blk (w7.setCell ⟨wq.heap.size, 1, none⟩ (.int .i64 (lsn + (sz : Int)))) wq.heap.size 29 [.slice (some ⟨gF, 0, none⟩) (fn + 1) cF, .int .i64 (lsn + (sz : Int))]) from nf.out.stored 1 _)
     have vU := hid (BN.out.kept fm (fun e => by have e' : Z = wq.heap.size := e; omega))
     have j9 := hid (sg.out.kept fm (fun b hb e => by have e' : b = wq.heap.size := e; have := pV.out b hb; omega))
     have pr := hid (gx.out.trans fm)
     generalize w7.setCell ⟨wq.heap.size, 1, none⟩ (.int .i64 (lsn + (sz : Int))) = w9 at dQ vU j9 pr ⊢
     clear fm s0 s1 fs g1 nf BN sg gx
     have g2 : w9.cell? ⟨Z, 2, none⟩ = some (.int .i64 ep) := vU.out.cell 2
     go_wp2
     go_roundw
     case rel =>
      refine ⟨n + 1, _, some ⟨gF, 0, none⟩, fn + 1, cF, _, rfl, Am, AU, ?_, dQ, j9, pV, pr⟩
      show Sv (qs ++ [p]) = _
      unfold Sv
      rw [List.map_append]
      rw [show qs.map StLogFrame.dat = frs from HQ.out, List.map_singleton, Ds.out]
     case measure =>
      have m0 := wn.out.cell 1
      have m1 := dQ.out.cell 1
      rw [m0, m1]
      show (2199023255552 - (lsn + (sz : Int))).toNat < (2199023255552 - lsn).toNat
      omega
end Go.Proofs.YtaojjcnmififoaaGreat
