import Derived.Test.YtaojjcnmififoaaGreatFrI
import Derived.Test.YtaojjcnmififoaaGreatG35
import Derived.Test.YtaojjcnmififoaaGreatG40
import Derived.WalkMore
namespace Go.Proofs.YtaojjcnmififoaaGreat
set_option maxRecDepth 100000
set_option maxHeartbeats 8000000
set_option linter.unusedVariables false
set_option linter.unusedSimpArgs false
open Go Go.RowKit
def InvS (w5 : World) (b1 b2 b3 : Nat) (dur : List Int) (ds : List (Int × List Int)) (s fr m : Int) (M : Nat) (pre : List (Fin M)) (W : World) : Prop :=
 ∃ (n : Nat) (t : ScS) (ua : Option Addr) (uc : Nat) (fa : Option Addr) (fn fc : Nat) (qs : List StLogFrame), RchN m n ⟨Ux dur ds s fr (pre.map Fin.val), fr, 1, []⟩ t ∧ ScOk (Ux dur ds s fr (pre.map Fin.val)) fr t ∧ (t.dec m).1 = 1 ∧ Sv qs = t.frs ∧ ScM w5 b1 b2 b3 t.rest t.lsn t.least ua uc fa fn fc qs W
def InvX (w5 : World) (b1 b2 b3 : Nat) (dur : List Int) (ds : List (Int × List Int)) (s fr m : Int) (M : Nat) (c : Code) (pre : List (Fin M)) (W : World) : Prop :=
 c = Code.exit 0 ∧ ∃ (n : Nat) (t : ScS) (ua : Option Addr) (uc : Nat) (fa : Option Addr) (fn fc : Nat) (qs : List StLogFrame), RchN m n ⟨Ux dur ds s fr (pre.map Fin.val), fr, 1, []⟩ t ∧ (t.dec m).1 ≠ 0 ∧ (t.dec m).1 ≠ 1 ∧ Sv qs = t.frs ∧ ScM w5 b1 b2 b3 t.rest t.lsn t.least ua uc fa fn fc qs W
theorem InvS.own (w5 : World) (b1 b2 b3 : Nat) (dur : List Int) (ds : List (Int × List Int)) (s fr m : Int) (M : Nat) : OwnFrom w5.heap.size (InvS w5 b1 b2 b3 dur ds s fr m M) := by
 rintro pre W W' row ⟨n, t, ua, uc, fa, fn, fc, qs, h1, h2, h3, h4, h5⟩ hg hr
 exact ⟨n, t, ua, uc, fa, fn, fc, qs, h1, h2, h3, h4, h5.turn (ZT hg hr)⟩
theorem InvX.own (w5 : World) (b1 b2 b3 : Nat) (dur : List Int) (ds : List (Int × List Int)) (s fr m : Int) (M : Nat) (c : Code) : OwnFrom w5.heap.size (InvX w5 b1 b2 b3 dur ds s fr m M c) := by
 rintro pre W W' row ⟨hc, n, t, ua, uc, fa, fn, fc, qs, h1, h2, h3, h4, h5⟩ hg hr
 exact ⟨hc, n, t, ua, uc, fa, fn, fc, qs, h1, h2, h3, h4, h5.turn (ZT hg hr)⟩
theorem jcy {dur : List Int} {ds : List (Int × List Int)} {s fr m : Int} (h : ¬ Tm dur.length ds s fr) : ScanA dur ds s fr m (Sv []) 0 := .inl ⟨h, rfl, rfl⟩
theorem WU (dv pv : Value) (dur : List Int) (ps : List PW) (s fr m : Int) (w : World) (hB : IsB dur) (ym : ∀ p ∈ ps, IsB p.bs) (hd : dur.length ≤ 1099511627776) (hv : RdD w dv pv dur ps) :
  Calls Tryz.prog 7 #[.agg #[dv, pv], .int .i64 s, .int .i64 fr, .int .i64 m] w fun e w' => ∃ v qs en, e = .returned (.agg #[v, .int .i64 en]) ∧ ScanA dur (Rh ps) s fr m (Sv qs) en ∧ (∀ b, Sm v qs b → w.heap.size ≤ b) ∧ OwnFr w' v qs ∧ Same w w' := by
 obtain ⟨a1, c1, rfl⟩ := hv.dur.form
 obtain ⟨a2, c2, rfl⟩ := hv.pend.form
 have HV := hid hv
 have mg : ∀ p ∈ Rh ps, IsB p.2 := fun p hp => by
  obtain ⟨q, hq, rfl⟩ := List.mem_map.1 hp
  exact ym q hq
 have LC := (show Hid (∀ k, IsB (Xr dur (Rh ps) s fr k)) from fun k => jd1 hB mg k)
 clear hv ym hB mg
 obtain ⟨x0, x1, x2, x3, du, eL⟩ := jgP w [.slice a1 dur.length c1, .slice a2 ps.length c2] [.int .i64 fr] [.int .i64 m] [.slice none 0 0, .int .i64 0] 33 2 2 29
 have hP := fun wx => Wd s fr wx
 have kH := fun wx (hk : Same w wx) => jaq _ _ dur ps s wx (HV.out.same hk)
 by_cases hh : (16 ≤ s ∧ s ≤ 800) ∧ Room dur.length (Rh ps) s
 case neg =>
  have kH := fun wx hk => YI hh (kH wx hk)
  have HN : Hid (¬ Tm dur.length (Rh ps) s fr) := fun h => hh ⟨h.1.1, h.2⟩
  clear hh hP
  go_enter Tryz.func7, Tryz.ntmps7
  have eo := hid x3
  have aJ := hid du
  clear x0 x1 x2 x3 du eL
  go_wp2
  go_step3
  go_wp2_with fail
  refine (kH _ aJ.out).mono ?_
  rintro e w1 ⟨rfl, hk⟩
  have aM := hid (aJ.out.trans hk)
  have ik := hid (eo.out.same hk)
  obtain ⟨z0, z1⟩ := ik.out.all2
  have fz := ik.out.frozen
  have lz := ik.out.lt
  clear hk kH
  go_wp2
  rw [Exit.noGoto_ret]
  refine bodyPost_ret (v := .agg #[.slice none 0 0, .int .i64 0]) (by simp [results, Tryz.results7, go_sem, z0, z1]) rfl ⟨_, [], 0, rfl, jcy HN.out, fun b hb => absurd hb (TT b), OwnFr.nil _, ?_⟩
  ·iterate 2 refine Kept.setCell ?_ (.inl (by simp only []; omega)) _
   exact aM.out
 have kH := fun wx hk => ZU hh (kH wx hk)
 by_cases hp : 512 ≤ fr ∧ fr ≤ 1099511627776
 case neg =>
  rw [TW (fun h => hp h.2)] at hP
  have HN : Hid (¬ Tm dur.length (Rh ps) s fr) := fun h => hp h.1.2
  clear hh hp
  go_enter Tryz.func7, Tryz.ntmps7
  have eo := hid x3
  have aJ := hid du
  have qv := hid x1
  clear x0 x1 x2 x3 du eL
  go_wp2
  go_step3
  go_wp2_with fail
  refine (kH _ aJ.out).mono ?_
  rintro e w1 ⟨rfl, hk⟩
  have aM := hid (aJ.out.trans hk)
  have ik := hid (eo.out.same hk)
  have f0 := (qv.out.same hk).c0
  clear hk kH
  go_wp2_with fail
  refine (hP _).mono ?_
  rintro e w2 ⟨rfl, hk⟩
  have aY := hid (aM.out.trans hk)
  have mI := hid (ik.out.same hk)
  obtain ⟨z0, z1⟩ := mI.out.all2
  have fz := mI.out.frozen
  have lz := mI.out.lt
  clear hk
  go_wp2
  rw [Exit.noGoto_ret]
  refine bodyPost_ret (v := .agg #[.slice none 0 0, .int .i64 0]) (by simp [results, Tryz.results7, go_sem, z0, z1]) rfl ⟨_, [], 0, rfl, jcy HN.out, fun b hb => absurd hb (TT b), OwnFr.nil _, ?_⟩
  ·iterate 2 refine Kept.setCell ?_ (.inl (by simp only []; omega)) _
   exact aY.out
 have gw := (show Hid (Tm dur.length (Rh ps) s fr) from ⟨⟨hh.1, hp⟩, hh.2⟩)
 have tQ := Tz (s := s) (l := fr) ⟨hh.1, hp⟩
 obtain ⟨pl, nE⟩ : ∃ pl, Sw s fr = pl := ⟨_, rfl⟩
 rw [nE] at hP tQ
 have pS : ¬ pl < 0 := by omega
 have kS := fun wx (hk : Same w wx) => jd3 _ _ dur ps wx hh.2.1 (HV.out.same hk)
 obtain ⟨M, hM⟩ : ∃ M, scM s fr = M := ⟨_, rfl⟩
 obtain ⟨bg, oy⟩ : ∃ z, fr - fr % 512 = z := ⟨_, rfl⟩
 have Dj : 0 ≤ bg := by omega
 have LZ : 512 ≤ bg := by have := hp.1; omega
 have CQ : bg ≤ fr := by omega
 have Gk : fr < bg + 512 := by omega
 have lv : s ≤ 800 := hh.1.2
 have nu : 16 ≤ s := hh.1.1
 have Lp : 512 ≤ fr := hp.1
 have gK : fr ≤ 1099511627776 := hp.2
 have bH := hh.2.2
 obtain ⟨st, kc⟩ : ∃ z, min (bg + s * 512) (1099511627776 : Int) = z := ⟨_, rfl⟩
 have Ch : st ≤ 1099511627776 := by omega
 have ME : bg ≤ st := by omega
 have Kz : ∀ k : Nat, k < M → bg + 512 * (k : Int) < st := fun k hk => by rw [← hM] at hk; unfold scM at hk; rw [oy] at hk; omega
 have Oe : st ≤ bg + 512 * (M : Int) := by rw [← hM]; unfold scM; rw [oy]; omega
 have Ql : M ≤ 800 := by rw [← hM]; unfold scM; rw [oy]; omega
 have HM := hid hM
 have pU := hid oy
 have ko := hid kc
 have kB := fun wx => Vs fr wx (by omega) gK
 rw [oy] at kB
 clear hh hp hM nE tQ kc oy
 refine callsIn_wide.1 (callsIn_of_wp_marks (F := Fence.wide) (n := 3) Tryz.func7 rfl trivial (wpIn_wide.2 ?_) rfl)
 simp only [Tryz.ntmps7, List.size_toArray, List.length_cons, List.length_nil, Nat.reduceAdd, Nat.reduceSub, Array.replicate_succ, Array.replicate_zero, List.push_toArray, List.append_toArray, List.nil_append, List.cons_append]
 have eo := hid x3
 have aJ := hid du
 have qv := hid x1
 have KT := hid x2
 have xM := hid x0
 obtain ⟨w0, DT⟩ : ∃ z, ((((w.alloc (.cells #[.slice a1 dur.length c1, .slice a2 ps.length c2] 33)).alloc (.cells #[.int .i64 fr] 2)).alloc (.cells #[.int .i64 m] 2)).alloc (.cells #[.slice none 0 0, .int .i64 0] 29)) = z := ⟨_, rfl⟩
 rw [DT] at eo aJ qv KT xM eL
 have wh := hid DT
 have Lb : w.heap.size + 1 + 1 + 1 < w0.heap.size := by omega
 clear x0 x1 x2 x3 du eL DT
 go_wp2
 go_step3
 go_wp2_with fail
 rw [wh.out]
 refine (kH _ aJ.out).mono ?_
 rintro e w1 ⟨rfl, hk⟩
 have aM := hid (aJ.out.trans hk)
 have Kf := hid hk
 clear wh
 have f0 := (qv.out.same hk).c0
 clear hk kH
 go_wp2_with fail
 refine (hP _).mono ?_
 rintro e w2 ⟨rfl, hk⟩
 have aY := hid (aM.out.trans hk)
 have Fq := hid (Kf.out.trans hk)
 obtain ⟨d0, d1⟩ := (xM.out.same Fq.out).all2
 clear hk hP f0 aM Kf
 go_wp2_with fail
 refine (kS _ aY.out).mono ?_
 rintro e w3 ⟨v3, rfl, G, us, rfl, wV, hG, Gf, KO, hk⟩
 have dt := hid (aY.out.trans hk)
 have wP := hid (Fq.out.trans hk)
 have qQ := hid wV
 have Kn := hid Gf
 have vQ := (show Hid (∀ i (h : i < us.length), Rd .u8 w3 us[i] (Uz (i : Int) dur (Rh ps))) from fun i h => (KO i h).same hk)
 have tT := wP.out.size
 have Q0 := Gf.lt
 have f0 := (qv.out.same wP.out).c0
 have l6 : w.heap.size + 1 < w3.heap.size := by omega
 clear hk kS wV Gf KO d0 d1 Fq aY
 have eG := hid (Blk.newL w3 [.slice (some ⟨G, 0, none⟩) us.length us.length] 58)
 have H4 := (show Hid (Same w3 (w3.alloc (.cells #[.slice (some ⟨G, 0, none⟩) us.length us.length] 58))) from kZ0.alloc _)
 go_upto_region 4 with fail
 generalize w3.alloc (.cells #[.slice (some ⟨G, 0, none⟩) us.length us.length] 58) = w4 at eG H4 ⊢
 have Jr := eG.out.lt
 clear f0
 have f0 := (qv.out.same (wP.out.trans H4.out)).c0
 go_cut [10] from 30 to 36 (fun v wx => v = .int .i64 st ∧ Hid (Same w4 wx))
 case first =>
  go_wp2_with fail
  refine (kB _).mono ?_
  rintro e w5 ⟨rfl, hk⟩
  have dp := hid hk
  clear hk
  by_cases hmn : bg + s * 512 ≤ 1099511627776
  ·go_wp2
   go_meet
   case rel => exact ⟨by rw [show st = bg + s * 512 from by have := ko.out; omega], dp⟩
  ·go_wp2
   go_meet
   case rel => exact ⟨by rw [show st = 1099511627776 from by have := ko.out; omega], dp⟩
 case rest =>
  obtain ⟨rfl, lJ⟩ := hcut
  clear kB f0
  have f0 := (qv.out.same ((wP.out.trans H4.out).trans lJ.out)).c0
  have Br := lJ.out.size
  obtain ⟨y1, y2, y3, eA⟩ := jgO wc [.slice none 0 0, .int .i64 fr] [.int .i64 1] [.slice none 0 0] 29 2 22
  go_wp2
  generalize (((wc.alloc (.cells #[.slice none 0 0, .int .i64 fr] 29)).alloc (.cells #[.int .i64 1] 2)).alloc (.cells #[.slice none 0 0] 22)) = w5 at y1 y2 y3 eA ⊢
  clear f0
  have f0 := (qv.out.same (((wP.out.trans H4.out).trans lJ.out).trans eA)).c0
  have ET := hid ((H4.out.trans lJ.out).trans eA)
  have zb := hid ((eG.out.same lJ.out).same eA)
  have Ld := y3.lt
  go_step3
  go_wp2_with fail
  refine (jbm s fr st _).mono ?_
  rintro e w6 ⟨rfl, gi, wm, KS, KA, fN⟩
  have Bm := hid gi
  have rb := hid wm
  have Fj := hid KS
  have n0 := hid ((wP.out.trans ET.out).trans fN)
  have KG := hid (ET.out.trans fN)
  have DX := hid (zb.out.same fN)
  have Nl := hid (y1.same fN)
  have Oh := hid (y2.same fN)
  have MX := hid (y3.same fN)
  have Ox := hid (Kn.out.same KG.out)
  have MI : w5.heap.size + 1 + 1 + 1 ≤ w6.heap.size := by omega
  have O7 : w3.heap.size < wc.heap.size := by omega
  clear gi wm KS fN y1 y2 y3 eA KA f0 zb ET Kn eG lJ H4
  go_wp2_with fail
  refine (wpIn_wide (n := 3)).1 ?_
  refine wpIn_rangeFunc_ownG (F := Fence.wide) (n := 3) rfl (by decide) (gf := 46) (lb := #[.pointer (some ⟨w5.heap.size + 1, 0, none⟩), .pointer (some ⟨w5.heap.size + 1 + 1, 0, none⟩), .pointer (some ⟨w5.heap.size, 0, none⟩)]) rfl trivial (enters_of Tryz.func46 (by kernel_rfl) rfl)
   (YJ 2 w5.heap.size M s fr st bg w6 pU.out (by omega) Ch gK Kz Oe Bm.out rb.out Fj.out) KpB.t (KpB.put (by omega)) (Below.refl _ _) (fun _ => rfl)
   (InvS w6 wc.heap.size (wc.heap.size + 1) (wc.heap.size + 1 + 1) dur (Rh ps) s fr m M) (InvX w6 wc.heap.size (wc.heap.size + 1) (wc.heap.size + 1 + 1) dur (Rh ps) s fr m M) (InvS.own _ _ _ _ _ _ _ _ _ _) (InvX.own _ _ _ _ _ _ _ _ _ _)
   ⟨0, ⟨[], fr, 1, []⟩, none, 0, none, 0, 0, [], rfl, ScOk.start (fun x hx => by simp [Ux] at hx), jbf _ _ _, rfl, Nl.out, Oh.out, MX.out, Un.nil _ _, OwnFr.nil _, fun b hb => absurd hb (TT b), fun b hb => absurd hb (TT b), kZ0, by omega⟩
   (fun x => { tmps := #[.agg #[.slice a1 dur.length c1, .slice a2 ps.length c2], .int .i64 s, .int .i64 fr, .int .i64 m, .pointer (some ⟨w.heap.size, 0, none⟩), undef, .pointer (some ⟨w.heap.size + 1, 0, none⟩), .pointer (some ⟨w.heap.size + 1 + 1, 0, none⟩), .pointer (some ⟨w.heap.size + 1 + 1 + 1, 0, none⟩), .pointer (some ⟨w3.heap.size, 0, none⟩), .int .i64 st, .pointer (some ⟨wc.heap.size, 0, none⟩), .pointer (some ⟨wc.heap.size + 1, 0, none⟩), .pointer (some ⟨wc.heap.size + 1 + 1, 0, none⟩), .int .i64 (bg + 512 * (x.val : Int)), .int .i64 (Sw s (bg + 512 * (x.val : Int))), undef, .agg #[.slice a1 dur.length c1, .slice a2 ps.length c2], .int .i64 s, .bool true, .bool false, .bool false, .int .i64 s, .int .i64 fr, .int .i64 pl, .bool (decide (pl < 0)), .bool (decide (pl < 0)), undef, .agg #[.slice a1 dur.length c1, .slice a2 ps.length c2], .slice (some ⟨G, 0, none⟩) us.length us.length, u30, u31, u32, u33, u34, u35, .int .i64 fr, .agg #[.slice none 0 0, .int .i64 fr], .int .i64 s, .int .i64 fr, .int .i64 st, .func (.func 46) #[] #[.pointer (some ⟨w5.heap.size + 1, 0, none⟩), .pointer (some ⟨w5.heap.size + 1 + 1, 0, none⟩), .pointer (some ⟨w5.heap.size, 0, none⟩)], .int .i64 (bg + 512 * (x.val : Int)), .int .i64 (Sw s (bg + 512 * (x.val : Int))), undef, undef, undef, undef, undef, undef, undef, undef, undef, undef, undef, undef, undef, undef, undef, undef, undef, undef, undef, undef, undef, undef, undef, undef, undef, undef, undef, undef, undef, undef, undef, undef, undef, undef, undef, undef, undef, undef, undef, undef, undef, undef, undef, undef, undef, undef, undef, undef], defers := [] }) ?assign ?body ?done ?stop
  case assign =>
   intro l x W K hK
   dsimp only [secs]
   refine wpIn_seq (Si (RZ (RZ (fun ⟨_, _, h⟩ => h))) rfl ?_)
   go_wp2
   refine Si (RZ (fun ⟨_, _, h⟩ => h)) rfl ?_
   go_wp2
   exact hK
  case' stop =>
   rintro D c pre W hD hS ⟨rfl, n, t, ua, uc, fa, fn, fc, qs, vX, h0, h1, ka, gX⟩ hK
   have K5 : pre.length ≤ scM s fr := by
    rw [HM.out]
    have h9 : ∀ x ∈ pre.map Fin.val, x < M := fun x hx => by obtain ⟨q, _, rfl⟩ := List.mem_map.1 hx; exact q.2
    rw [show pre.map Fin.val = List.range pre.length from hS] at h9
    rcases Nat.eq_zero_or_pos pre.length with h | h
    ·omega
    ·have := h9 (pre.length - 1) (List.mem_range.2 (by omega)); omega
   have h1 : (t.dec m).1 ≠ 1 ∨ pre.length = scM s fr := .inl h1
   refine wpIn_exit ?_
  case' done =>
   rintro D pre W hD hS ⟨n, t, ua, uc, fa, fn, fc, qs, vX, mK, h1, ka, gX⟩ hK
   have EU : pre.length = M := by have h := congrArg List.length hS; rwa [List.length_map, List.length_range] at h
   have K5 : pre.length ≤ scM s fr := by rw [HM.out]; omega
   have h0 : (t.dec m).1 ≠ 0 := by rw [h1]; decide
   have h1 : (t.dec m).1 ≠ 1 ∨ pre.length = scM s fr := .inr (by rw [HM.out]; exact EU)
   have hS : pre.map Fin.val = List.range pre.length := by rw [EU]; exact hS
   clear EU
  case stop | done =>
   have Kh : pre.map Fin.val = List.range pre.length := hS
   rw [Kh] at vX
   have xp := (show Hid (ScanA dur (Rh ps) s fr m (Sv qs) t.lsn) from by rw [ka]; exact ScanA.stopped gw.out K5 vX h0 h1)
   have Cr := hid hK
   obtain ⟨q0, q1⟩ := gX.scan.all2
   have BO : Kept (fun b => b = wc.heap.size ∨ b = wc.heap.size + 1 ∨ b = wc.heap.size + 1 + 1) w6 W := gX.kept
   have zu := eo.out.same n0.out |>.kept BO (by omega)
   obtain ⟨z0, z1⟩ := zu.all2
   have fz := zu.frozen
   have lz := zu.lt
   have HO := hid gX.own
   have HF := hid gX.foot
   have J3 := hid BO
   have Au := hid zu
   have Ar := hid (aJ.out.trans n0.out)
   have Nx := aJ.out.size
   have Jf := n0.out.size
   have O6 := BO.size
   have Qe : D < W.heap.size := (Array.getElem?_eq_some_iff.1 hK).1
   clear vX h0 h1 ka gX BO zu hK hS Kh
   go_wp2
   rw [Exit.noGoto_ret]
   have BQ : Kept (fun b => b = w.heap.size + 1 + 1 + 1) W ((W.setCell ⟨w.heap.size + 1 + 1 + 1, 0, none⟩ (.slice fa fn fc)).setCell ⟨w.heap.size + 1 + 1 + 1, 1, none⟩ (.int .i64 t.lsn)) := Kept.setTwo (R := fun b => b = w.heap.size + 1 + 1 + 1) kZ0 (.inr rfl) _ _
   have Jp := (show Blk ((W.setCell ⟨w.heap.size + 1 + 1 + 1, 0, none⟩ (.slice fa fn fc)).setCell ⟨w.heap.size + 1 + 1 + 1, 1, none⟩ (.int .i64 t.lsn)) (w.heap.size + 1 + 1 + 1) 29 [.slice fa fn fc, .int .i64 t.lsn] from (Au.out.stored 0 _).stored 1 _)
   generalize (W.setCell ⟨w.heap.size + 1 + 1 + 1, 0, none⟩ (.slice fa fn fc)).setCell ⟨w.heap.size + 1 + 1 + 1, 1, none⟩ (.int .i64 t.lsn) = wz at BQ Jp ⊢
   have FH : wz.heap[D]? = some (Obj.deferred (some [])) := BQ.heap Cr.out (fun e => by have e' : D = w.heap.size + 1 + 1 + 1 := e; omega)
   have Gz : Kept (fun b => b = D) wz (wz.putObj D (.deferred none)) := Kept.of_grown (grownBy_putObj' _ D (.deferred none)) (fun r e => by cases e; rfl)
   obtain ⟨r0, r1⟩ := (Jp.kept Gz (by omega)).all2
   have MD : ∀ b, Sm (.slice fa fn fc) qs b → ¬ b = D := fun b hb e => by
    subst e
    rcases hb with hb | ⟨r, hr, hb⟩
    ·exact TQ (B := 0) HO.out.own.row hb ⟨Nat.zero_le _, _, Cr.out, rfl⟩
    ·exact TQ (B := 0) (HO.out.rows.own r hr) hb ⟨Nat.zero_le _, _, Cr.out, rfl⟩
   refine ⟨by simp, .inl ⟨_, _, rfl, run_takeDeferred FH, ?_⟩⟩
   refine ⟨.agg #[.slice fa fn fc, .int .i64 t.lsn], by simp [results, Tryz.results7, go_sem, r0, r1], _, qs, t.lsn, rfl, xp.out, fun b hb => ?_, ?_, ?_⟩
   ·have := HF.out b hb; omega
   ·exact (HO.out.kept BQ (fun b hb e => by have e' : b = w.heap.size + 1 + 1 + 1 := e; have := HF.out b hb; omega)).kept Gz (fun b hb e => MD b hb e)
   ·exact (((Ar.out.next J3.out (fun i hi e => by omega)).next BQ (fun i hi e => by omega)).next Gz (fun i hi e => by have e' : i = D := e; omega))
  case body =>
   rintro l pre x W ⟨n, t, ua, uc, fa, fn, fc, qs, vX, mK, Ei, ka, gX⟩ dR
   obtain ⟨k, pq⟩ := x
   dsimp only
   have kp := hid vX
   have gu := hid mK
   have jI := hid ka
   have jd := hid gX
   have pH := mK.cnt
   have Dw := mK.at'
   have uJ := Tz (s := s) (l := bg + 512 * (k : Int)) ⟨⟨nu, lv⟩, by have := Kz k pq; omega⟩
   obtain ⟨pk, we⟩ : ∃ p : Nat, Sw s (bg + 512 * (k : Int)) = (p : Int) := ⟨(Sw s (bg + 512 * (k : Int))).toNat, by omega⟩
   have iG : WQ dur (Rh ps) s (fr - fr % 512) k = Uz (pk : Int) dur (Rh ps) := by unfold WQ; rw [pU.out, we]
   have Aj : k < scM s fr := by rw [HM.out]; exact pq
   have kV := Uu gw.out Aj
   rw [iG] at kV
   rw [we] at uJ ⊢
   have JH : pk < us.length := by have := qQ.out; omega
   obtain ⟨gU, oU, cU, Iw, Qw, iR⟩ : ∃ g o c, us[pk] = .slice (some ⟨g, o, none⟩) 512 c ∧ 512 ≤ c ∧ ∀ i, i < (Uz (pk : Int) dur (Rh ps)).length → w3.cell? ⟨g, o + i, none⟩ = some (.int .u8 ((Uz (pk : Int) dur (Rh ps)).getD i 0)) := by
    rcases (vQ.out pk JH).2 with ⟨h, _⟩ | ⟨b, off, c, h1, h2, h3⟩
    ·rw [h] at kV; simp at kV
    ·rw [kV] at h1 h2
     exact ⟨b, off, c, h1, h2, h3⟩
   have PT : gU < w3.heap.size := World.block_lt_of_cell? _ _ (iR 0 (by rw [kV]; decide))
   obtain ⟨e5, GJ⟩ : ∃ z : Nat, (fr % 512).toNat - 512 * k = z := ⟨_, rfl⟩
   have Pr : e5 < 512 := by omega
   have O6 := gX.kept.size
   have BR : Kept (fun b => b = wc.heap.size ∨ b = wc.heap.size + 1 ∨ b = wc.heap.size + 1 + 1) w6 W := gX.kept
   have JM : Hid (Rd .u8 W (.slice (some ⟨gU, oU + e5, none⟩) (512 - e5) (cU - e5)) (Xr dur (Rh ps) s fr k)) := by
    have Ci : ∀ i, i < (Uz (pk : Int) dur (Rh ps)).length → W.cell? ⟨gU, oU + i, none⟩ = some (.int .u8 ((Uz (pk : Int) dur (Rh ps)).getD i 0)) := fun i hi => BR.cellOf (KG.out.cellOf (iR i hi) id) (fun h => by dsimp only at h; omega)
    have h9 := Rd.part Ci e5 (512 - e5) (n := 512 - e5) (c := cU - e5) (by rw [kV]; omega) rfl (by omega) (by unfold maxLen; omega)
    rw [List.take_of_length_le (by rw [List.length_drop, kV]; exact Nat.le_refl _)] at h9
    unfold Hid Xr
    rw [iG, GJ]
    exact h9
   have oY : (Xr dur (Rh ps) s fr k).length = 512 - e5 := by rw [XI gw.out Aj, GJ]
   have hS : (fun wx : World => wx.cell? ⟨wc.heap.size + 1 + 1, 0, none⟩ = some (.slice ua t.rest.length uc) ∧ wx.cell? ⟨w3.heap.size, 0, none⟩ = some (.slice (some ⟨G, 0, none⟩) us.length us.length) ∧ wx.cell? ⟨G, pk, none⟩ = some (.slice (some ⟨gU, oU, none⟩) 512 cU) ∧ wx.cell? ⟨w.heap.size + 1, 0, none⟩ = some (.int .i64 fr)) W.drew := ⟨gX.un.c0, (DX.out.kept BR (by omega)).c0, by rw [← Iw]; exact ((Ox.out.kept BR (by omega)).cell pk).trans (List.getElem?_eq_getElem JH), (qv.out.same n0.out |>.kept BR (by omega)).c0⟩
   obtain ⟨d9, EL⟩ : ∃ z : Int, fr - (bg + 512 * (k : Int)) = z := ⟨_, rfl⟩
   have Al : IntKind.i64.wrap d9 = d9 := by rw [IntKind.wrap_i64]; omega
   have vR : max d9 0 = (e5 : Int) := by have := pU.out; omega
   have Py : ¬ cU = e5 := by omega
   have NR : ((e5 : Nat) : Int) ≤ (cU : Int) := by omega
   have Qm : ((e5 : Nat) : Int) ≤ 512 := by omega
   have PP : (0 : Int) ≤ ((e5 : Nat) : Int) := by omega
   clear vX mK ka iG kV Iw iR GJ
   refine wpIn_block (wpIn_seq (YH (fun wx : World => wx.cell? ⟨wc.heap.size + 1 + 1, 0, none⟩ = some (.slice ua t.rest.length uc) ∧ wx.cell? ⟨w3.heap.size, 0, none⟩ = some (.slice (some ⟨G, 0, none⟩) us.length us.length) ∧ wx.cell? ⟨G, pk, none⟩ = some (.slice (some ⟨gU, oU, none⟩) 512 cU) ∧ wx.cell? ⟨w.heap.size + 1, 0, none⟩ = some (.int .i64 fr)) 11 12 (RZ (Rp WT)) (by kernel_rfl) rfl (by kernel_rfl) ?_))
   refine tk 0 44 hS ?_
   refine tk 1 45 hS ?_
   refine tk 2 46 hS ?_
   refine tk 3 47 hS ?_
   refine tk 4 48 hS ?_
   refine tk 5 49 hS ?_
   refine tk 6 50 hS ?_
   refine tkV 7 51 (.int .i64 d9) hS ?_
   refine tkV 8 52 (.int .i64 (e5 : Int)) hS ?_
   refine tkV 9 53 (.slice (some ⟨gU, oU + e5, none⟩) (512 - e5) (cU - e5)) hS ?_
   have vV := WR gw.out (pre.map Fin.val) (fun j hj => by
    obtain ⟨q, _, rfl⟩ := List.mem_map.1 hj
    rw [HM.out]
    exact q.2)
   rw [List.length_map] at vV
   have tS : Same W W.drew := kZ0.drew
   obtain ⟨a', c', w8, iH, kt, aG, uY⟩ := ZY (ty := 22) (gX.bytes.same tS) (by have h1 : W.drew.heap.size = W.heap.size := rfl; omega) (JM.out.same tS) (by rw [oY]; omega) (by rw [oY]; omega)
   have AW := hid (ScM.more (X := Xr dur (Rh ps) s fr k) (gX.same tS) (by omega) (by omega) kt aG uY)
   have nL : ∀ b, b < w6.heap.size → ¬ ((Value.slice ua t.rest.length uc).ownBlock = some b ∧ ∃ j, (W.drew.cell? ⟨b, j, none⟩).isSome = true) := fun b hb e => by have := (gX.bytes.lt b e.1).1; omega
   have nf : (fun wx : World => wx.cell? ⟨wc.heap.size + 1 + 1, 0, none⟩ = some (.slice ua t.rest.length uc) ∧ wx.cell? ⟨w3.heap.size, 0, none⟩ = some (.slice (some ⟨G, 0, none⟩) us.length us.length) ∧ wx.cell? ⟨G, pk, none⟩ = some (.slice (some ⟨gU, oU, none⟩) 512 cU) ∧ wx.cell? ⟨w.heap.size + 1, 0, none⟩ = some (.int .i64 fr)) w8 := ⟨aG.cellOf hS.1 (nL (wc.heap.size + 1 + 1) (by omega)), aG.cellOf hS.2.1 (nL w3.heap.size (by omega)), aG.cellOf hS.2.2.1 (nL G (by omega)), aG.cellOf hS.2.2.2 (nL (w.heap.size + 1) (by omega))⟩
   have tf := ((gX.un.same tS).kept aG (nL _ (by omega))).frozen
   rw [oY] at AW iH
   have qp := hid iH
   clear iH kt aG uY
   refine o1Q 10 (fun K hK => ?_)
   refine Xu (by rfl) (.tmp 44) (.tmp 53) 22 22 (by rfl) _ _ (by rfl) (by rfl) _ _ qp.out ?_
   simp only [List.getElem_toArray, List.getElem_cons_succ, List.getElem_cons_zero]
   refine hK.out _ _ (fun _ => nf) ?_
   clear hK K
   try simp only [Act.put, sA, s0, sS]
   have gY := nf.1
   refine o1Q 11 (fun K hK => ?_)
   go_simp
   refine hK.out _ _ (fun h => absurd rfl h) ?_
   clear hK K
   refine Q8 (by kernel_rfl) ?_
   try simp only [Act.put, sA, s0, sS]
   generalize w8.setCell ⟨wc.heap.size + 1 + 1, 0, none⟩ _ = w9 at AW ⊢
   obtain ⟨KR, KF⟩ := AW.out
   have I0 := hid KR
   have I7 := hid (jbq (jd6 tS) KF)
   obtain ⟨P, hP⟩ : ∃ z, Ux dur (Rh ps) s fr ((pre ++ [(⟨k, pq⟩ : Fin M)]).map Fin.val) = z := ⟨_, rfl⟩
   have Be : P = Ux dur (Rh ps) s fr (pre.map Fin.val) ++ Xr dur (Rh ps) s fr k := by rw [← hP, List.map_append]; exact YF _ _ _ _ _ _
   have yp := (show Hid (RchN m n ⟨P, fr, 1, []⟩ ⟨t.rest ++ Xr dur (Rh ps) s fr k, t.lsn, t.least, t.frs⟩) from by rw [Be]; exact kp.out.app _)
   have Aa := (show Hid (ScOk P fr ⟨t.rest ++ Xr dur (Rh ps) s fr k, t.lsn, t.least, t.frs⟩) from by rw [Be]; exact gu.out.app (LC.out k))
   have Qf : P.length ≤ 512 * 800 := by rw [Be, List.length_append, oY]; omega
   have HP := hid hP
   have Ec := hid gX
   clear KR KF AW nf hS tf nL gY qp hP Be kp gu pH Dw gX vV oY JM Ei
   refine wpIn_block ?_
   gi_loopw [16] (fun v wx => ∃ (n : Nat) (t : ScS) (ua : Option Addr) (uc : Nat) (fa : Option Addr) (fn fc : Nat) (qs : List StLogFrame), Hid (RchN m n ⟨P, fr, 1, []⟩ t) ∧ Hid (ScOk P fr t) ∧ Hid (Sv qs = t.frs) ∧ Hid (ScM w6 wc.heap.size (wc.heap.size + 1) (wc.heap.size + 1 + 1) t.rest t.lsn t.least ua uc fa fn fc qs wx) ∧ Hid (KeepsFrom w6.heap.size W wx)) (fun _ wx => (2199023255552 - intOf ((wx.cell? ⟨wc.heap.size, 1, none⟩).getD (.int .i64 0))).toNat)
   case atStart => exact ⟨n, _, a', c', fa, fn, fc, qs, yp, Aa, jI, I0, I7⟩
   case round =>
    clear yp Aa I0 I7 jI jd
    obtain ⟨n, t, ua, uc, fa, fn, fc, qs, kp, gu, jI, jd, Lw⟩ := hrel
    obtain ⟨rest, lsn, least, frs⟩ := t
    dsimp only at jI jd ⊢
    have fk := gu.out.at'
    have pH := gu.out.cnt
    dsimp only at fk pH
    have uP := (show Hid (IsB rest) from gu.out.isB)
    have gg : Hid (qs.length = frs.length) := by unfold Hid; rw [← jI.out, Sg]
    have NT : Hid (fn = qs.length) := by
     unfold Hid
     obtain ⟨_, _, h⟩ := jd.out.own.own.rd.form
     simp only [Value.slice.injEq] at h
     exact h.2.1
    obtain ⟨q0, q1⟩ := jd.out.scan.all2
    have q2 := jd.out.least.c0
    have q3 := jd.out.un.c0
    have dG : Kept (fun b => b = wc.heap.size ∨ b = wc.heap.size + 1 ∨ b = wc.heap.size + 1 + 1) w6 wr := jd.out.kept
    have q7 := (KT.out.same n0.out |>.kept dG (by omega)).c0
    have FF := dG.size
    have fI : rest.length ≤ 409600 := by omega
    have Er : fr ≤ lsn ∧ lsn ≤ fr + 409600 := by omega
    have kD := jbA _ rest lsn least m wr uP.out ⟨by omega, by omega⟩ (by omega) jd.out.bytes.rd
    clear dG
    refine wpIn_hide (RZ (Rp (Rp WT))) (fun QR Bh sP => ?_)
    refine wpIn_block (Uj (fun K hK => Si (RZ (Rp sP)) rfl ?_))
    go_wp2_with fail
    refine kD.mono ?_
    rintro e w7 ⟨y, rfl, jJ, ml, kI, gq⟩
    rw [StFrameResult.val_cls]
    have ju := hid (Blk.new w7 #[.int .i64 0, .int .i64 0, .int .i64 0, .int .i64 0, .int .i64 0, .int .i64 0, .int .i64 0, .int .i64 0, .bool false, .slice none 0 0, .bool false, .slice none 0 0, .int .i64 0, .int .i64 0, .slice none 0 0, .slice none 0 0, .slice none 0 0] 52)
    have pZ := hid (ju.out.there 0 y.cls.toArray.size (Nat.le_refl 17))
    have HZ := (show Hid (FRs wr ((w7.alloc (.cells #[.int .i64 0, .int .i64 0, .int .i64 0, .int .i64 0, .int .i64 0, .int .i64 0, .int .i64 0, .int .i64 0, .bool false, .slice none 0 0, .bool false, .slice none 0 0, .int .i64 0, .int .i64 0, .slice none 0 0, .slice none 0 0, .slice none 0 0] 52)).setCells w7.heap.size 0 y.cls) (RP rest lsn least m) (.pointer (some ⟨w7.heap.size, 0, none⟩))) from FRs.laid jJ gq.size ju.out rfl (fun b hb => by have h1 := ml b hb; have h2 := kI.lt b hb; omega) (kI.same (kZ0.alloc _)) (gq.trans (kZ0.alloc _)))
    have AA := hid (y.cls_one)
    clear jJ ml kI gq ju q0 q1 q2 q3 q7 kD
    go_wp2_with (first | (refine wpList_store_mid rfl 52 _ _ rfl w7.heap.size 0 y.cls.toArray rfl rfl pZ.out jav AA.out ?_; rw [List.toList_toArray]))
    refine hK.out _ _ ?_
    clear hK K
    generalize World.setCells _ w7.heap.size 0 y.cls = w8 at HZ ⊢
    clear pZ AA
    obtain ⟨Z, y, Hd, jJ, hZ, mV, ml, kI, oE⟩ := HZ.out
    rw [Hd]
    clear HZ Hd
    have oN : y.code = (RP rest lsn least m).1 := congrArg (fun x => x.1) jJ
    have AO := hid oN
    clear oN
    have Br := oE.size
    have iJ := hid (jd.out.same oE)
    have vH := hid (jbq Lw.out (jd6 oE))
    have Qs := mV.lt
    have g0 : w8.cell? ⟨Z, 0, none⟩ = some (.int .i64 y.code) := mV.cell 0
    refine Uj (fun K hK => Si (RZ (Rp sP)) rfl ?_)
    go_wp2
    refine hK.out _ _ ?_
    clear hK K
    refine wpIn_block (Uj (fun K hK => Si (RZ (Rp (Rp sP))) rfl ?_))
    by_cases hcz : y.code = 0
    case neg =>
     have I5 : (y.code == 0) = false := by simp [hcz]
     have Ei : decide (y.code = 0) = false := by simp [hcz]
     go_wp2
     refine hK.out _ _ ?_
     clear hK K
     refine wpIn_cond_false (by first | rfl | exact congrArg Value.bool I5 | exact congrArg Value.bool Ei) ?_
     refine Uj (fun K hK => Si (RZ (Rp (Rp sP))) rfl ?_)
     by_cases ku : y.code = 1
     ·have tP : (y.code == 1) = true := by simp [ku]
      have vA : decide (y.code = 1) = true := by simp [ku]
      go_wp2
      refine hK.out _ _ ?_
      clear hK K
      refine wpIn_cond_true (by first | rfl | exact congrArg Value.bool tP | exact congrArg Value.bool vA) (wpIn_exit ?_)
      show QR (.exit 1) _ _
      refine Bh.out _ _ _ ?_
      refine (show KeepsFrom w6.heap.size W w8 ∧ KpB w5.heap.size W w8 ∧ InvS w6 wc.heap.size (wc.heap.size + 1) (wc.heap.size + 1 + 1) dur (Rh ps) s fr m M (pre ++ [⟨k, pq⟩]) w8 from ?_)
      refine ⟨vH.out, fun j Qn F6 => ?_, n, ⟨rest, lsn, least, frs⟩, ua, uc, fa, fn, fc, qs, by rw [HP.out]; exact kp.out, by rw [HP.out]; exact gu.out, by show (RP rest lsn least m).1 = 1; rw [← AO.out]; exact ku, jI.out, iJ.out⟩
      rw [iJ.out.kept.block j (by omega) (by omega), Ec.out.kept.block j (by omega) (by omega)]
     ·have tP : (y.code == 1) = false := by simp [ku]
      have vA : decide (y.code = 1) = false := by simp [ku]
      go_wp2
      refine hK.out _ _ ?_
      clear hK K
      refine wpIn_cond_false (by first | rfl | exact congrArg Value.bool tP | exact congrArg Value.bool vA) (wpIn_exit ?_)
      show QR (.exit 0) _ _
      refine Bh.out _ _ _ ?_
      refine (show KeepsFrom w6.heap.size W w8 ∧ InvX w6 wc.heap.size (wc.heap.size + 1) (wc.heap.size + 1 + 1) dur (Rh ps) s fr m M (.exit 0) (pre ++ [⟨k, pq⟩]) w8 from ?_)
      exact ⟨vH.out, rfl, n, ⟨rest, lsn, least, frs⟩, ua, uc, fa, fn, fc, qs, by rw [HP.out]; exact kp.out, by show (RP rest lsn least m).1 ≠ 0; rw [← AO.out]; exact hcz, by show (RP rest lsn least m).1 ≠ 1; rw [← AO.out]; exact ku, jI.out, iJ.out⟩
    have qL : (RP rest lsn least m).1 = 0 := by rw [← AO.out]; exact hcz
    have Am := hid (RchN.snoc kp.out (show (ScS.dec m ⟨rest, lsn, least, frs⟩).1 = 0 from qL))
    have AU := hid (gu.out.next (m := m) (show (ScS.dec m ⟨rest, lsn, least, frs⟩).1 = 0 from qL))
    obtain ⟨sz, gE, Ev, _, qH⟩ := VR qL
    have oT : y.fsz = (sz : Int) := (congrArg (fun x => x.2.1) jJ).trans gE
    have pQ : y.epoch = (RP rest lsn least m).2.2.1 := congrArg (fun x => x.2.2.1) jJ
    have zT : y.record.dat = (RP rest lsn least m).2.2.2 := congrArg (fun x => x.2.2.2) jJ
    have zY : ScS.next m ⟨rest, lsn, least, frs⟩ = ⟨rest.drop sz, lsn + (sz : Int), y.epoch, frs ++ [(lsn, y.epoch, y.record.dat)]⟩ := by
     unfold ScS.next ScS.dec
     dsimp only
     rw [gE, pQ, zT]
     rfl
    rw [zY] at Am AU
    clear zY AO pQ zT gE qL jJ kp gu g0
    obtain ⟨code, fsz, ep, ⟨kind, txn, prev, page, slot, ⟨bU, ⟨bE, bA, bC, bB⟩⟩, ⟨aU, ⟨aE, aA, aC, aB⟩⟩, uN, nT, ⟨tE, tA, tN, tC, tB⟩, ⟨dE, dA, dN, dC, dB⟩, ⟨iE, iA, iC, iB⟩⟩⟩ := y
    dsimp only at hcz oT ⊢
    subst hcz oT
    dsimp only [StFrameResult.cls, BS.v, FR.v] at mV
    obtain ⟨p, pd, Ds, Cf, zS⟩ : ∃ p : StLogFrame, Hid (p.cells = [.int .i64 lsn, .int .i64 ep, .int .i64 kind, .int .i64 txn, .int .i64 prev, .int .i64 page, .int .i64 slot, .bool bU, .slice bA bB.length bC, .bool aU, .slice aA aB.length aC, .int .i64 uN, .int .i64 nT, .slice tA tN tC, .slice dA dN dC, .slice iA iB.length iC]) ∧ Hid (p.dat = (lsn, ep, StLogRecord.dat ⟨kind, txn, prev, page, slot, ⟨bU, ⟨bE, bA, bC, bB⟩⟩, ⟨aU, ⟨aE, aA, aC, aB⟩⟩, uN, nT, ⟨tE, tA, tN, tC, tB⟩, ⟨dE, dA, dN, dC, dB⟩, ⟨iE, iA, iC, iB⟩⟩)) ∧ Hid (OwnL w8 p.rows) ∧ Hid (∀ b, Rf p.rows b → wr.heap.size ≤ b ∧ ¬ b = Z) := ⟨(StFrameResult.fr ⟨0, (sz : Int), ep, ⟨kind, txn, prev, page, slot, ⟨bU, ⟨bE, bA, bC, bB⟩⟩, ⟨aU, ⟨aE, aA, aC, aB⟩⟩, uN, nT, ⟨tE, tA, tN, tC, tB⟩, ⟨dE, dA, dN, dC, dB⟩, ⟨iE, iA, iC, iB⟩⟩⟩ lsn), rfl, rfl, kI, ml⟩
    have qt := hid mV
    obtain ⟨g0, g1, g2, g3, g4, g5, g6, g7, g8, g9, F2, C4, DY, E8, E9, Fs, Dn⟩ := mV.all17
    obtain ⟨q0, q1⟩ := iJ.out.scan.all2
    have fs := iJ.out.scan.frozen
    have Ax := jd.out.low
    have uB := iJ.out.scan.lt
    have As : qs.length ≤ 20000 := by have := gg.out; omega
    have Gh : ¬ (Value.slice fa fn fc).ownBlock = some wc.heap.size := fun e => by have := jd.out.foot _ (.inl e); omega
    have EO : ¬ (Value.slice fa fn fc).ownBlock = some Z := fun e => by have := (jd.out.own.lt _ (.inl e)); omega
    have Ef := (show Hid (∀ b, Rf p.rows b → ¬ Sm (.slice fa fn fc) qs b) from fun b hb hf => by have h1 := (zS.out b hb).1; have h2 := jd.out.own.lt b hf; omega)
    clear kI ml mV
    go_wp2
    refine hK.out _ _ ?_
    clear hK K
    refine wpIn_cond_true rfl ?_
    refine Uj (fun K hK => Si (RZ (Rp (Rp sP))) rfl ?_)
    go_wp2_with (at_builtin; go_loud (refine Xb (p := p) rfl (.tmp 66) (.tmp 74) rfl rfl rfl (by rw [pd.out]; exact Blk.newL w8 [.int .i64 lsn, .int .i64 ep, .int .i64 kind, .int .i64 txn, .int .i64 prev, .int .i64 page, .int .i64 slot, .bool bU, .slice bA bB.length bC, .bool aU, .slice aA aB.length aC, .int .i64 uN, .int .i64 nT, .slice tA tN tC, .slice dA dN dC, .slice iA iB.length iC] 55) (iJ.out.own.same (kZ0.alloc _)) (Cf.out.same (kZ0.alloc _)) Ef.out As ?_); intro gF cF lU Ag fN yJ; have mY := hid ((iJ.out.scan.alloc _).kept fN Gh); have iK := hid Ag; have gx := (show Hid (Kept (fun b => (Value.slice fa fn fc).ownBlock = some b) w8 lU) from (kZ0.alloc _).trans fN); have pV := (show Hid (∀ b, Sm (.slice (some ⟨gF, 0, none⟩) (fn + 1) cF) (qs ++ [p]) b → w6.heap.size ≤ b ∧ ¬ (Value.slice ua rest.length uc).ownBlock = some b) from fun b hb => by rcases yJ b hb with h | h | h; { exact ⟨jd.out.foot b h, jd.out.apart b h⟩ }; { have h1 := (zS.out b h).1; exact ⟨by omega, fun e => by have := (jd.out.bytes.lt _ e).2; omega⟩ }; { rw [World.size_alloc] at h; exact ⟨by omega, fun e => by have := (jd.out.bytes.lt _ e).2; omega⟩ }); have z0 := mY.out.cell 0; have F9 := mY.out.frozen; have Fz := mY.out.lt; clear Ag fN yJ)
    refine hK.out _ _ ?_
    clear hK K
    have gp := gx.out
    have yq := hid (qt.out.kept gp EO)
    have fm : Kept (fun b => b = wc.heap.size) lU (lU.setCell ⟨wc.heap.size, 0, none⟩ (.slice (some ⟨gF, 0, none⟩) (fn + 1) cF)) := Kept.setCell (R := fun b => b = wc.heap.size) kZ0 (p := ⟨wc.heap.size, 0, none⟩) (.inr rfl) _
    have dQ := hid (mY.out.stored 0 (.slice (some ⟨gF, 0, none⟩) (fn + 1) cF))
    have vU := hid (yq.out.kept fm (fun e => by have e' : Z = wc.heap.size := e; omega))
    have j9 := hid (iK.out.kept fm (fun b hb e => by have e' : b = wc.heap.size := e; have := (pV.out b hb).1; omega))
    have vo := (show Hid (KeepsFrom w6.heap.size W (lU.setCell ⟨wc.heap.size, 0, none⟩ (.slice (some ⟨gF, 0, none⟩) (fn + 1) cF))) from jbq vH.out (jbq (SV gp (fun b e => TQ iJ.out.own.own.row e)) (SV fm (fun b e => by have e' : b = wc.heap.size := e; subst e'; exact mY.out.not_bare))))
    have C1 := hid ((iJ.out.least.kept gp (fun e => by have := jd.out.foot _ (.inl e); omega)).kept fm (by omega))
    have CO := hid ((iJ.out.un.kept gp (fun e => by have := jd.out.foot _ (.inl e); omega)).kept fm (by omega))
    have GU := hid ((iJ.out.bytes.kept gp (fun b _ hb _ e => jd.out.apart b (.inl e) hb)).kept fm (fun b hb _ _ e => by have e' : b = wc.heap.size := e; omega))
    have pr := (show Hid (Kept (fun b => b = wc.heap.size ∨ b = wc.heap.size + 1 ∨ b = wc.heap.size + 1 + 1) w6 (lU.setCell ⟨wc.heap.size, 0, none⟩ (.slice (some ⟨gF, 0, none⟩) (fn + 1) cF))) from (iJ.out.kept.next gp (fun i hi e => by have := jd.out.foot i (.inl e); omega)).next fm (fun i hi e => .inl e))
    generalize lU.setCell ⟨wc.heap.size, 0, none⟩ (.slice (some ⟨gF, 0, none⟩) (fn + 1) cF) = qc at dQ vU j9 vo C1 CO GU pr ⊢
    clear z0 F9 Fz g0 g1 g2 g3 g4 g5 g6 g7 g8 g9 F2 C4 DY E8 E9 Fs Dn q0 q1 fs mY yq iK gp fm gx
    have q1 : qc.cell? ⟨wc.heap.size, 1, none⟩ = some (.int .i64 lsn) := dQ.out.cell 1
    have fs := dQ.out.frozen
    have g1 : qc.cell? ⟨Z, 1, none⟩ = some (.int .i64 (sz : Int)) := vU.out.cell 1
    refine Uj (fun K hK => Si (RZ (Rp (Rp sP))) rfl ?_)
    go_wp2
    refine hK.out _ _ ?_
    clear hK K
    have i3 : Kept (fun b => b = wc.heap.size) qc (qc.setCell ⟨wc.heap.size, 1, none⟩ (.int .i64 (lsn + (sz : Int)))) := Kept.setCell (R := fun b => b = wc.heap.size) kZ0 (p := ⟨wc.heap.size, 1, none⟩) (.inr rfl) _
    have Gl := (show Hid (Blk (qc.setCell ⟨wc.heap.size, 1, none⟩ (.int .i64 (lsn + (sz : Int)))) wc.heap.size 29 [.slice (some ⟨gF, 0, none⟩) (fn + 1) cF, .int .i64 (lsn + (sz : Int))]) from dQ.out.stored 1 _)
    have A3 := hid (vU.out.kept i3 (fun e => by have e' : Z = wc.heap.size := e; omega))
    have EP := hid (j9.out.kept i3 (fun b hb e => by have e' : b = wc.heap.size := e; have := (pV.out b hb).1; omega))
    have uR := hid (jbq vo.out (SV (B := w6.heap.size) i3 (fun b e => by have e' : b = wc.heap.size := e; subst e'; exact dQ.out.not_bare)))
    have wQ := hid (C1.out.kept i3 (by omega))
    have E0 := hid (CO.out.kept i3 (by omega))
    have GA := hid (GU.out.kept i3 (fun b hb _ _ e => by have e' : b = wc.heap.size := e; omega))
    have GN := hid (pr.out.next i3 (fun i hi e => .inl e))
    generalize qc.setCell ⟨wc.heap.size, 1, none⟩ (.int .i64 (lsn + (sz : Int))) = pp at Gl A3 EP uR wQ E0 GA GN ⊢
    clear i3 q1 fs g1 dQ vU j9 vo C1 CO GU pr
    have q2 := wQ.out.c0
    have fl := wQ.out.frozen
    have g2 : pp.cell? ⟨Z, 2, none⟩ = some (.int .i64 ep) := A3.out.cell 2
    refine Uj (fun K hK => Si (RZ (Rp (Rp sP))) rfl ?_)
    go_wp2
    refine hK.out _ _ ?_
    clear hK K
    have i3 : Kept (fun b => b = wc.heap.size + 1) pp (pp.setCell ⟨wc.heap.size + 1, 0, none⟩ (.int .i64 ep)) := Kept.setCell (R := fun b => b = wc.heap.size + 1) kZ0 (p := ⟨wc.heap.size + 1, 0, none⟩) (.inr rfl) _
    have KB := (show Hid (Blk (pp.setCell ⟨wc.heap.size + 1, 0, none⟩ (.int .i64 ep)) (wc.heap.size + 1) 2 [.int .i64 ep]) from wQ.out.stored 0 _)
    have Jn := hid (Gl.out.kept i3 (by omega))
    have IW := hid (A3.out.kept i3 (fun e => by have e' : Z = wc.heap.size + 1 := e; omega))
    have I2 := hid (EP.out.kept i3 (fun b hb e => by have e' : b = wc.heap.size + 1 := e; have := (pV.out b hb).1; omega))
    have xI := hid (jbq uR.out (SV (B := w6.heap.size) i3 (fun b e => by have e' : b = wc.heap.size + 1 := e; subst e'; exact wQ.out.not_bare)))
    have xR := hid (E0.out.kept i3 (by omega))
    have yf := hid (GA.out.kept i3 (fun b hb _ _ e => by have e' : b = wc.heap.size + 1 := e; omega))
    have Ht := hid (GN.out.next i3 (fun i hi e => .inr (.inl e)))
    generalize pp.setCell ⟨wc.heap.size + 1, 0, none⟩ (.int .i64 ep) = nU at KB Jn IW I2 xI xR yf Ht ⊢
    clear i3 q2 fl g2 Gl A3 EP uR wQ E0 GA GN
    have g1 : nU.cell? ⟨Z, 1, none⟩ = some (.int .i64 (sz : Int)) := IW.out.cell 1
    obtain ⟨gA, oA, rfl⟩ : ∃ g o, ua = some ⟨g, o, none⟩ := by
     rcases yf.out with ⟨_, h⟩ | ⟨g, off, cap, h, _⟩
     ·rw [h] at qH; simp at qH; omega
     ·simp only [Value.slice.injEq] at h
      exact ⟨g, off, h.1⟩
    obtain ⟨P4, Pe⟩ := yf.out.cap
    have Mg : (uc : Int) ≤ 9223372036854775807 := by unfold maxLen at Pe; omega
    have q3 := xR.out.c0
    have fu := xR.out.frozen
    have QS : (sz : Int) ≤ (rest.length : Int) := by omega
    have Mm : (sz : Int) ≤ (uc : Int) := by omega
    have H3 := (show Hid (∃ a2 c2, Un w6.heap.size nU (.slice a2 (rest.length - sz) c2) (rest.drop sz) ∧ (∀ b, (Value.slice a2 (rest.length - sz) c2).ownBlock = some b → (Value.slice (some ⟨gA, oA, none⟩) rest.length uc).ownBlock = some b) ∧ (if uc = sz then a2 = some ⟨gA, oA, none⟩ ∧ c2 = 0 else a2 = some ⟨gA, oA + sz, none⟩ ∧ c2 = uc - sz)) from by
     by_cases nd : uc = sz
     ·have mS : rest.length = sz := by omega
      refine ⟨some ⟨gA, oA, none⟩, 0, ?_, fun b hb => hb, by rw [if_pos nd]; exact ⟨rfl, rfl⟩⟩
      rw [mS, Nat.sub_self, List.drop_of_length_le (by omega)]
      have h9 := yf.out.dropAll oA
      exact h9
     ·exact ⟨some ⟨gA, oA + sz, none⟩, uc - sz, yf.out.drop qH, fun b hb => hb, by rw [if_neg nd]; exact ⟨rfl, rfl⟩⟩)
    obtain ⟨DZ, FL, K7, xh, B3⟩ := H3.out
    have DR := hid K7
    have Ft := hid xh
    clear K7 xh H3
    refine Si (Rp (Rp sP)) rfl ?_
    have tW := (show Hid (∀ wz, wz = nU.setCell ⟨wc.heap.size + 1 + 1, 0, none⟩ (.slice DZ (rest.length - sz) FL) → (∃ (n : Nat) (t : ScS) (ua : Option Addr) (uc : Nat) (fa : Option Addr) (fn fc : Nat) (qs : List StLogFrame), Hid (RchN m n ⟨P, fr, 1, []⟩ t) ∧ Hid (ScOk P fr t) ∧ Hid (Sv qs = t.frs) ∧ Hid (ScM w6 wc.heap.size (wc.heap.size + 1) (wc.heap.size + 1 + 1) t.rest t.lsn t.least ua uc fa fn fc qs wz) ∧ Hid (KeepsFrom w6.heap.size W wz)) ∧ (2199023255552 - intOf ((wz.cell? ⟨wc.heap.size, 1, none⟩).getD (.int .i64 0))).toNat < (2199023255552 - intOf ((wr.cell? ⟨wc.heap.size, 1, none⟩).getD (.int .i64 0))).toNat) from by
     rintro wz rfl
     have i3 : Kept (fun b => b = wc.heap.size + 1 + 1) nU (nU.setCell ⟨wc.heap.size + 1 + 1, 0, none⟩ (.slice DZ (rest.length - sz) FL)) := Kept.setCell (R := fun b => b = wc.heap.size + 1 + 1) kZ0 (p := ⟨wc.heap.size + 1 + 1, 0, none⟩) (.inr rfl) _
     have Hc := Jn.out.kept i3 (by omega)
     refine ⟨⟨n + 1, _, DZ, FL, some ⟨gF, 0, none⟩, fn + 1, cF, _, Am, AU, ?_, ⟨Hc, KB.out.kept i3 (by omega), ?_, ?_, I2.out.kept i3 (fun b hb e => by have e' : b = wc.heap.size + 1 + 1 := e; have := (pV.out b hb).1; omega), fun b hb => (pV.out b hb).1, fun b hb e => ?_, Ht.out.next i3 (fun i hi e => .inr (.inr e)), Ax⟩, ?_⟩, ?_⟩
     ·show Sv (qs ++ [p]) = _
      unfold Sv
      rw [List.map_append]
      rw [show qs.map StLogFrame.dat = frs from jI.out, List.map_singleton, Ds.out]
     ·rw [List.length_drop]
      exact xR.out.stored 0 _
     ·rw [List.length_drop]
      exact DR.out.kept i3 (fun b hb _ _ e => by have e' : b = wc.heap.size + 1 + 1 := e; omega)
     ·rw [List.length_drop] at e
      exact (pV.out b hb).2 (Ft.out b e)
     ·exact jbq xI.out (SV (B := w6.heap.size) i3 (fun b e => by have e' : b = wc.heap.size + 1 + 1 := e; subst e'; exact xR.out.not_bare))
     ·rw [show _ = some _ from Hc.cell 1, show _ = some _ from jd.out.scan.cell 1]
      show (2199023255552 - (lsn + (sz : Int))).toNat < (2199023255552 - lsn).toNat
      omega)
    by_cases nd : uc = sz
    ·rw [if_pos nd] at B3
     rw [show rest.length - sz = 0 from by omega] at tW
     obtain ⟨rfl, rfl⟩ := B3
     subst nd
     go_wp2
     refine Bh.out _ _ _ ?_
     obtain ⟨hrel, pI⟩ := tW.out _ rfl
     unfold Exit.then
     dsimp only
     exact ⟨⟨_, _, _, _, _, _, _, _, _, _, _, _, _, _, _, _, _, _, _, _, _, _, _, _, _, _, _, _, _, _, _, _, _, _, _, _, _, hrel, rfl⟩, pI⟩
    ·rw [if_neg nd] at B3
     obtain ⟨rfl, rfl⟩ := B3
     go_wp2
     refine Bh.out _ _ _ ?_
     obtain ⟨hrel, pI⟩ := tW.out _ rfl
     unfold Exit.then
     dsimp only
     exact ⟨⟨_, _, _, _, _, _, _, _, _, _, _, _, _, _, _, _, _, _, _, _, _, _, _, _, _, _, _, _, _, _, _, _, _, _, _, _, _, hrel, rfl⟩, pI⟩
theorem WV (x : FR) (k0 : Int) (w : World) (h0 : 0 ≤ k0) (h1 : k0 + (x.bs.length : Int) ≤ 1125899906842624) (ha : OwnL w (x.rows 4)) :
  Calls Tryz.prog 55 #[x.v, .int .i64 k0] w fun e w' => e = .returned (.int .i64 (k0 + (x.bs.length : Int))) ∧ OwnL w' ((x.marked k0).rows 4) ∧ Kept (Rf (x.rows 4)) w w' := by
 have hl := FR.own_len ha
 have hf := FR.own_form ha
 obtain ⟨xe, xa, xn, xc, bs⟩ := x
 dsimp only [FR.v] at *
 have HA := (show Hid (OwnL w (FR.rows 4 ⟨xe, xa, xn, xc, bs⟩)) from ha)
 clear ha
 rcases hf with ⟨rfl, rfl, rfl⟩ | ⟨g, rfl, kl, jY, ho⟩
 ·obtain rfl : bs = [] := List.length_eq_zero_iff.1 (by omega)
  clear hl
  go_enter Tryz.func55, Tryz.ntmps55
  go_wp2
  refine wp_loop_rounds 1 ?_
  rw [rounds_succ]
  go_wp2
  go_ret
  exact ⟨by simp, HA.out, kZ0⟩
 ·have HL := (show Hid (bs.length = xn * 4) from hl)
  have iQ := (show Hid (OwnF 4 xe w g xn xc bs) from ho)
  rw [hl] at h1 ⊢
  have Ah : k0 + (xn : Int) * 4 ≤ 1125899906842624 := by simpa using h1
  unfold maxLen at jY
  clear ho hl HA h1
  go_enter Tryz.func55, Tryz.ntmps55
  go_wp2
  go_loopw [1, 5] (fun v i wr => ∃ k : Nat, k ≤ xn ∧ i = .int .i64 k ∧ v = .int .i64 (k0 + (k : Int) * 4) ∧ Hid (OwnF 4 xe wr g xn xc (Wy k0 bs (k * 4))) ∧ Hid (Kept (fun b => b = g) w wr)) (fun _ i _ => xn - (intOf i).toNat)
  case atStart => exact ⟨0, Nat.zero_le _, rfl, by simp, by rw [Nat.zero_mul, X4]; exact iQ, kZ0⟩
  case round =>
   obtain ⟨k, hk, rfl, rfl, HO, HK⟩ := hrel
   by_cases bH : k < xn
   ·have c0 := HO.out.cell (k * 4) (by omega)
    have f0 := HO.out.frozen (k * 4)
    have c1 := HO.out.cell (k * 4 + 1) (by omega)
    have f1 := HO.out.frozen (k * 4 + 1)
    have c2 := HO.out.cell (k * 4 + 2) (by omega)
    have f2 := HO.out.frozen (k * 4 + 2)
    have c3 := HO.out.cell (k * 4 + 3) (by omega)
    have f3 := HO.out.frozen (k * 4 + 3)
    go_wp2
    go_roundw
    case rel =>
     have hl := HL.out
     have q0 := HO.out
     have q1 := q0.stored (k * 4) (k0 + ((k * 4 : Nat) : Int))
     rw [Ue _ _ _ (by omega)] at q1
     have q2 := q1.stored (k * 4 + 1) (k0 + ((k * 4 + 1 : Nat) : Int))
     rw [Ue _ _ _ (by omega)] at q2
     have q3 := q2.stored (k * 4 + 2) (k0 + ((k * 4 + 2 : Nat) : Int))
     rw [Ue _ _ _ (by omega)] at q3
     have q4 := q3.stored (k * 4 + 3) (k0 + ((k * 4 + 3 : Nat) : Int))
     rw [Ue _ _ _ (by omega)] at q4
     refine ⟨k + 1, by omega, by go_num, by go_num, ?_, ?_⟩
     ·rw [show (k + 1) * 4 = k * 4 + 1 + 1 + 1 + 1 from by omega]; simpa [Hid, Int.add_assoc] using q4
     ·exact ((((HK.out.setCell (.inr rfl) _).setCell (.inr rfl) _).setCell (.inr rfl) _).setCell (.inr rfl) _)
    case measure => simp [intOf]; omega
   ·go_wp2
    go_ret
    obtain rfl : k = xn := by omega
    have h := HO.out
    rw [← HL.out, Zu] at h
    refine ⟨Ua (by push_cast; rfl), ?_, HK.out.mono (fun b _ hb => (Rw _ _).2 (by simp [FR.v, Value.ownBlock, hb]))⟩
    exact h.out
theorem WW (x : FR) (k0 : Int) (w : World) (h0 : 0 ≤ k0) (h1 : k0 + (x.bs.length : Int) ≤ 1125899906842624) (ha : OwnL w ((x.marked k0).rows 4)) :
  Calls Tryz.prog 58 #[x.v, .int .i64 k0] w fun e w' => e = .returned (.int .i64 (k0 + (x.bs.length : Int))) ∧ Same w w' := by
 have hl := FR.own_len ha
 have hf := FR.own_form ha
 obtain ⟨xe, xa, xn, xc, bs⟩ := x
 dsimp only [FR.v, FR.marked] at *
 rw [Ul] at hl
 clear ha
 rcases hf with ⟨rfl, rfl, rfl⟩ | ⟨g, rfl, kl, jY, ho⟩
 ·obtain rfl : bs = [] := List.length_eq_zero_iff.1 (by omega)
  clear hl
  go_enter Tryz.func58, Tryz.ntmps58
  go_wp2
  refine wp_loop_rounds 1 ?_
  rw [rounds_succ]
  go_wp2
  go_ret
  exact ⟨by simp, kZ0⟩
 ·have hc : ∀ j, j < xn * 4 → w.cell? ⟨g, j, none⟩ = some (.int .i64 (k0 + j)) := fun j hj => by
   rw [ho.cell j hj, Zv _ _ _ (by omega)]
  rw [hl] at h1 ⊢
  have Ah : k0 + (xn : Int) * 4 ≤ 1125899906842624 := by simpa using h1
  unfold maxLen at jY
  clear ho h1
  go_enter Tryz.func58, Tryz.ntmps58
  go_wp2
  go_loop [1, 5] (fun v i => ∃ k : Nat, k ≤ xn ∧ i = .int .i64 k ∧ v = .int .i64 (k0 + (k : Int) * 4)) (fun _ i => xn - (intOf i).toNat)
  case atStart => exact ⟨0, Nat.zero_le _, rfl, by simp⟩
  case round =>
   obtain ⟨k, hk, rfl, rfl⟩ := hrel
   by_cases bH : k < xn
   ·have c0 : w.cell? ⟨g, k * 4, none⟩ = some (.int .i64 (k0 + (k : Int) * 4)) := by rw [hc (k * 4) (by omega)]; congr 2 <;> (push_cast; omega)
    have c1 : w.cell? ⟨g, k * 4 + 1, none⟩ = some (.int .i64 (k0 + (k : Int) * 4 + 1)) := by rw [hc (k * 4 + 1) (by omega)]; congr 2 <;> (push_cast; omega)
    have c2 : w.cell? ⟨g, k * 4 + 2, none⟩ = some (.int .i64 (k0 + (k : Int) * 4 + 2)) := by rw [hc (k * 4 + 2) (by omega)]; congr 2 <;> (push_cast; omega)
    have c3 : w.cell? ⟨g, k * 4 + 3, none⟩ = some (.int .i64 (k0 + (k : Int) * 4 + 3)) := by rw [hc (k * 4 + 3) (by omega)]; congr 2 <;> (push_cast; omega)
    clear hc
    go_wp2
    go_round
    case rel => exact ⟨k + 1, by omega, by go_num, by go_num⟩
    case measure => simp [intOf]; omega
   ·go_wp2
    go_ret
    obtain rfl : k = xn := by omega
    exact ⟨Ua (by push_cast; rfl), kZ0⟩
theorem VW (x : FR) (k0 : Int) (w : World) (h0 : 0 ≤ k0) (h1 : k0 + (x.bs.length : Int) ≤ 1125899906842624) (ha : OwnL w (x.rows 2)) :
  Calls Tryz.prog 56 #[x.v, .int .i64 k0] w fun e w' => e = .returned (.int .i64 (k0 + (x.bs.length : Int))) ∧ OwnL w' ((x.marked k0).rows 2) ∧ Kept (Rf (x.rows 2)) w w' := by
 have hl := FR.own_len ha
 have hf := FR.own_form ha
 obtain ⟨xe, xa, xn, xc, bs⟩ := x
 dsimp only [FR.v] at *
 have HA := (show Hid (OwnL w (FR.rows 2 ⟨xe, xa, xn, xc, bs⟩)) from ha)
 clear ha
 rcases hf with ⟨rfl, rfl, rfl⟩ | ⟨g, rfl, kl, jY, ho⟩
 ·obtain rfl : bs = [] := List.length_eq_zero_iff.1 (by omega)
  clear hl
  go_enter Tryz.func56, Tryz.ntmps56
  go_wp2
  refine wp_loop_rounds 1 ?_
  rw [rounds_succ]
  go_wp2
  go_ret
  exact ⟨by simp, HA.out, kZ0⟩
 ·have HL := (show Hid (bs.length = xn * 2) from hl)
  have iQ := (show Hid (OwnF 2 xe w g xn xc bs) from ho)
  rw [hl] at h1 ⊢
  have Ah : k0 + (xn : Int) * 2 ≤ 1125899906842624 := by simpa using h1
  unfold maxLen at jY
  clear ho hl HA h1
  go_enter Tryz.func56, Tryz.ntmps56
  go_wp2
  go_loopw [1, 5] (fun v i wr => ∃ k : Nat, k ≤ xn ∧ i = .int .i64 k ∧ v = .int .i64 (k0 + (k : Int) * 2) ∧ Hid (OwnF 2 xe wr g xn xc (Wy k0 bs (k * 2))) ∧ Hid (Kept (fun b => b = g) w wr)) (fun _ i _ => xn - (intOf i).toNat)
  case atStart => exact ⟨0, Nat.zero_le _, rfl, by simp, by rw [Nat.zero_mul, X4]; exact iQ, kZ0⟩
  case round =>
   obtain ⟨k, hk, rfl, rfl, HO, HK⟩ := hrel
   by_cases bH : k < xn
   ·have c0 := HO.out.cell (k * 2) (by omega)
    have f0 := HO.out.frozen (k * 2)
    have c1 := HO.out.cell (k * 2 + 1) (by omega)
    have f1 := HO.out.frozen (k * 2 + 1)
    go_wp2
    go_roundw
    case rel =>
     have hl := HL.out
     have q0 := HO.out
     have q1 := q0.stored (k * 2) (k0 + ((k * 2 : Nat) : Int))
     rw [Ue _ _ _ (by omega)] at q1
     have q2 := q1.stored (k * 2 + 1) (k0 + ((k * 2 + 1 : Nat) : Int))
     rw [Ue _ _ _ (by omega)] at q2
     refine ⟨k + 1, by omega, by go_num, by go_num, ?_, ?_⟩
     ·rw [show (k + 1) * 2 = k * 2 + 1 + 1 from by omega]; simpa [Hid, Int.add_assoc] using q2
     ·exact ((HK.out.setCell (.inr rfl) _).setCell (.inr rfl) _)
    case measure => simp [intOf]; omega
   ·go_wp2
    go_ret
    obtain rfl : k = xn := by omega
    have h := HO.out
    rw [← HL.out, Zu] at h
    refine ⟨Ua (by push_cast; rfl), ?_, HK.out.mono (fun b _ hb => (Rw _ _).2 (by simp [FR.v, Value.ownBlock, hb]))⟩
    exact h.out
theorem VX (x : FR) (k0 : Int) (w : World) (h0 : 0 ≤ k0) (h1 : k0 + (x.bs.length : Int) ≤ 1125899906842624) (ha : OwnL w ((x.marked k0).rows 2)) :
  Calls Tryz.prog 59 #[x.v, .int .i64 k0] w fun e w' => e = .returned (.int .i64 (k0 + (x.bs.length : Int))) ∧ Same w w' := by
 have hl := FR.own_len ha
 have hf := FR.own_form ha
 obtain ⟨xe, xa, xn, xc, bs⟩ := x
 dsimp only [FR.v, FR.marked] at *
 rw [Ul] at hl
 clear ha
 rcases hf with ⟨rfl, rfl, rfl⟩ | ⟨g, rfl, kl, jY, ho⟩
 ·obtain rfl : bs = [] := List.length_eq_zero_iff.1 (by omega)
  clear hl
  go_enter Tryz.func59, Tryz.ntmps59
  go_wp2
  refine wp_loop_rounds 1 ?_
  rw [rounds_succ]
  go_wp2
  go_ret
  exact ⟨by simp, kZ0⟩
 ·have hc : ∀ j, j < xn * 2 → w.cell? ⟨g, j, none⟩ = some (.int .i64 (k0 + j)) := fun j hj => by
   rw [ho.cell j hj, Zv _ _ _ (by omega)]
  rw [hl] at h1 ⊢
  have Ah : k0 + (xn : Int) * 2 ≤ 1125899906842624 := by simpa using h1
  unfold maxLen at jY
  clear ho h1
  go_enter Tryz.func59, Tryz.ntmps59
  go_wp2
  go_loop [1, 5] (fun v i => ∃ k : Nat, k ≤ xn ∧ i = .int .i64 k ∧ v = .int .i64 (k0 + (k : Int) * 2)) (fun _ i => xn - (intOf i).toNat)
  case atStart => exact ⟨0, Nat.zero_le _, rfl, by simp⟩
  case round =>
   obtain ⟨k, hk, rfl, rfl⟩ := hrel
   by_cases bH : k < xn
   ·have c0 : w.cell? ⟨g, k * 2, none⟩ = some (.int .i64 (k0 + (k : Int) * 2)) := by rw [hc (k * 2) (by omega)]; congr 2 <;> (push_cast; omega)
    have c1 : w.cell? ⟨g, k * 2 + 1, none⟩ = some (.int .i64 (k0 + (k : Int) * 2 + 1)) := by rw [hc (k * 2 + 1) (by omega)]; congr 2 <;> (push_cast; omega)
    clear hc
    go_wp2
    go_round
    case rel => exact ⟨k + 1, by omega, by go_num, by go_num⟩
    case measure => simp [intOf]; omega
   ·go_wp2
    go_ret
    obtain rfl : k = xn := by omega
    exact ⟨Ua (by push_cast; rfl), kZ0⟩
end Go.Proofs.YtaojjcnmififoaaGreat
