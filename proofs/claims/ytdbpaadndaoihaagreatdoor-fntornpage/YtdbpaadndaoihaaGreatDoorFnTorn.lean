import Derived.Test.YtdbpaadndaoihaaGreatDoorG31
import Derived.Test.YtdbpaadndaoihaaGreatDoorG29
import Derived.Test.YtdbpaadndaoihaaGreatDoorG27
import Derived.Test.YtdbpaadndaoihaaGreatDoorG03
import Derived.Test.YtdbpaadndaoihaaGreatDoorG09
import Derived.Test.YtdbpaadndaoihaaGreatDoorG06
import Derived.Test.YtdbpaadndaoihaaGreatDoorG07
import Derived.Test.YtdbpaadndaoihaaGreatDoorG32
import Derived.Test.YtdbpaadndaoihaaGreatDoorG26
import Derived.Test.YtdbpaadndaoihaaGreatDoorG28
import Derived.Test.YtdbpaadndaoihaaGreatDoorG30
import Derived.Test.YtdbpaadndaoihaaGreatDoorFmtI
import Derived.Deep.CutBlock
import Derived.Deep.DeepCutAuto
namespace Go.Proofs.YtdbpaadndaoihaaGreatDoor
set_option maxRecDepth 100000
set_option maxHeartbeats 8000000
set_option linter.unusedVariables false
set_option linter.unusedSimpArgs false
open Go Go.RowKit
theorem ownB_at {g n c i : Nat} (h : (Value.slice (some ⟨g, 0, none⟩) n c).ownBlock = some i) : g = i := by simpa [Value.ownBlock] using h
theorem FrX.lt {w : World} {fa : Option Addr} {fn fc : Nat} {ps : List StLogFrame} (h : FrX w fa fn fc ps) : ∀ b, (Value.slice fa fn fc).ownBlock = some b → b < w.heap.size := fun b hb =>
 (World.ownsRow.lt h.own b hb).2
theorem ownOne (w : World) (x : Int) : Own 0 5 .u8 (w.alloc (.cells #[.int .u8 x] 5)) (.slice (some ⟨w.heap.size, 0, none⟩) 1 1) [x] := by
 have h : Blk (w.alloc (.cells #[.int .u8 x] 5)) w.heap.size 5 (vals .u8 [x]) := Blk.new w #[.int .u8 x] 5
 exact h.own (by unfold maxLen; simp)
theorem fnTorn_law (v0 : Value) (cs : List Int) (v1 : Value) (ms : List Int) (a0 a1 a2 : Addr) (w : World) (hE : Errs w a0 a1 a2) (hv0 : Rd .u8 w v0 cs) (hB0 : IsB cs) (hv1 : Rd .u8 w v1 ms) (hB1 : IsB ms) :
  Calls Tryz.prog 3 #[v0, v1] w fun e w' => e = .returned (.bool true) ∧ Same w w' := by
 obtain ⟨av, cv, rfl⟩ := hv0.form
 obtain ⟨bv, dv, rfl⟩ := hv1.form
 have hm0 := hv0.1
 have hm1 := hv1.1
 unfold maxLen at hm0 hm1
 by_cases h0 : (1048576 : Int) < (cs.length : Int)
 ·go_enter Tryz.func3, Tryz.ntmps3
  go_wp2
  go_ret
  exact ⟨rfl, Kept.refl _ _⟩
 by_cases h1 : (1048576 : Int) < (ms.length : Int)
 ·go_enter Tryz.func3, Tryz.ntmps3
  go_wp2
  go_ret
  exact ⟨rfl, Kept.refl _ _⟩
 have HV0 := (show Hid (Rd .u8 w (.slice av cs.length cv) cs ∧ IsB cs ∧ cs.length ≤ 1048576) from ⟨hv0, hB0, by omega⟩)
 have HA := (show Hid (∀ (k : Nat) (n : Int) (wx : World), k ≤ 1048576 → IsI n → Same w wx → _) from fun k n wx hk hn hx => lwAt_any (.slice bv ms.length dv) ms k n wx hB1 (by omega) hk hn (hv1.same hx))
 have HKp := (show Hid (∀ (k : Nat) (wx : World), k ≤ 1000 → Same w wx → _) from fun k wx hk hx => keep_any (.slice bv ms.length dv) ms k wx hB1 (by omega) hk (hv1.same hx))
 have HE := hid hE
 clear hv0 hv1 hB0 hB1 hm0 hm1 hE
 generalize hcn : cs.length = cn at HV0 h0
 have HCN := hid hcn
 clear hcn
 generalize ms.length = mn at HA HKp h1
 obtain ⟨G, hG⟩ : ∃ G, w.heap.size = G := ⟨_, rfl⟩
 have hb1 := Blk.newL w [.int .i64 2, .int .i64 3, .int .i64 42] 24
 have hk1 : Same w (w.alloc (.cells #[.int .i64 2, .int .i64 3, .int .i64 42] 24)) := (Kept.refl _ _).alloc _
 rw [hG] at hb1
 go_enter Tryz.func3, Tryz.ntmps3
 go_upto_region 4 with fail
 try rw [hG]
 clear hG
 generalize w.alloc (.cells #[.int .i64 2, .int .i64 3, .int .i64 42] 24) = w1 at hb1 hk1 ⊢
 have HG1 := hid hb1
 have HK1 := hid hk1
 have g0 : w1.cell? ⟨G, 0, none⟩ = some (.int .i64 2) := hb1.cell 0
 have g1 : w1.cell? ⟨G, 1, none⟩ = some (.int .i64 3) := hb1.cell 1
 have g2 : w1.cell? ⟨G, 2, none⟩ = some (.int .i64 42) := hb1.cell 2
 clear hb1 hk1
 go_wp2_with fail
 refine (implFmt_any 2 3 42 a0 a1 a2 w1 (HE.out.same HK1.out)).mono ?_
 rintro e w2 ⟨da, dn, dc, rfl, hod, hfd, hk2⟩
 clear g0 g1 g2 hfd
 have HOD := hid hod
 have HK2 := hid (HK1.out.trans hk2)
 have HG2 := hid (HG1.out.same hk2)
 clear hod hk2 HG1 HK1 HE
 go_upto_region 5 with fail
 obtain ⟨Dx, hDx⟩ : ∃ D, w2.heap.size = D := ⟨_, rfl⟩
 have hb3 := Blk.newL w2 [.slice da dn dc, .slice none 0 0] 27
 have hk3 : Same w2 (w2.alloc (.cells #[.slice da dn dc, .slice none 0 0] 27)) := (Kept.refl _ _).alloc _
 rw [hDx] at hb3 ⊢
 generalize w2.alloc (.cells #[.slice da dn dc, .slice none 0 0] 27) = w3 at hb3 hk3 ⊢
 have HD3 := (show Hid (TpD w3 Dx da dn dc none 0 0 (fmtD 2 3 42)) from ⟨hb3, (HOD.out.rd).same hk3, fmt_len, by rw [fmt_page]; exact new_one.2.2.1, by rw [fmt_page]; exact new_one.1.2⟩)
 have HK3 := hid (HK2.out.trans hk3)
 have HG3 := hid (HG2.out.same hk3)
 have hDG : ¬ Dx = G := by have := HG2.out.lt; omega
 have HDW := (show Hid (w.heap.size ≤ Dx) from by show w.heap.size ≤ Dx; have := HK2.out.size; omega)
 clear hb3 hk3 HOD HK2 HG2 hDx
 go_wp2_with fail
 refine (implNew_any 1 w3).mono ?_
 rintro e w4 ⟨na, nc, rfl, _, hno, hk4⟩
 have hnl : (pageNew 1).length = 4096 := new_one.1.len
 have kS := implSeal_any (.slice na (pageNew 1).length nc) (pageNew 1) w4 new_one.1.2 (by rw [hnl]; decide) hno.rd
 have HK4 := hid (HK3.out.trans hk4)
 have HG4 := hid (HG3.out.same hk4)
 have HD4 := hid (HD3.out.same hk4)
 clear hno hk4 HK3 HG3 HD3
 rw [hnl] at kS ⊢
 clear hnl
 go_wp2_with fail
 refine kS.mono ?_
 rintro e w5 ⟨pa, pc, rfl, _, hpo, hk5⟩
 have hpl : (pageSeal (pageNew 1)).length = 4096 := (seal_sim new_one.1).q.len
 rw [hpl] at hpo ⊢
 have HPO := hid hpo
 have HK5 := hid (HK4.out.trans hk5)
 have HG5 := hid (HG4.out.same hk5)
 have HD5 := hid (HD4.out.same hk5)
 clear hpo hk5 HK4 HG4 HD4 kS hpl
 go_upto_region 7 with fail
 obtain ⟨Y, hY⟩ : ∃ Y, w5.heap.size = Y := ⟨_, rfl⟩
 have hb6 := Blk.newL w5 [] 51
 have hk6 : Same w5 (w5.alloc (.cells #[] 51)) := (Kept.refl _ _).alloc _
 rw [hY] at hb6
 try rw [hY]
 generalize w5.alloc (.cells #[] 51) = w6 at hb6 hk6 ⊢
 have HL6 := (show Hid (TpL w G Dx 0 (.slice (some ⟨Y, 0, none⟩) 0 0) (.slice pa 4096 pc) w6) from ⟨_, _, _, [], pa, pc, _, _, rfl, rfl, TpF.start hb6 (HPO.out.same hk6).rd, Onf.new (fun w' h => ⟨⟨_, _, _, _, _, _, _, HD5.out.same h⟩, HG5.out.same h⟩) hk6 (fun b e => by have := ownB_at e; omega), fun b e => by have := ownB_at e; have := HK5.out.size; omega, HK5.out.trans hk6⟩)
 clear hb6 hk6 hY HPO HK5 HG5 HD5
 go_wp2_with fail
 go_loopw [7, 8, 9, 10] (fun _ f p i wr => ∃ j : Nat, j ≤ 9 ∧ i = .int .i64 (j : Int) ∧ Hid (TpL w G Dx j f p wr)) (fun _ _ _ i _ => 10 - (intOf i).toNat)
 case atStart => exact ⟨0, by omega, rfl, HL6⟩
 case round =>
  clear HL6
  obtain ⟨j, hj, rfl, HL⟩ := hrel
  obtain ⟨fa, fn, fc, ps, pb, pd, P, Bg, rfl, rfl, hF, hD, hfr, hK⟩ := HL.out
  have HF := hid hF
  have HD := hid hD
  have HFR := hid hfr
  have HK := hid hK
  clear HL hF hD hfr hK
  go_wp2_with fail
  refine (HA.out 0 6 _ (by omega) (by constructor <;> decide) HK.out).mono ?_
  rintro e w7 ⟨r, rfl, hr, hk7⟩
  have hr2 := hr.2 (by decide)
  have HF7 := hid (HF.out.same hk7)
  have HD7 := hid (HD.out.same hk7)
  have HK7 := hid (HK.out.trans hk7)
  clear hr hk7 HF HD HK
  have qr : IntKind.i64.wrap (3 + r) = 3 + r := by rw [IntKind.wrap_i64]; omega
  by_cases hjr : (j : Int) < 3 + r
  case neg =>
   as_aux_lemma =>
   have hj9 := (show Hid (j ≤ 9) from by show j ≤ 9; omega)
   obtain ⟨⟨db, dm, dd, qa, qn, qc, dur, hD0⟩, hG0⟩ := HD7.out.here
   have HDD := hid hD0
   have HGG := hid hG0
   clear hD0 hG0 HD7 h0 h1 HCN hDG HDW HFR
   have kS := implSeal_any (.slice pb 4096 pd) P w7 HF7.out.good.2 (by have := HF7.out.good.len; omega) HF7.out.page
   obtain ⟨B, hB⟩ : ∃ B, pageSeal P = B := ⟨_, rfl⟩
   have hBl : B.length = 4096 := by rw [← hB]; exact (seal_sim HF7.out.good).q.len
   have hBw := seal_whole HF7.out.good
   rw [hB] at hBw
   rw [hB, hBl] at kS
   have HBL := hid hBl
   have HBW := hid hBw
   clear hB hBl hBw
   go_wp2_with fail
   refine kS.mono ?_
   rintro e w8 ⟨sa, sc, rfl, _, hso, hk8⟩
   clear kS hjr hr2 qr
   have HSO := hid hso.rd
   have HF8 := hid (HF7.out.same hk8)
   have HDD8 := hid (HDD.out.same hk8)
   have HGG8 := hid (HGG.out.same hk8)
   have HK8 := hid (HK7.out.trans hk8)
   clear hso hk8 HF7 HDD HGG HK7
   have d0 : w8.cell? ⟨Dx, 0, none⟩ = some (.slice db dm dd) := HDD8.out.box.cell 0
   have d1 : w8.cell? ⟨Dx, 1, none⟩ = some (.slice qa qn qc) := HDD8.out.box.cell 1
   have g0 : w8.cell? ⟨G, 0, none⟩ = some (.int .i64 2) := HGG8.out.cell 0
   have g1 : w8.cell? ⟨G, 1, none⟩ = some (.int .i64 3) := HGG8.out.cell 1
   have g2 : w8.cell? ⟨G, 2, none⟩ = some (.int .i64 42) := HGG8.out.cell 2
   have kP := implReadPage_any 2 3 42 1 (.slice db dm dd) (.slice qa qn qc) dur [] w8 HDD8.out.disk
   obtain ⟨W, hW⟩ : ∃ W, pgT 52 dur = W := ⟨_, rfl⟩
   have hWl : W.length = 4096 := by rw [← hW]; exact pgT_len HDD8.out.len
   rw [show dataP [] = [] from rfl, rd52 HDD8.out.len, hW, hWl] at kP
   have HW := hid hW
   have HWL := hid hWl
   clear hW hWl
   go_wp2_with fail
   refine kP.mono ?_
   rintro e w9 ⟨wa, wd, rfl, _, hwo, hk9⟩
   clear kP d0 d1 g0 g1 g2
   have HWO := hid hwo.rd
   have HSO9 := hid (HSO.out.same hk9)
   have HF9 := hid (HF8.out.same hk9)
   have HDD9 := hid (HDD8.out.same hk9)
   have HGG9 := hid (HGG8.out.same hk9)
   have HK9 := hid (HK8.out.trans hk9)
   clear hwo hk9 HSO HF8 HDD8 HGG8 HK8
   have g0 : w9.cell? ⟨G, 0, none⟩ = some (.int .i64 2) := HGG9.out.cell 0
   have g1 : w9.cell? ⟨G, 1, none⟩ = some (.int .i64 3) := HGG9.out.cell 1
   have g2 : w9.cell? ⟨G, 2, none⟩ = some (.int .i64 42) := HGG9.out.cell 2
   have kO := implPgOps_any 2 3 42 1 (.slice sa 4096 sc) B w9 (by rw [HBL.out]; decide) HSO9.out
   go_wp2_with fail
   refine kO.mono ?_
   rintro e w10 ⟨ov, rfl, oa, on, oc, os, rfl, hod, hof, hoo, hk10⟩
   clear kO g0 g1 g2
   obtain ⟨ho8, hon, hofm⟩ := ops_row HBL.out hod hoo
   subst hon
   have HOD := hid hod
   have HOF := hid hofm
   have HOO := hid hoo.rd
   have HWO10 := hid (HWO.out.same hk10)
   have HSO10 := hid (HSO9.out.same hk10)
   have HF10 := hid (HF9.out.same hk10)
   have HDD10 := hid (HDD9.out.same hk10)
   have HGG10 := hid (HGG9.out.same hk10)
   have HK10 := hid (HK9.out.trans hk10)
   clear hod hof hoo hofm ho8 hk10 HWO HSO9 HF9 HDD9 HGG9 HK9
   go_wp2_with fail
   refine (HA.out 1 9 _ (by omega) (by constructor <;> decide) HK10.out).mono ?_
   rintro e w11 ⟨r, rfl, hr, hk11⟩
   have hr2 := hr.2 (by decide)
   obtain ⟨k, rfl⟩ : ∃ k : Nat, r = (k : Int) := ⟨r.toNat, by omega⟩
   have HOO11 := hid (HOO.out.same hk11)
   have HWO11 := hid (HWO10.out.same hk11)
   have HSO11 := hid (HSO10.out.same hk11)
   have HF11 := hid (HF10.out.same hk11)
   have HDD11 := hid (HDD10.out.same hk11)
   have HGG11 := hid (HGG10.out.same hk11)
   have HK11 := hid (HK10.out.trans hk11)
   clear hr hr2 hk11 HA HOO HWO10 HSO10 HF10 HDD10 HGG10 HK10
   have d0 : w11.cell? ⟨Dx, 0, none⟩ = some (.slice db dm dd) := HDD11.out.box.cell 0
   have d1 : w11.cell? ⟨Dx, 1, none⟩ = some (.slice qa qn qc) := HDD11.out.box.cell 1
   have kR := implRunOps_any (.slice db dm dd) (.slice qa qn qc) dur [] (.slice oa 8 oc) os (k : Int) w11 (by rw [HDD11.out.len]; decide) (by simp) (fun p hp => by simp at hp) HDD11.out.disk HOF.out HOO11.out
   go_wp2_with fail
   refine kR.mono ?_
   rintro e w12 ⟨ra, rn, rc, ua, un, uc, rr, qs, rfl, hrun, _, hro, hk12⟩
   clear kR d0 d1
   rw [HOD.out] at hrun
   obtain ⟨rfl, hqs⟩ := run_some HDD11.out.len HBL.out hrun
   obtain ⟨K, hK⟩ : ∃ K, usedO (k : Int) 8 = K := ⟨_, rfl⟩
   have hK8 := usedO_le (k : Int) 8
   rw [hK] at hqs hK8
   obtain ⟨hq8, hq9⟩ := wr_small hqs HBL.out hK8
   have HQS := hid hqs
   have HK8 := hid hK8
   have HQ8 := hid hq8
   have HQ9 := hid hq9
   have HRO := hid hro.rd
   have HWO12 := hid (HWO11.out.same hk12)
   have HSO12 := hid (HSO11.out.same hk12)
   have HF12 := hid (HF11.out.same hk12)
   have HGG12 := hid (HGG11.out.same hk12)
   have HK12 := hid (HK11.out.trans hk12)
   have HDL := hid HDD11.out.len
   have HDW := (show Hid (pageWhole W = true ∧ IsB W) from by rw [← HW.out]; exact ⟨HDD11.out.whole, HDD11.out.isB⟩)
   clear hqs hK hK8 hq8 hq9 hro hrun hk12 HOO11 HOD HOF HWO11 HSO11 HF11 HDD11 HGG11 HK11
   generalize allO (k : Int) (datOpS os).length = ao
   generalize ((usedO (k : Int) (datOpS os).length : Nat) : Int) = uo
   have fld : ∀ wx : World, (Instr.field 42 (.agg #[.bool ao, .int .i64 uo, .slice ra rn rc, .slice ua un uc]) 2).run Tryz.prog wx = .ok (.agg #[.slice ra rn rc, .slice ua un uc]) wx := by intro wx; kernel_rfl
   go_wp2_with fail
   refine (HKp.out 2 _ (by omega) HK12.out).mono ?_
   rintro e w13 ⟨ka, kn, kc, ks, rfl, rfl, h60, hko, _, hk13⟩
   have kC := implCrash_any (.slice ra rn rc) (.slice ua un uc) rr qs (.slice ka ks.length kc) ks w13 (by rw [HDL.out]; decide) (by have := HQ8.out; omega) (fun p hp => by rw [HQ9.out p hp]; decide) (HRO.out.same hk13) (by rw [h60]; decide) hko.rd
   have HWO13 := hid (HWO12.out.same hk13)
   have HSO13 := hid (HSO12.out.same hk13)
   have HF13 := hid (HF12.out.same hk13)
   have HGG13 := hid (HGG12.out.same hk13)
   have HK13 := hid (HK12.out.trans hk13)
   clear hko hk13 fld HRO HKp HWO12 HSO12 HF12 HGG12 HK12 HQ8 HQ9
   rw [h60] at kC ⊢
   clear h60
   go_wp2_with fail
   refine kC.mono ?_
   rintro e w14 ⟨ea, en, ec, ga, gn, gc, nr, ns, rfl, hcr, _, heo, hk14⟩
   clear kC
   rw [HQS.out] at hcr
   obtain ⟨hnl, hns, hpt⟩ := crash_page HDL.out HBL.out HK8.out hcr
   obtain rfl := none_data hns
   have HNL := hid hnl
   have HPT := hid hpt
   have HEO := hid heo.rd
   have HWO14 := hid (HWO13.out.same hk14)
   have HSO14 := hid (HSO13.out.same hk14)
   have HF14 := hid (HF13.out.same hk14)
   have HGG14 := hid (HGG13.out.same hk14)
   have HK14 := hid (HK13.out.trans hk14)
   clear hcr hnl hns hpt heo hk14 HQS HK8 HDL HWO13 HSO13 HF13 HGG13 HK13
   go_upto_region 26 with fail
   obtain ⟨Ex, hEx⟩ : ∃ X, w14.heap.size = X := ⟨_, rfl⟩
   have hbE := Blk.newL w14 [.slice ea en ec, .slice ga gn gc] 27
   have hkE : Same w14 (w14.alloc (.cells #[.slice ea en ec, .slice ga gn gc] 27)) := (Kept.refl _ _).alloc _
   rw [hEx] at hbE ⊢
   generalize w14.alloc (.cells #[.slice ea en ec, .slice ga gn gc] 27) = w15 at hbE hkE ⊢
   have HEO15 := hid (HEO.out.same hkE)
   have HWO15 := hid (HWO14.out.same hkE)
   have HSO15 := hid (HSO14.out.same hkE)
   have HF15 := hid (HF14.out.same hkE)
   have HGG15 := hid (HGG14.out.same hkE)
   have HK15 := hid (HK14.out.trans hkE)
   have e0 : w15.cell? ⟨Ex, 0, none⟩ = some (.slice ea en ec) := hbE.cell 0
   have e1 : w15.cell? ⟨Ex, 1, none⟩ = some (.slice ga gn gc) := hbE.cell 1
   have g0 : w15.cell? ⟨G, 0, none⟩ = some (.int .i64 2) := HGG15.out.cell 0
   have g1 : w15.cell? ⟨G, 1, none⟩ = some (.int .i64 3) := HGG15.out.cell 1
   have g2 : w15.cell? ⟨G, 2, none⟩ = some (.int .i64 42) := HGG15.out.cell 2
   have kP := implReadPage_any 2 3 42 1 (.slice ea en ec) (.slice ga gn gc) nr [] w15 HEO15.out
   obtain ⟨V, hV⟩ : ∃ V, pgT 52 nr = V := ⟨_, rfl⟩
   have hVl : V.length = 4096 := by rw [← hV]; exact pgT_len HNL.out
   rw [show dataP [] = [] from rfl, rd52 HNL.out, hV, hVl] at kP
   have HPV := (show Hid (∀ i, i < 8 → parT V i = parT W i ∨ parT V i = parT B i) from by rw [← hV, ← HW.out]; exact HPT.out)
   have HVL := hid hVl
   have HVB := hid (got_page HDW.out.2 HBW.out.2 hVl HPV.out)
   clear hV hVl hbE hkE hEx HPT HNL HEO HEO15 HWO14 HSO14 HF14 HGG14 HK14 HW
   go_wp2_with fail
   refine kP.mono ?_
   rintro e w16 ⟨va, vc, rfl, _, hvo, hk16⟩
   clear kP e0 e1 g0 g1 g2
   have HVO := hid hvo.rd
   have HWO16 := hid (HWO15.out.same hk16)
   have HSO16 := hid (HSO15.out.same hk16)
   have HF16 := hid (HF15.out.same hk16)
   have HK16 := hid (HK15.out.trans hk16)
   clear hvo hk16 HWO15 HSO15 HF15 HGG15 HK15
   go_wp2_with fail
   go_loopw [24] (fun i wr => ∃ n I : Nat, n ≤ 8 ∧ I = 512 * n ∧ i = .int .i64 (I : Int) ∧ Hid (Same w16 wr)) (fun i _ => 4096 - (intOf i).toNat)
   case atStart => exact ⟨0, 0, by omega, rfl, rfl, hid (Kept.refl _ _)⟩
   case round =>
    as_aux_lemma =>
    obtain ⟨n, I, hn, hI, rfl, HR⟩ := hrel
    have HI := hid hI
    clear hI
    by_cases hnI : (I : Int) < 4096
    case neg =>
     as_aux_lemma =>
     have HVO2 := hid (HVO.out.same HR.out)
     have HWO2 := hid (HWO16.out.same HR.out)
     have HSO2 := hid (HSO16.out.same HR.out)
     have HF2 := hid (HF16.out.same HR.out)
     have HK2 := hid (HK16.out.trans HR.out)
     clear HVO HWO16 HSO16 HF16 HK16 HR HI HPV
     go_upto_region 37 with fail
     go_cut [23] (fun z wx => Hid (MxR V W B z wr wx))
     case first =>
      as_aux_lemma =>
      have kE1 := sameE_any (.slice va 4096 vc) (.slice wa 4096 wd) V W wr HVB.out HDW.out.2 HVO2.out HWO2.out
      by_cases e1 : V = W
      ·rw [decide_eq_true e1] at kE1
       have HE1 := hid e1
       clear e1
       go_wp2_with fail
       refine kE1.mono ?_
       rintro e w17 ⟨rfl, hk17⟩
       have HK17 := hid hk17
       clear hk17 kE1
       go_wp2_with fail
       go_meet
       case rel => exact ⟨HK17.out, .inr ⟨rfl, .inl HE1.out⟩⟩
      ·rw [decide_eq_false e1] at kE1
       clear e1
       go_wp2_with fail
       refine kE1.mono ?_
       rintro e w17 ⟨rfl, hk17⟩
       have HK17 := hid hk17
       clear kE1
       have kE2 := sameE_any (.slice va 4096 vc) (.slice sa 4096 sc) V B w17 HVB.out HBW.out.2 (HVO2.out.same hk17) (HSO2.out.same hk17)
       clear hk17
       by_cases e2 : V = B
       ·rw [decide_eq_true e2] at kE2
        have HE2 := hid e2
        clear e2
        go_wp2_with fail
        refine kE2.mono ?_
        rintro e w18 ⟨rfl, hk18⟩
        have HK18 := hid (HK17.out.trans hk18)
        clear hk18 kE2
        go_wp2_with fail
        go_meet
        case rel => exact ⟨HK18.out, .inr ⟨rfl, .inr HE2.out⟩⟩
       ·rw [decide_eq_false e2] at kE2
        clear e2
        go_wp2_with fail
        refine kE2.mono ?_
        rintro e w18 ⟨rfl, hk18⟩
        have HK18 := hid (HK17.out.trans hk18)
        clear hk18 kE2
        go_wp2_with fail
        go_meet
        case rel => exact ⟨HK18.out, .inl rfl⟩
     case rest =>
     as_aux_lemma =>
     obtain ⟨hk17, hz⟩ := hcut.out
     have HZ := hid hz
     have HK17 := hid hk17
     clear hcut hz hk17 HWO2 HSO2
     generalize wc = w17 at HK17 ⊢
     go_upto_region 38 with fail
     go_cut [191] (fun z wx => z = .bool false ∧ Hid (Same wr wx))
     case first =>
      as_aux_lemma =>
      rcases HZ.out with rfl | ⟨rfl, hVW⟩
      ·go_wp2_with fail
       go_meet
       case rel => exact ⟨rfl, HK17⟩
      ·have hwv : pageWhole V = true := by
        rcases hVW with e | e
        ·rw [e]; exact HDW.out.1
        ·rw [e]; exact HBW.out.1
       have kW := implWhole_any (.slice va 4096 vc) V w17 HVB.out (by rw [HVL.out]; decide) (HVO2.out.same HK17.out)
       rw [hwv] at kW
       clear hwv hVW
       go_wp2_with fail
       refine kW.mono ?_
       rintro e w18 ⟨rfl, hk18⟩
       have HK18 := hid (HK17.out.trans hk18)
       clear kW hk18
       go_wp2_with fail
       go_meet
       case rel => exact ⟨rfl, HK18⟩
     case rest =>
     as_aux_lemma =>
     obtain ⟨rfl, HK18⟩ := hcut
     clear HZ HK17 HVO2 HVL HWL HVB HBW HDW HBL
     generalize wc = w18 at HK18 ⊢
     have HF3 := hid (HF2.out.same HK18.out)
     have HK3 := hid (HK2.out.trans HK18.out)
     have HFO := hid (HF2.out.ok hj9.out)
     clear HF2 HK2 HK18
     have kL := implLast_any (.slice fa fn fc) ps 1 w18 HFO.out HF3.out.fr.rd
     have hBE := HF3.out.begins
     unfold Begins at hBE
     obtain ⟨LD, hLD⟩ : ∃ R, lastD' ps 1 = R := ⟨_, rfl⟩
     rw [hLD] at kL hBE
     clear hLD
     obtain ⟨lc, lb⟩ := LD
     dsimp only at kL hBE
     have HBE := hid hBE
     clear hBE
     go_wp2_with fail
     refine kL.mono ?_
     rintro e w19 ⟨la, le, rfl, _, hlo, hk19⟩
     clear kL
     obtain ⟨ln, hln⟩ : ∃ n, lb.length = n := ⟨_, rfl⟩
     rw [hln] at hlo ⊢
     have HLN := hid hln
     have HLO := hid hlo.rd
     have HF4 := hid (HF3.out.same hk19)
     have HK4 := hid (HK3.out.trans hk19)
     clear hln hlo hk19 HF3 HK3
     go_upto_region 41 with fail
     obtain ⟨Lx, hLx⟩ : ∃ X, w19.heap.size = X := ⟨_, rfl⟩
     have hbL := Blk.newL w19 [.int .i64 lc, .slice la ln le] 38
     have hkL : Same w19 (w19.alloc (.cells #[.int .i64 lc, .slice la ln le] 38)) := (Kept.refl _ _).alloc _
     rw [hLx] at hbL ⊢
     generalize w19.alloc (.cells #[.int .i64 lc, .slice la ln le] 38) = w20 at hbL hkL ⊢
     have HLO20 := hid (HLO.out.same hkL)
     have HF5 := hid (HF4.out.same hkL)
     have HK5 := hid (HK4.out.trans hkL)
     have l0 : w20.cell? ⟨Lx, 0, none⟩ = some (.int .i64 lc) := hbL.cell 0
     have l1 : w20.cell? ⟨Lx, 1, none⟩ = some (.slice la ln le) := hbL.cell 1
     clear hbL hkL hLx HLO HF4 HK4
     go_upto_if 198 with fail
     clear l0 l1
     go_cut [28] (fun z wx => Hid (BgR Bg z w20 wx))
     case first =>
      as_aux_lemma =>
      rcases HBE.out with h | ⟨h1, h2, h3⟩
      ·have e1 : lc = 0 := congrArg Prod.fst h
       have e2 : lb = Bg := congrArg Prod.snd h
       have e3 : ln = 4096 := by rw [← HLN.out, e2]; exact HF5.out.leads.good.len
       rw [e2] at HLO20
       subst e1 e3
       clear h e2 HBE HLN
       go_wp2_with fail
       go_meet
       case rel => exact ⟨_, _, rfl, HLO20.out, Kept.refl _ _⟩
      ·subst h1
       have HB3 := hid h3
       have kN := implNew_any 1 w20
       have hnl : (pageNew 1).length = 4096 := new_one.1.len
       rw [hnl] at kN
       clear h2 h3 hnl HBE HLN HLO20
       go_wp2_with fail
       refine kN.mono ?_
       rintro e w21 ⟨na, nc, rfl, _, hno, hk21⟩
       have HNO := hid hno.rd
       have HK21 := hid hk21
       clear kN hno hk21
       go_wp2_with fail
       go_meet
       case rel => exact ⟨_, _, rfl, by rw [HB3.out]; exact HNO.out, HK21.out⟩
     case rest =>
     as_aux_lemma =>
     obtain ⟨ba, bc, rfl, hbo, hk21⟩ := hcut.out
     have HBO := hid hbo
     have HF6 := hid (HF5.out.same hk21)
     have HK6 := hid (HK5.out.trans hk21)
     clear hcut hbo hk21 HF5 HK5 HBE HLN HLO20
     generalize wc = w21 at HBO HF6 HK6 ⊢
     have kR := implRedo_any (.slice ba 4096 bc) Bg 1 (.slice fa fn fc) ps 0 w21 HF6.out.leads.good.2 (by have := HF6.out.leads.good.len; omega) HBO.out HFO.out HF6.out.fr.rd
     obtain ⟨a1, a2, a3, a4⟩ := HF6.out.leads.all
     obtain ⟨RD, hRD⟩ : ∃ R, redoD Bg 1 (datFr ps) 0 = R := ⟨_, rfl⟩
     rw [hRD] at kR a1 a2 a3 a4
     clear hRD
     obtain ⟨dc, dp⟩ := RD
     dsimp only at kR a1 a2 a3 a4
     subst a1
     have hdl := a3.len
     unfold SetAns at kR
     rw [hdl] at kR
     have HA2 := hid a2
     have HA3 := hid a3
     have HA4 := hid a4
     clear a2 a3 a4 hdl HBO HFO
     go_wp2_with fail
     refine kR.mono ?_
     rintro e w22 ⟨xa, xc, rfl, _, hxo, hk22⟩
     clear kR
     have HXO := hid hxo.rd
     have HF7 := hid (HF6.out.same hk22)
     have HK7 := hid (HK6.out.trans hk22)
     clear hxo hk22 HF6 HK6
     go_upto_region 45 with fail
     obtain ⟨Rx, hRx⟩ : ∃ X, w22.heap.size = X := ⟨_, rfl⟩
     have hbR := Blk.newL w22 [.int .i64 0, .slice xa 4096 xc] 38
     have hkR : Same w22 (w22.alloc (.cells #[.int .i64 0, .slice xa 4096 xc] 38)) := (Kept.refl _ _).alloc _
     rw [hRx] at hbR ⊢
     generalize w22.alloc (.cells #[.int .i64 0, .slice xa 4096 xc] 38) = w23 at hbR hkR ⊢
     have HXO23 := hid (HXO.out.same hkR)
     have HPO23 := hid (HF7.out.page.same hkR)
     have HGP := hid HF7.out.good
     have HK8 := hid (HK7.out.trans hkR)
     have HRB := hid hbR
     have x0 : w23.cell? ⟨Rx, 0, none⟩ = some (.int .i64 0) := hbR.cell 0
     have x1 : w23.cell? ⟨Rx, 1, none⟩ = some (.slice xa 4096 xc) := hbR.cell 1
     have kL1 := implLSN_any (.slice xa 4096 xc) dp w23 HA3.out.2 (by have := HA3.out.len; omega) HXO23.out
     have kL2 := (show Hid (∀ wx, Same w23 wx → _) from fun wx hx => implLSN_any (.slice pb 4096 pd) P wx HGP.out.2 (by have := HGP.out.len; omega) (HPO23.out.same hx))
     rw [HA2.out] at kL1
     obtain ⟨Ls, hLs⟩ : ∃ L, pageLSN P = L := ⟨_, rfl⟩
     rw [hLs] at kL1 kL2
     have eL : (Ls != Ls) = false := by simp
     clear hbR hkR hRx hLs HXO HF7 HK7 HA2
     go_wp2_with fail
     refine kL1.mono ?_
     rintro e w24 ⟨rfl, hk24⟩
     clear kL1 x0 x1
     go_wp2_with fail
     refine (kL2.out w24 hk24).mono ?_
     rintro e w25 ⟨rfl, hk25⟩
     have HK25 := hid (hk24.trans hk25)
     clear kL2 hk24 hk25
     go_wp2_with fail
     clear eL
     go_loopw [30] (fun i wr2 => ∃ n : Nat, n ≤ 32 ∧ i = .int .i64 (n : Int) ∧ Hid (Same w23 wr2)) (fun i _ => 32 - (intOf i).toNat)
     case atStart => exact ⟨0, by omega, rfl, HK25⟩
     case round =>
      as_aux_lemma =>
      clear HK25
      obtain ⟨m, hm, rfl, HR2⟩ := hrel
      by_cases hm2 : (m : Int) < 32
      case neg =>
       have HKE := hid (HK8.out.trans HR2.out)
       go_wp2
       go_ret
       exact ⟨rfl, HKE.out⟩
      have hm3 : m < 32 := by omega
      have x1 := (HRB.out.same HR2.out).cell 1
      simp only [List.getElem?_cons_zero, List.getElem?_cons_succ] at x1
      have kG1 := implPageGet_any (.slice xa 4096 xc) dp (m : Int) _ HA3.out.2 (by have := HA3.out.len; omega) (HXO23.out.same HR2.out)
      have HE4 := hid (HA4.out m hm3)
      go_wp2_with fail
      refine kG1.mono ?_
      rintro e w26 ⟨y, rfl, hyd, _, hyo, hk26⟩
      clear kG1 x1
      obtain ⟨bu, ⟨bz, ga, gc, bd⟩⟩ := y
      have HYD := hid (hyd.trans HE4.out)
      have HYB := hid (get_small HA3.out hyd)
      have HYO := (show Hid (Rd .u8 w26 (.slice ga bd.length gc) bd) from (OwnL.of_one hyo).rd)
      have HR3 := hid (HR2.out.trans hk26)
      clear hyd hyo hk26 HR2 HE4
      dsimp only [StPageRecord.val, BS.v]
      have kG2 := implPageGet_any (.slice pb 4096 pd) P (m : Int) w26 HGP.out.2 (by have := HGP.out.len; omega) (HPO23.out.same HR3.out)
      obtain ⟨gn, hgn⟩ : ∃ n, bd.length = n := ⟨_, rfl⟩
      rw [hgn] at HYO ⊢
      clear hgn
      go_wp2_with fail
      refine kG2.mono ?_
      rintro e w27 ⟨y, rfl, hyd, _, hyo, hk27⟩
      clear kG2
      obtain ⟨bu2, ⟨bz2, ga2, gc2, bd2⟩⟩ := y
      have hpq := HYD.out.trans hyd.symm
      simp only [StPageRecord.dat, Prod.mk.injEq] at hpq
      obtain ⟨rfl, rfl⟩ := hpq
      have HYO2 := (show Hid (Rd .u8 w27 (.slice ga2 bd.length gc2) bd) from (OwnL.of_one hyo).rd)
      have HR4 := hid (HR3.out.trans hk27)
      dsimp only [StPageRecord.val, BS.v]
      obtain ⟨gm, hgm⟩ : ∃ n, bd.length = n := ⟨_, rfl⟩
      rw [hgm] at HYO2 ⊢
      have kS := sameRec_any bu ga ga2 gn gm gc gc2 bd w27 HYB.out.1 (HYO.out.same hk27) HYO2.out
      clear hgm hyd hyo hk27 HYD HYB HYO HYO2 HR3
      go_wp2_with fail
      refine kS.mono ?_
      rintro e w28 ⟨rfl, hk28⟩
      have HR5 := hid (HR4.out.trans hk28)
      clear kS hk28 HR4
      have qm : IntKind.i64.wrap ((m : Int) + 1) = ((m + 1 : Nat) : Int) := by rw [IntKind.wrap_i64]; omega
      go_wp2_with fail
      go_roundw
      case rel => exact ⟨m + 1, by omega, rfl, HR5⟩
      show 32 - ((m + 1 : Nat) : Int).toNat < 32 - (m : Int).toNat
      omega
    have hn8 : n < 8 := by have := HI.out; omega
    obtain ⟨A1, c1, r1, hr1⟩ := sec_slice HVO.out HVL.out n I hn8 HI.out
    obtain ⟨A2, c2, r2, hr2⟩ := sec_slice HWO16.out HWL.out n I hn8 HI.out
    obtain ⟨A3, c3, r3, hr3⟩ := sec_slice HSO16.out HBL.out n I hn8 HI.out
    have kE1 := (show Hid (∀ wx, Same w16 wx → _) from fun wx hx => sameE_any (.slice A1 512 c1) (.slice A2 512 c2) (parT V n) (parT W n) wx (isB_part HVB.out n) (isB_part HDW.out.2 n) (hr1.same hx) (hr2.same hx))
    have kE2 := (show Hid (∀ wx, Same w16 wx → _) from fun wx hx => sameE_any (.slice A1 512 c1) (.slice A3 512 c3) (parT V n) (parT B n) wx (isB_part HVB.out n) (isB_part HBW.out.2 n) (hr1.same hx) (hr3.same hx))
    have HOR := hid (HPV.out n hn8)
    obtain ⟨b1, hb1⟩ : ∃ b, decide (parT V n = parT W n) = b := ⟨_, rfl⟩
    obtain ⟨b2, hb2⟩ : ∃ b, decide (parT V n = parT B n) = b := ⟨_, rfl⟩
    rw [hb1] at kE1
    rw [hb2] at kE2
    have HBB := (show Hid (b1 = true ∨ b2 = true) from by
     rcases HOR.out with e | e
     ·exact .inl (by rw [← hb1]; exact decide_eq_true e)
     ·exact .inr (by rw [← hb2]; exact decide_eq_true e))
    clear hb1 hb2 HOR hr1 hr2 hr3
    have qI : IntKind.i64.wrap ((I : Int) + 512) = (I : Int) + 512 := by rw [IntKind.wrap_i64]; omega
    go_wp2_with fail
    refine wp_region_V (fun _ : World => True) 99 12 rfl (by kernel_rfl) ?_
    generalize hwd : World.drew wr = wd
    have HRd := (show Hid (Same w16 wd) from by rw [← hwd]; exact HR.out.drew)
    clear hwd HR
    have hS : (fun _ : World => True) wd := trivial
    refine tk 0 147 hS ?_
    refine tk 1 148 hS ?_
    refine tk 2 149 hS ?_
    refine tk 3 150 hS ?_
    refine tk 4 151 hS ?_
    refine tk 5 152 hS ?_
    refine tk 6 153 hS ?_
    refine tk 7 154 hS ?_
    refine tk 8 155 hS ?_
    refine tk 9 156 hS ?_
    refine wpAnyV_one (i := 10) (by kernel_rfl) rfl (fun Kc hKc => ?_)
    go_simp
    refine (kE1.out wd HRd.out).mono ?_
    rintro e w17 ⟨rfl, hkx⟩
    have HR := hid (HRd.out.trans hkx)
    clear hkx HRd hS
    have hS : (fun _ : World => True) w17 := trivial
    go_wp2_with fail
    refine hKc.out _ _ (fun _ => hS) ?_
    clear hKc Kc
    try simp only [Act.put, sA, s0, sS]
    refine wpAnyV_one (i := 11) (by kernel_rfl) rfl (fun Kc hKc => ?_)
    go_simp
    refine hKc.out _ _ (fun _ => hS) ?_
    clear hKc Kc hS
    refine wpAnyV_done (by kernel_rfl) ?_
    try simp only [Act.put, sA, s0, sS]
    go_wp2_with fail
    refine wp_region_V (fun _ : World => True) 99 12 rfl (by kernel_rfl) ?_
    generalize hwd : World.drew w17 = wd
    have HRd := (show Hid (Same w16 wd) from by rw [← hwd]; exact HR.out.drew)
    clear hwd HR
    have hS : (fun _ : World => True) wd := trivial
    refine tk 0 158 hS ?_
    refine tk 1 159 hS ?_
    refine tk 2 160 hS ?_
    refine tk 3 161 hS ?_
    refine tk 4 162 hS ?_
    refine tk 5 163 hS ?_
    refine tk 6 164 hS ?_
    refine tk 7 165 hS ?_
    refine tk 8 166 hS ?_
    refine tk 9 167 hS ?_
    refine wpAnyV_one (i := 10) (by kernel_rfl) rfl (fun Kc hKc => ?_)
    go_simp
    refine (kE2.out wd HRd.out).mono ?_
    rintro e w18 ⟨rfl, hkx⟩
    have HR := hid (HRd.out.trans hkx)
    clear hkx HRd hS
    have hS : (fun _ : World => True) w18 := trivial
    go_wp2_with fail
    refine hKc.out _ _ (fun _ => hS) ?_
    clear hKc Kc
    try simp only [Act.put, sA, s0, sS]
    refine wpAnyV_one (i := 11) (by kernel_rfl) rfl (fun Kc hKc => ?_)
    go_simp
    refine hKc.out _ _ (fun _ => hS) ?_
    clear hKc Kc hS
    refine wpAnyV_done (by kernel_rfl) ?_
    try simp only [Act.put, sA, s0, sS]
    clear kE1 kE2
    rcases HBB.out with rfl | rfl
    ·go_wp2_with fail
     go_roundw
     case rel => exact ⟨n + 1, I + 512, by omega, by have := HI.out; omega, by rw [show ((I + 512 : Nat) : Int) = (I : Int) + 512 from by omega], HR⟩
     show 4096 - ((I : Int) + 512).toNat < 4096 - (I : Int).toNat
     omega
    ·cases b1
     ·go_wp2_with fail
      go_roundw
      case rel => exact ⟨n + 1, I + 512, by omega, by have := HI.out; omega, by rw [show ((I + 512 : Nat) : Int) = (I : Int) + 512 from by omega], HR⟩
      show 4096 - ((I : Int) + 512).toNat < 4096 - (I : Int).toNat
      omega
     ·go_wp2_with fail
      go_roundw
      case rel => exact ⟨n + 1, I + 512, by omega, by have := HI.out; omega, by rw [show ((I + 512 : Nat) : Int) = (I : Int) + 512 from by omega], HR⟩
      show 4096 - ((I : Int) + 512).toNat < 4096 - (I : Int).toNat
      omega
  have HJ := (show Hid (j ≤ 8) from by show j ≤ 8; omega)
  have hu : IntKind.u8.wrap (j : Int) = (j : Int) := by rw [IntKind.wrap_u8]; omega
  have HV7 := hid (HV0.out.1.same HK7.out)
  have HO1 := hid (ownOne w7 (j : Int))
  have HVA := hid (HV0.out.1.same (HK7.out.alloc (.cells #[.int .u8 (j : Int)] 5)))
  go_wp2_with (at_builtin; go_loud (refine wpList_app rfl (.tmp 56) (.tmp 57) rfl (.slice (some ⟨w7.heap.size, 0, none⟩) 1 1) (.slice av cn cv) [(j : Int)] cs rfl rfl HO1.out HVA.out (by have := HV0.out.2.2; have := HCN.out; simp; omega) ?_); intro a3 n3 c3 w8 hown hgr)
  have hk8 : Same w7 w8 := ((Kept.refl _ _).alloc _).next hgr.kept (fun i hi e => by have := ownB_at e; omega)
  have hcs : ((j : Int) :: cs).length ≤ 1048577 := by have := HV0.out.2.2; have := HCN.out; simp; omega
  have hjB : IsB ((j : Int) :: cs) := fun x hx => by
   rcases List.mem_cons.1 hx with rfl | hx
   ·constructor <;> omega
   ·exact HV0.out.2.1 x hx
  have kD := drawSet_any (.slice a3 n3 c3) ((j : Int) :: cs) w8 hjB hcs hown.rd
  have HF8 := hid (HF7.out.same hk8)
  have HD8 := hid (HD7.out.same hk8)
  have HK8 := hid (HK7.out.trans hk8)
  clear hown hgr hk8 hcs hjB HF7 HD7 HK7 HV7 HO1 HVA hu
  refine kD.mono ?_
  rintro e w9 ⟨xb, xo, xn, xc, xs, s, u, ta, tc, d, lsn, rfl, _, _, _, _, hdl, hdb, hdr, hs, _, hk9⟩
  obtain ⟨dN, hdN⟩ : ∃ n, d.length = n := ⟨_, rfl⟩
  rw [hdN] at hdr hdl ⊢
  have hz := hk9.size
  have hfN := HF8.out.fr.lt
  have HFN := hid hfN
  have HDN := hid hdN
  have HDB := hid hdb
  have HDR := hid hdr
  have HF9 := hid (HF8.out.same hk9)
  have HD9 := hid (HD8.out.same hk9)
  have HK9 := hid (HK8.out.trans hk9)
  clear hfN hdN hdb hdr hk9 kD HF8 HD8 HK8
  go_upto_region 12 with fail
  obtain ⟨X, hX⟩ : ∃ X, w9.heap.size = X := ⟨_, rfl⟩
  have hbX := Blk.newL w9 [.bool u, .slice ta dN tc] 34
  have hkX : Same w9 (w9.alloc (.cells #[.bool u, .slice ta dN tc] 34)) := (Kept.refl _ _).alloc _
  rw [hX] at hbX ⊢
  generalize w9.alloc (.cells #[.bool u, .slice ta dN tc] 34) = w10 at hbX hkX ⊢
  have HX := hid hbX
  have HDR2 := hid (HDR.out.on (hkX.mono (fun _ _ h => h.elim)))
  have HF10 := hid (HF9.out.same hkX)
  have HD10 := hid (HD9.out.same hkX)
  have HK10 := hid (HK9.out.trans hkX)
  have hz10 : w8.heap.size ≤ X := by omega
  have x0 : w10.cell? ⟨X, 0, none⟩ = some (.bool u) := hbX.cell 0
  have x1 : w10.cell? ⟨X, 1, none⟩ = some (.slice ta dN tc) := hbX.cell 1
  have q1 : IntKind.i64.wrap (50 * (j : Int)) = 50 * (j : Int) := by rw [IntKind.wrap_i64]; have := HJ.out; omega
  have q2 : IntKind.i64.wrap (600 + 50 * (j : Int)) = 600 + 50 * (j : Int) := by rw [IntKind.wrap_i64]; have := HJ.out; omega
  have kS := implSet_any (.slice pb 4096 pd) P s u ta tc d (600 + 50 * (j : Int)) w10 HF10.out.good.2 (by have := HF10.out.good.len; omega) HF10.out.page (by have := HDN.out; omega) (by rw [HDN.out]; exact HDR2.out _ (Kept.refl _ _)) HDB.out
  obtain ⟨R, hR⟩ : ∃ R, pageSet P s u d (600 + 50 * (j : Int)) = R := ⟨_, rfl⟩
  rw [HDN.out, hR] at kS
  have HR := hid hR
  clear hbX hkX hX hz hR HDR HF9 HD9 HK9
  go_wp2_with fail
  refine kS.mono ?_
  rintro e w11 ⟨ya, yc, rfl, hyb, hyo, hk11⟩
  obtain ⟨cd, Q⟩ := R
  obtain ⟨yn, hyn⟩ : ∃ n, Q.length = n := ⟨_, rfl⟩
  dsimp only at hyo hyb ⊢
  rw [hyn] at hyo hyb ⊢
  have hX10 := HX.out.lt
  have HYN := hid hyn
  have HQ := hid hyo
  have HYB := hid hyb
  have hz11 := hk11.size
  have HX11 := hid (HX.out.same hk11)
  have HDR11 := hid (HDR2.out.on (hk11.mono (fun _ _ h => h.elim)))
  have HF11 := hid (HF10.out.same hk11)
  have HD11 := hid (HD10.out.same hk11)
  have HK11 := hid (HK10.out.trans hk11)
  clear kS x0 x1 q1 q2 hyb hyo hyn hk11 HX HDR2 HF10 HD10 HK10
  go_upto_region 14 with fail
  obtain ⟨Z, hZ⟩ : ∃ X, w11.heap.size = X := ⟨_, rfl⟩
  have hbZ := Blk.newL w11 [.int .i64 cd, .slice ya yn yc] 38
  have hkZ : Same w11 (w11.alloc (.cells #[.int .i64 cd, .slice ya yn yc] 38)) := (Kept.refl _ _).alloc _
  rw [hZ] at hbZ ⊢
  generalize w11.alloc (.cells #[.int .i64 cd, .slice ya yn yc] 38) = w12 at hbZ hkZ ⊢
  have HZ := hid hbZ
  have HQ12 := hid (HQ.out.same hkZ)
  have HX12 := hid (HX11.out.same hkZ)
  have HDR12 := hid (HDR11.out.on (hkZ.mono (fun _ _ h => h.elim)))
  have HF12 := hid (HF11.out.same hkZ)
  have HD12 := hid (HD11.out.same hkZ)
  have HK12 := hid (HK11.out.trans hkZ)
  have z0 : w12.cell? ⟨Z, 0, none⟩ = some (.int .i64 cd) := hbZ.cell 0
  have hXl : X < Z := by have := HX11.out.lt; omega
  clear hbZ hkZ hZ HQ HX11 HDR11 HF11 HD11 HK11
  have qj : IntKind.i64.wrap ((j : Int) + 1) = ((j + 1 : Nat) : Int) := by rw [IntKind.wrap_i64]; have := HJ.out; omega
  by_cases hcd : cd = 0
  case neg =>
   as_aux_lemma =>
   have hj8 := HJ.out
   go_wp2_with fail
   go_roundw
   case rel => exact ⟨j + 1, by omega, rfl, ⟨_, _, _, _, _, _, _, _, rfl, rfl, HF12.out.on, HD12.out, HFR.out, HK12.out⟩⟩
   show 10 - ((j + 1 : Nat) : Int).toNat < 10 - (j : Int).toNat
   omega
  obtain rfl := hcd
  have hy4 := set_len HF12.out.good HDB.out HR.out
  have hy5 := HYN.out
  rw [hy4] at hy5
  subst hy5
  clear hy4 HYN
  have HTX := (show Hid (Onf (.slice fa fn fc) w12 (TpX X Z u (.slice ta dN tc) (.slice ya 4096 yc) d Q)) from fun w' hk => ⟨HX12.out.kept hk (fun e => by have := HFN.out X e; omega), HZ.out.kept hk (fun e => by have := HFN.out Z e; omega), HDR12.out w' (hk.mono (fun b _ e => HFN.out b e)), (HQ12.out.kept hk (fun b hb e => by have := HFN.out b e; have := HYB.out b hb; omega)).rd⟩)
  clear HQ12 HX12 HDR12 HZ HYB HFN hXl hX10 hz10 hz11
  go_upto_if 76 with fail
  clear z0
  generalize ((j : Int) == 2) = bb
  go_cut [7, 8] (fun _ f wx => Hid (TpC w G Dx j pb pd P (TpX X Z u (.slice ta dN tc) (.slice ya 4096 yc) d Q) f wx))
  case first =>
   cases bb
   case false =>
    as_aux_lemma =>
    go_wp2_with fail
    go_meet
    case rel => exact ⟨_, _, _, _, _, rfl, HF12.out, HD12.out, HTX.out, HFR.out, HK12.out⟩
   obtain ⟨⟨db, dm, dd, qa, qn, qc, dur, hD0⟩, hG0⟩ := HD12.out.here
   have HDD := hid hD0
   have HGG := hid hG0
   have HPX := hid HTX.out.here
   clear hD0 hG0 HD12 HTX
   go_wp2_with fail
   refine wp_region_V (fun wx : World => (wx.cell? ⟨Dx, 0, none⟩ = some (.slice db dm dd) ∧ wx.cell? ⟨Dx, 1, none⟩ = some (.slice qa qn qc)) ∧ wx.cell? ⟨G, 0, none⟩ = some (.int .i64 2) ∧ wx.cell? ⟨G, 1, none⟩ = some (.int .i64 3) ∧ wx.cell? ⟨G, 2, none⟩ = some (.int .i64 42)) 8 9 rfl (by kernel_rfl) ?_
   generalize hwd : World.drew w12 = w13
   have hk13 : Same w12 w13 := by rw [← hwd]; exact (Kept.refl _ _).drew
   clear hwd
   have HF13 := hid (HF12.out.same hk13)
   have HDD13 := hid (HDD.out.same hk13)
   have HGG13 := hid (HGG.out.same hk13)
   have HPX13 := hid (HPX.out.same hk13)
   have HK13 := hid (HK12.out.trans hk13)
   have hS : (fun wx : World => (wx.cell? ⟨Dx, 0, none⟩ = some (.slice db dm dd) ∧ wx.cell? ⟨Dx, 1, none⟩ = some (.slice qa qn qc)) ∧ wx.cell? ⟨G, 0, none⟩ = some (.int .i64 2) ∧ wx.cell? ⟨G, 1, none⟩ = some (.int .i64 3) ∧ wx.cell? ⟨G, 2, none⟩ = some (.int .i64 42)) w13 := ⟨⟨HDD13.out.box.cell 0, HDD13.out.box.cell 1⟩, HGG13.out.cell 0, HGG13.out.cell 1, HGG13.out.cell 2⟩
   clear HF12 HDD HGG HPX HK12 hk13
   refine tk 0 77 hS ?_
   refine tk 1 78 hS ?_
   refine tk 2 79 hS ?_
   refine wpAnyV_one (i := 3) (by kernel_rfl) rfl (fun K hK => ?_)
   go_simp
   have kS := implSeal_any (.slice pb 4096 pd) P w13 HF13.out.good.2 (by have := HF13.out.good.len; omega) HF13.out.page
   obtain ⟨B, hB⟩ : ∃ B, pageSeal P = B := ⟨_, rfl⟩
   have hBl : B.length = 4096 := by rw [← hB]; exact (seal_sim HF13.out.good).q.len
   rw [hB, hBl] at kS
   have HB := hid hB
   have HBL := hid hBl
   clear hB hBl hS
   refine kS.mono ?_
   rintro e w14 ⟨sa, sc, rfl, _, hso, hk14⟩
   clear kS
   have HF14 := hid (HF13.out.same hk14)
   have HDD14 := hid (HDD13.out.same hk14)
   have HGG14 := hid (HGG13.out.same hk14)
   have HPX14 := hid (HPX13.out.same hk14)
   have HK14 := hid (HK13.out.trans hk14)
   clear HF13 HDD13 HGG13 HPX13 HK13 hk14
   have hS : (fun wx : World => (wx.cell? ⟨Dx, 0, none⟩ = some (.slice db dm dd) ∧ wx.cell? ⟨Dx, 1, none⟩ = some (.slice qa qn qc)) ∧ wx.cell? ⟨G, 0, none⟩ = some (.int .i64 2) ∧ wx.cell? ⟨G, 1, none⟩ = some (.int .i64 3) ∧ wx.cell? ⟨G, 2, none⟩ = some (.int .i64 42)) w14 := ⟨⟨HDD14.out.box.cell 0, HDD14.out.box.cell 1⟩, HGG14.out.cell 0, HGG14.out.cell 1, HGG14.out.cell 2⟩
   have HSO := hid hso
   clear hso
   go_wp2_with fail
   refine hK.out _ _ (fun _ => hS) ?_
   clear hK K
   try simp only [Act.put, sA, s0, sS]
   refine wpAnyV_one (i := 4) (by kernel_rfl) rfl (fun K hK => ?_)
   go_simp
   have kO := implPgOps_any 2 3 42 1 (.slice sa 4096 sc) B w14 (by rw [HBL.out]; decide) HSO.out.rd
   clear hS
   refine kO.mono ?_
   rintro e w15 ⟨ov, rfl, oa, on, oc, os, rfl, hod, hof, hoo, hk15⟩
   clear kO
   have HSO15 := hid (HSO.out.same hk15)
   have HF15 := hid (HF14.out.same hk15)
   have HDD15 := hid (HDD14.out.same hk15)
   have HGG15 := hid (HGG14.out.same hk15)
   have HPX15 := hid (HPX14.out.same hk15)
   have HK15 := hid (HK14.out.trans hk15)
   clear HF14 HDD14 HGG14 HPX14 HK14 hk15
   have hS : (fun wx : World => (wx.cell? ⟨Dx, 0, none⟩ = some (.slice db dm dd) ∧ wx.cell? ⟨Dx, 1, none⟩ = some (.slice qa qn qc)) ∧ wx.cell? ⟨G, 0, none⟩ = some (.int .i64 2) ∧ wx.cell? ⟨G, 1, none⟩ = some (.int .i64 3) ∧ wx.cell? ⟨G, 2, none⟩ = some (.int .i64 42)) w15 := ⟨⟨HDD15.out.box.cell 0, HDD15.out.box.cell 1⟩, HGG15.out.cell 0, HGG15.out.cell 1, HGG15.out.cell 2⟩
   have HOD := hid hod
   have HOO := hid hoo
   clear hod hof hoo HSO
   go_wp2_with fail
   refine hK.out _ _ (fun _ => hS) ?_
   clear hK K
   try simp only [Act.put, sA, s0, sS]
   refine wpAnyV_one (i := 5) (by kernel_rfl) rfl (fun K hK => ?_)
   go_simp
   obtain ⟨ho8, hon, hof⟩ := ops_row HBL.out HOD.out HOO.out
   have kR := implRunOps_any (.slice db dm dd) (.slice qa qn qc) dur [] (.slice oa on oc) os (-1) w15 (by rw [HDD15.out.len]; decide) (by simp) (fun p hp => by simp at hp) HDD15.out.disk hof HOO.out.rd
   clear hS ho8 hon hof
   refine kR.mono ?_
   rintro e w16 ⟨ra, rn, rc, ua, un, uc, rr, qs, rfl, hrun, _, hro, hk16⟩
   clear kR
   rw [HOD.out] at hrun
   obtain ⟨rfl, hqs⟩ := run_some HDD15.out.len HBL.out hrun
   have HSO16 := hid (HSO15.out.same hk16)
   have HF16 := hid (HF15.out.same hk16)
   have HDD16 := hid (HDD15.out.same hk16)
   have HGG16 := hid (HGG15.out.same hk16)
   have HPX16 := hid (HPX15.out.same hk16)
   have HK16 := hid (HK15.out.trans hk16)
   clear HF15 HDD15 HGG15 HPX15 HK15 hk16
   have hS : (fun wx : World => (wx.cell? ⟨Dx, 0, none⟩ = some (.slice db dm dd) ∧ wx.cell? ⟨Dx, 1, none⟩ = some (.slice qa qn qc)) ∧ wx.cell? ⟨G, 0, none⟩ = some (.int .i64 2) ∧ wx.cell? ⟨G, 1, none⟩ = some (.int .i64 3) ∧ wx.cell? ⟨G, 2, none⟩ = some (.int .i64 42)) w16 := ⟨⟨HDD16.out.box.cell 0, HDD16.out.box.cell 1⟩, HGG16.out.cell 0, HGG16.out.cell 1, HGG16.out.cell 2⟩
   have HRO := hid hro
   have HQS := hid hqs
   clear hro hqs hrun HSO15 HOO HOD
   go_wp2_with fail
   refine hK.out _ _ (fun _ => hS) ?_
   clear hK K
   try simp only [Act.put, sA, s0, sS]
   refine wpAnyV_one (i := 6) (by kernel_rfl) rfl (fun K hK => ?_)
   go_simp
   refine hK.out _ _ (fun _ => hS) ?_
   clear hK K
   try simp only [Act.put, sA, s0, sS]
   refine wpAnyV_one (i := 7) (by kernel_rfl) rfl (fun K hK => ?_)
   go_simp
   obtain ⟨hq8, hq9⟩ := wr_small HQS.out HBL.out (usedO_le _ _)
   have kY := implSync_any (.slice ra rn rc) (.slice ua un uc) rr qs w16 (by rw [HDD16.out.len]; decide) (by omega) (fun p hp => by rw [hq9 p hp]; decide) HRO.out.rd
   clear hS hq8 hq9
   refine kY.mono ?_
   rintro e w17 ⟨ea, en, ec, ga, gn, gc, nr, ns, rfl, hsy, hef, heo, hk17⟩
   clear kY
   rw [HQS.out] at hsy
   obtain ⟨hnl, hnp, hns⟩ := sync_all HDD16.out.len HBL.out hsy
   obtain rfl := none_data hns
   have HSO17 := hid (HSO16.out.same hk17)
   have HEF := (show Hid (∀ b, footD (.slice ea en ec) (.slice ga gn gc) [] b → ¬ b = Dx) from fun b hb e => by have := hef b hb; have := HDD16.out.box.lt; omega)
   have HF17 := hid (HF16.out.same hk17)
   have HDD17 := hid (HDD16.out.same hk17)
   have HGG17 := hid (HGG16.out.same hk17)
   have HPX17 := hid (HPX16.out.same hk17)
   have HK17 := hid (HK16.out.trans hk17)
   clear HF16 HDD16 HGG16 HPX16 HK16 hk17
   have hS : (fun wx : World => (wx.cell? ⟨Dx, 0, none⟩ = some (.slice db dm dd) ∧ wx.cell? ⟨Dx, 1, none⟩ = some (.slice qa qn qc)) ∧ wx.cell? ⟨G, 0, none⟩ = some (.int .i64 2) ∧ wx.cell? ⟨G, 1, none⟩ = some (.int .i64 3) ∧ wx.cell? ⟨G, 2, none⟩ = some (.int .i64 42)) w17 := ⟨⟨HDD17.out.box.cell 0, HDD17.out.box.cell 1⟩, HGG17.out.cell 0, HGG17.out.cell 1, HGG17.out.cell 2⟩
   have HEO := hid heo
   have HNL := hid hnl
   have HNP := hid hnp
   clear heo hef hnl hnp hns hsy HSO16 HRO HQS
   have f0 := HDD17.out.box.frozen 0
   have f1 := HDD17.out.box.frozen 1
   go_wp2_with fail
   refine hK.out _ _ (fun _ => hS) ?_
   clear hK K
   try simp only [Act.put, sA, s0, sS]
   refine wpAnyV_one (i := 8) (by kernel_rfl) rfl (fun K hK => ?_)
   go_simp
   refine hK.out _ _ (fun h => absurd rfl h) ?_
   clear hK K
   refine wpAnyV_done (by kernel_rfl) ?_
   try simp only [Act.put, sA, s0, sS]
   have hk18 : Kept (fun b => b = Dx) w17 ((w17.setCell ⟨Dx, 0, none⟩ (.slice ea en ec)).setCell ⟨Dx, 1, none⟩ (.slice ga gn gc)) := Kept.setCell (R := fun b => b = Dx) (Kept.setCell (R := fun b => b = Dx) (Kept.refl _ _) (p := ⟨Dx, 0, none⟩) (.inr rfl) _) (p := ⟨Dx, 1, none⟩) (.inr rfl) _
   have hb18 := (HDD17.out.box.stored 0 (.slice ea en ec)).stored 1 (.slice ga gn gc)
   generalize (w17.setCell ⟨Dx, 0, none⟩ (.slice ea en ec)).setCell ⟨Dx, 1, none⟩ (.slice ga gn gc) = w18 at hk18 hb18 ⊢
   have hsw := seal_whole HF17.out.good
   rw [HB.out] at hsw
   have HE18 := (show Hid (TpE Dx G w18) from ⟨⟨_, _, _, _, _, _, _, hb18, HEO.out.rd.kept hk18 (fun b hb => HEF.out b hb), HNL.out, by rw [HNP.out]; exact hsw.1, by rw [HNP.out]; exact hsw.2⟩, HGG17.out.kept hk18 (fun e => hDG e.symm)⟩)
   have HP18 := hid (rd_not HDD17.out.box (by simp) (by simp) HF17.out.page hk18)
   have HSO18 := hid (rd_not HDD17.out.box (by simp) (by simp) HSO17.out.rd hk18)
   have HX18 := hid (HPX17.out.box HDD17.out.box hk18)
   have HK18 := (show Hid (Same w w18) from HK17.out.next hk18 (fun i hi e => by have := HDW.out; omega))
   clear hS f0 f1 hk18 hb18 hsw HDD17 HGG17 HPX17 HK17 HEO HEF HNL HNP HSO17
   have kT := implSeal_any (.slice pb 4096 pd) P w18 HF17.out.good.2 (by have := HF17.out.good.len; omega) HP18.out
   rw [HB.out, HBL.out] at kT
   clear HSO18
   go_wp2_with fail
   refine kT.mono ?_
   rintro e w19 ⟨ia, ic, rfl, _, hio, hk19⟩
   clear kT
   have HIO := hid hio
   have HE19 := hid (HE18.out.same hk19)
   have HP19 := hid (HP18.out.same hk19)
   have HX19 := hid (HX18.out.same hk19)
   have HK19 := hid (HK18.out.trans hk19)
   clear hio hk19 HE18 HP18 HX18 HK18
   have q3 : IntKind.i64.wrap (600 + 50 * (j : Int) - 10) = 600 + 50 * (j : Int) - 10 := by rw [IntKind.wrap_i64]; have := HJ.out; omega
   go_wp2_with fail
   go_meet
   case rel => exact tpC_image (fun w' h => HX19.out.same h) HF17.out HB.out HBL.out HIO.out.rd HE19.out HP19.out HK19.out
  case rest =>
  as_aux_lemma =>
  clear HTX HF12 HD12 HFR HK12
  obtain ⟨fb, fm, fd, qs, Bg2, rfl, hF, hE, hX, hfr, hK⟩ := hcut.out
  have HF := hid hF
  have HE2 := hid hE
  have HX := hid hX
  have HFR := hid hfr
  have HK := hid hK
  clear hcut hF hE hX hfr hK
  go_wp2_with fail
  refine wp_region_V (fun wx : World => wx.cell? ⟨X, 0, none⟩ = some (.bool u) ∧ wx.cell? ⟨X, 1, none⟩ = some (.slice ta dN tc)) 99 12 rfl (by kernel_rfl) ?_
  generalize hwd : World.drew wc = w13
  have hk13 : Same wc w13 := by rw [← hwd]; exact (Kept.refl _ _).drew
  clear hwd
  have HF13 := hid (HF.out.same hk13)
  have HE13 := hid (HE2.out.same hk13)
  have HX13 := hid (HX.out.same hk13)
  have HK13 := hid (HK.out.trans hk13)
  clear HF HE2 HX HK hk13
  have hS : (fun wx : World => wx.cell? ⟨X, 0, none⟩ = some (.bool u) ∧ wx.cell? ⟨X, 1, none⟩ = some (.slice ta dN tc)) w13 := ⟨HX13.out.here.1.cell 0, HX13.out.here.1.cell 1⟩
  refine tk 0 93 hS ?_
  refine tk 1 94 hS ?_
  refine tk 2 95 hS ?_
  refine tk 3 96 hS ?_
  refine tk 4 97 hS ?_
  refine tk 6 99 hS ?_
  refine wpAnyV_one (i := 5) (by kernel_rfl) rfl (fun K hK => ?_)
  go_simp
  have kG := implPageGet_any (.slice pb 4096 pd) P s w13 HF13.out.good.2 (by have := HF13.out.good.len; omega) HF13.out.page
  clear hS
  refine kG.mono ?_
  rintro e w14 ⟨y, rfl, hyd, hyf, hyo, hk14⟩
  clear kG
  obtain ⟨bu, ⟨bz, ba, bc, bd⟩⟩ := y
  have hbl := get_small HF13.out.good hyd
  have hyo2 : Rd .u8 w14 (.slice ba bd.length bc) bd := (OwnL.of_one hyo).rd
  have HBF := (show Hid (∀ b, (Value.slice ba bd.length bc).ownBlock = some b → w13.heap.size ≤ b) from fun b hb => hyf b ((footL_ints _ _ _ _ _).2 hb))
  have HBO := (show Hid (Own 0 bz .u8 w14 (.slice ba bd.length bc) bd) from OwnL.of_one hyo)
  have HFL := hid HF13.out.fr.lt
  dsimp only [StPageRecord.val, BS.v]
  obtain ⟨bn, hbn⟩ : ∃ n, bd.length = n := ⟨_, rfl⟩
  rw [hbn] at HBF HBO hyo2 ⊢
  have HBN := hid hbn
  have HBL := hid hbl
  have HF14 := hid (HF13.out.same hk14)
  have HE14 := hid (HE13.out.same hk14)
  have HX14 := hid (HX13.out.same hk14)
  have HK14 := hid (HK13.out.trans hk14)
  have hz14 := hk14.size
  clear hyd hyf hyo hyo2 hbn hbl HF13 HE13 HX13 HK13 hk14
  have hS : (fun wx : World => wx.cell? ⟨X, 0, none⟩ = some (.bool u) ∧ wx.cell? ⟨X, 1, none⟩ = some (.slice ta dN tc)) w14 := ⟨HX14.out.here.1.cell 0, HX14.out.here.1.cell 1⟩
  go_wp2_with fail
  refine hK.out _ _ (fun _ => hS) ?_
  clear hK K
  try simp only [Act.put, sA, s0, sS]
  refine tkV 7 100 (.agg #[.int .i64 1, .int .i64 1, .int .i64 0, .int .i64 1, .int .i64 s, .bool bu, .slice ba bn bc, .bool u, .slice ta dN tc, .int .i64 0, .int .i64 0, .slice none 0 0, .slice none 0 0, .slice none 0 0]) hS ?_ (hy := fun wx _ => exec_build 49 [(0, .const (.int .i64 1)), (1, .const (.int .i64 1)), (3, .const (.int .i64 1)), (4, .tmp 95), (5, .tmp 98), (6, .tmp 99)] rfl [(0, .int .i64 1), (1, .int .i64 1), (3, .int .i64 1), (4, .int .i64 s), (5, .agg #[.bool bu, .slice ba bn bc]), (6, .agg #[.bool u, .slice ta dN tc])] rfl _ (by kernel_rfl))
  refine tkV 8 101 (.agg #[.int .i64 (600 + 50 * (j : Int)), .int .i64 1, .int .i64 1, .int .i64 1, .int .i64 0, .int .i64 1, .int .i64 s, .bool bu, .slice ba bn bc, .bool u, .slice ta dN tc, .int .i64 0, .int .i64 0, .slice none 0 0, .slice none 0 0, .slice none 0 0]) hS ?_ (hy := fun wx _ => exec_build 51 [(0, .tmp 94), (1, .const (.int .i64 1)), (2, .tmp 100)] rfl _ rfl _ (built_frame _ _ _ _ _ _ _ _ _ _ _ _ _ _ _ _))
  refine wpAnyV_one (i := 9) (by kernel_rfl) rfl (fun K hK => ?_)
  refine step_one rfl (.tmp 101) rfl rfl ?_
  have hb15 := Blk.newL w14 [.int .i64 (600 + 50 * (j : Int)), .int .i64 1, .int .i64 1, .int .i64 1, .int .i64 0, .int .i64 1, .int .i64 s, .bool bu, .slice ba bn bc, .bool u, .slice ta dN tc, .int .i64 0, .int .i64 0, .slice none 0 0, .slice none 0 0, .slice none 0 0] 51
  have hk15 : Same w14 (w14.alloc (.cells #[.int .i64 (600 + 50 * (j : Int)), .int .i64 1, .int .i64 1, .int .i64 1, .int .i64 0, .int .i64 1, .int .i64 s, .bool bu, .slice ba bn bc, .bool u, .slice ta dN tc, .int .i64 0, .int .i64 0, .slice none 0 0, .slice none 0 0, .slice none 0 0] 51)) := (Kept.refl _ _).alloc _
  obtain ⟨Y, hY⟩ : ∃ Y, w14.heap.size = Y := ⟨_, rfl⟩
  rw [hY] at hb15
  try rw [hY]
  generalize w14.alloc (.cells #[.int .i64 (600 + 50 * (j : Int)), .int .i64 1, .int .i64 1, .int .i64 1, .int .i64 0, .int .i64 1, .int .i64 s, .bool bu, .slice ba bn bc, .bool u, .slice ta dN tc, .int .i64 0, .int .i64 0, .slice none 0 0, .slice none 0 0, .slice none 0 0] 51) = w15 at hb15 hk15 ⊢
  have HB15 := hid hb15
  have HF15 := hid (HF14.out.same hk15)
  have HE15 := hid (HE14.out.same hk15)
  have HX15 := hid (HX14.out.same hk15)
  have HK15 := hid (HK14.out.trans hk15)
  have HBO15 := hid (HBO.out.same hk15)
  clear hS hb15 hk15 hY HF14 HE14 HX14 HK14 HBO
  have hS : (fun wx : World => wx.cell? ⟨X, 0, none⟩ = some (.bool u) ∧ wx.cell? ⟨X, 1, none⟩ = some (.slice ta dN tc)) w15 := ⟨HX15.out.here.1.cell 0, HX15.out.here.1.cell 1⟩
  refine hK.out _ _ (fun _ => hS) ?_
  clear hK K
  try simp only [Act.put, sA, s0, sS]
  refine wpAnyV_one (i := 10) (by kernel_rfl) rfl (fun K hK => ?_)
  refine step_addX (p := chgT (600 + 50 * (j : Int)) s bu ba bc bd u ta tc d) rfl (.tmp 93) (.tmp 102) (by rfl) (by rfl) (by rfl) (by rw [chgT_cells HBN.out HDN.out]; exact HB15.out) HF15.out.fr.own HF15.out.fr.len (by have := HF15.out.few; have := HJ.out; omega) ?_
  intro gF cF w16 hrow hg hat
  have hkf : Kept (fun b => (Value.slice fb fm fd).ownBlock = some b) w15 w16 := Kept.of_grown hg (fun k e => e)
  have HX16 := hid (HX15.out.app (n := fm + 1) (c := cF) hg hat)
  have HE16 := hid (HE15.out.app (n := fm + 1) (c := cF) hg hat)
  have HN16 := (show Hid (TpF w16 (j + 1) (some ⟨gF, 0, none⟩) (fm + 1) cF (qs ++ [chgT (600 + 50 * (j : Int)) s bu ba bc bd u ta tc d]) ya yc Q Bg2) from HF15.out.change HR.out HDB.out (by have := HDN.out; omega) HBL.out.1 HBL.out.2 (fun w' hw => chgT_rd HBN.out HDN.out (HBO15.out.kept hw (fun b hb e => by have h1 := HBF.out b hb; have h2 := HFL.out b e; omega)).rd ((HX15.out w' hw).2.2.1)) hrow hg hat HX16.out.here.2.2.2)
  have HFR16 := (show Hid (∀ b, (Value.slice (some ⟨gF, 0, none⟩) (fm + 1) cF).ownBlock = some b → w.heap.size ≤ b) from fun b hb => by
   have e2 : gF = b := (by simpa [Value.ownBlock] using hb)
   rcases hat with e | e
   ·exact HFR.out b (by rw [← e2]; exact e)
   ·have := HK15.out.size; omega)
  have HK16 := (show Hid (Same w w16) from HK15.out.next hkf (fun i hi e => by have := HFR.out i e; omega))
  clear hS hkf hrow hg hat HX15 HE15 HF15 HK15 HBO15 HBF HFL HBN HBL HB15 HFR HR HDN HDB hdl
  have hS : (fun wx : World => wx.cell? ⟨X, 0, none⟩ = some (.bool u) ∧ wx.cell? ⟨X, 1, none⟩ = some (.slice ta dN tc)) w16 := ⟨HX16.out.here.1.cell 0, HX16.out.here.1.cell 1⟩
  refine hK.out _ _ (fun _ => hS) ?_
  clear hK K
  try simp only [List.getElem_toArray, List.getElem_cons_succ, List.getElem_cons_zero]
  try simp only [Act.put, sA, s0, sS]
  refine wpAnyV_one (i := 11) (by kernel_rfl) rfl (fun K hK => ?_)
  go_simp
  refine hK.out _ _ (fun _ => hS) ?_
  clear hK K hS
  refine wpAnyV_done (by kernel_rfl) ?_
  try simp only [Act.put, sA, s0, sS]
  have z1 : w16.cell? ⟨Z, 1, none⟩ = some (.slice ya 4096 yc) := HX16.out.here.2.1.cell 1
  have hj8 := HJ.out
  go_wp2_with fail
  go_roundw
  case rel => exact ⟨j + 1, by omega, rfl, ⟨_, _, _, _, _, _, _, _, rfl, rfl, HN16.out, HE16.out, HFR16.out, HK16.out⟩⟩
  show 10 - ((j + 1 : Nat) : Int).toNat < 10 - (j : Int).toNat
  omega
end Go.Proofs.YtdbpaadndaoihaaGreatDoor
