import Derived.Test.YtepdakgfioffgaaGreatAzTl
import Derived.Test.YtepdakgfioffgaaGreatG15
import Derived.Test.YtepdakgfioffgaaGreatG04
import Derived.Deep.CutBlock
import Derived.Deep.RegionWith
import Derived.Deep.DeepMust
import Derived.Deep.DeepCutAuto
namespace Go.Proofs.YtepdakgfioffgaaGreat
set_option maxRecDepth 100000
set_option maxHeartbeats 16000000
set_option linter.unusedVariables false
set_option linter.unusedSimpArgs false
open Go Go.RowKit Go.MapKept
theorem frOne (p : StLogFrame) : (kFr.cells p).toArray.all (·.oneCell') = true := all_oneCell_toArray (fun v hv => by
 simp only [kFr, StLogFrame.cells, List.mem_cons, List.not_mem_nil, or_false] at hv
 rcases hv with rfl | rfl | rfl | rfl | rfl | rfl | rfl | rfl | rfl | rfl | rfl | rfl | rfl | rfl | rfl | rfl <;> rfl)
theorem fcI (p : StLogFrame) : FcI (kFr.cells p) (f6 p) := ⟨rfl, rfl, rfl, rfl, rfl, rfl, rfl, frOne p⟩
theorem implAnalyze_any (va : Option Addr) (vc : Nat) (ps : List StLogFrame) (en c : Int) (w : World) (rU : ∀ p ∈ ps, p.record.isB ∧ p.record.szs ≤ 1073741824) (EZ : ps.length ≤ 1048576) (Ku : ps.length ≤ vc) (hv : RdFr w (.slice va ps.length vc) ps) :
  Calls Tryz.prog 7 #[.agg #[.slice va ps.length vc, .int .i64 en], .int .i64 c] w fun e w' => ∃ y : StAnalysis, e = .returned y.val ∧ y.dat = azAns (datFr ps) en c ∧ (∀ b, FootL y.rows b → w.heap.size ≤ b) ∧ OwnL w' y.rows ∧ Same w w' := by
 obtain ⟨R, hR⟩ : ∃ R, azAns (datFr ps) en c = R := ⟨_, rfl⟩
 rw [hR]
 have HR := hid hR
 obtain ⟨L, hL⟩ : ∃ L, ps.length = L := ⟨_, rfl⟩
 have HV := hid hv
 have mU := hid rU
 rw [hL] at EZ Ku HV ⊢
 have HL := hid hL
 clear hL hv rU hR
 go_enter Tryz.func7, Tryz.ntmps7
 go_upto_region 1 with fail
 have bk := hid (sameA2 w [.slice va L vc, .int .i64 en] 34 [.int .i64 0, .int .i64 0, .int .i64 0, .int .i64 0, .slice none 0 0, .slice none 0 0, .slice none 0 0] 30)
 have mY := hid (Blk.newA w [.slice va L vc, .int .i64 en] 34 [.int .i64 0, .int .i64 0, .int .i64 0, .int .i64 0, .slice none 0 0, .slice none 0 0, .slice none 0 0] 30)
 have ry := hid (Blk.newB w [.slice va L vc, .int .i64 en] 34 [.int .i64 0, .int .i64 0, .int .i64 0, .int .i64 0, .slice none 0 0, .slice none 0 0, .slice none 0 0] 30)
 generalize (w.alloc (.cells #[.slice va L vc, .int .i64 en] 34)).alloc (.cells #[.int .i64 0, .int .i64 0, .int .i64 0, .int .i64 0, .slice none 0 0, .slice none 0 0, .slice none 0 0] 30) = w0 at *
 obtain ⟨S, hS⟩ : ∃ S, w.heap.size = S := ⟨_, rfl⟩
 obtain ⟨Z, hZ⟩ : ∃ Z, w.heap.size + 1 = Z := ⟨_, rfl⟩
 rw [hZ] at ry ⊢
 rw [hS] at mY ⊢
 have lV : w.heap.size ≤ S := by omega
 have nX : w.heap.size < Z := by omega
 have T0 : S < Z := by omega
 clear hS hZ
 obtain ⟨s0, s1⟩ := mY.out.all2
 go_wp2_with fail
 refine (implFindCk_any (.slice va L vc) ps c w0 (HV.out.same bk.out)).mono ?_
 rintro e w1 ⟨rfl, bg⟩
 have bq := hid (bk.out.trans bg)
 have qo := hid (mY.out.same bg)
 have lx := hid (ry.out.same bg)
 clear bg bk mY ry s0 s1
 rcases lr : bgAt (fs6 ps) c with _ | k
 ·have qm := hid lr
  rw [bgR_none lr]
  clear lr
  go_upto_region 3 with fail
  obtain ⟨kj, iK, iZ⟩ := bad9 lx.out bq.out nX 1
  have jg := (show Hid (R = azBad 1) from by rw [← HR.out]; exact azAns_1 qm.out)
  refine wp_bsA 18 30 _ _ Z (cA 1).toArray rfl rfl rfl rfl rfl rfl (fun wx => by kernel_rfl) rfl rfl kj.out infoAn (by simp [cA, Value.oneCell']) ?_
  generalize w1.setCells Z 0 (cA 1).toArray.toList = W9 at iK iZ ⊢
  go_wp2
  exact bodyPost_ret (v := .agg (cA 1).toArray) (endZA Tryz.results7 rfl iK.out.rangeAll Tryz.underlying30 rfl infoAn) rfl ⟨badA 1, rfl, jg.out.symm, fun b hb => (badA_foot _ b hb).elim, badA_own _ _, iZ.out⟩
 rw [bgR_some lr]
 have qm := hid lr
 obtain ⟨bg, l0⟩ := bgAt_is lr
 have J6 : k + 1 < L := by rw [fs6_length, HL.out] at bg; exact bg
 have fy := hid l0
 have A8 : ¬ (k : Int) = -1 := by omega
 have KH : ((k : Int) == -1) = false := by simp [A8]
 clear bg l0 lr
 obtain ⟨b, off, ha, hc⟩ := RdFr.cs HL.out HV.out (by omega)
 subst ha
 have je := hid hc
 have RX : b < w.heap.size := block_lt_of_cell (hc.lsn 0 (by rw [HL.out]; omega))
 clear hc
 obtain ⟨s0, s1⟩ := qo.out.all2
 go_wp2_with fail
 refine (containsS_any (some ⟨b, off, none⟩) vc L ps w1 HL.out mU.out (HV.out.same bq.out)).mono ?_
 rintro e w2 ⟨rfl, eC⟩
 have cw := hid (bq.out.trans eC)
 have mb := hid (qo.out.same eC)
 have nc := hid (lx.out.same eC)
 clear eC bq qo lx s0 s1
 obtain ⟨s0, s1⟩ := mb.out.all2
 cases hA : ps.any strayD with
 | true =>
  have Cq := hid hA
  clear hA
  go_upto_region 5 with fail
  obtain ⟨kj, iK, iZ⟩ := bad9 nc.out cw.out nX 2
  have jg := (show Hid (R = azBad 2) from by rw [← HR.out]; exact azAns_2 qm.out (by rw [Cq.out, Bool.true_or]))
  refine wp_bsA 27 30 _ _ Z (cA 2).toArray rfl rfl rfl rfl rfl rfl (fun wx => by kernel_rfl) rfl rfl kj.out infoAn (by simp [cA, Value.oneCell']) ?_
  generalize w2.setCells Z 0 (cA 2).toArray.toList = W9 at iK iZ ⊢
  go_wp2
  exact bodyPost_ret (v := .agg (cA 2).toArray) (endZA Tryz.results7 rfl iK.out.rangeAll Tryz.underlying30 rfl infoAn) rfl ⟨badA 2, rfl, jg.out.symm, fun b hb => (badA_foot _ b hb).elim, badA_own _ _, iZ.out⟩
 | false =>
 have Cq := hid hA
 clear hA
 go_wp2_with fail
 refine (neighF_any (some ⟨b, off, none⟩) vc L ps w2 HL.out EZ (HV.out.same cw.out)).mono ?_
 rintro e w3 ⟨rfl, ix⟩
 have dZ := hid (cw.out.trans ix)
 have l8 := hid (mb.out.same ix)
 have pJ := hid (nc.out.same ix)
 clear ix cw mb nc s0 s1
 cases hB : nbg fAfter (fs5 ps) with
 | true =>
  have AV := hid hB
  clear hB
  go_upto_region 5 with fail
  obtain ⟨kj, iK, iZ⟩ := bad9 pJ.out dZ.out nX 2
  have jg := (show Hid (R = azBad 2) from by rw [← HR.out]; exact azAns_2 qm.out (by rw [AV.out, Bool.or_true]))
  refine wp_bsA 27 30 _ _ Z (cA 2).toArray rfl rfl rfl rfl rfl rfl (fun wx => by kernel_rfl) rfl rfl kj.out infoAn (by simp [cA, Value.oneCell']) ?_
  generalize w3.setCells Z 0 (cA 2).toArray.toList = W9 at iK iZ ⊢
  go_wp2
  exact bodyPost_ret (v := .agg (cA 2).toArray) (endZA Tryz.results7 rfl iK.out.rangeAll Tryz.underlying30 rfl infoAn) rfl ⟨badA 2, rfl, jg.out.symm, fun b hb => (badA_foot _ b hb).elim, badA_own _ _, iZ.out⟩
 | false =>
 have Df : Hid ((ps.any strayD || nbg fAfter (fs5 ps)) = false) := by unfold Hid; rw [Cq.out, hB]; rfl
 have pV : Hid (∀ (m : Nat) (h : m < ps.length), strayD ps[m] = false) := fun m h => by
  have h1 := Cq.out
  rw [List.any_eq_false] at h1
  have h2 := h1 ps[m] (List.getElem_mem h)
  simpa using h2
 clear hB Cq
 obtain ⟨s0, s1⟩ := l8.out.all2
 go_upto_region 7 with fail
 obtain ⟨m, hm⟩ : ∃ m, k + 2 = m := ⟨_, rfl⟩
 have e2 : (k : Int) + 2 = (m : Int) := by omega
 rw [e2]
 have FO : m ≤ L := by omega
 have j4 := hid hm
 have SQ : k + 1 < m := by omega
 clear e2 KH A8
 go_wp2_with fail
 refine (implKept_any (.slice (some ⟨b, off, none⟩) L vc) ps m w3 (by rw [HL.out]; exact FO) (by omega) (HV.out.same dZ.out)).mono ?_
 rintro e w4 ⟨rfl, kl⟩
 have fA := hid (dZ.out.trans kl)
 have nQ := hid (l8.out.same kl)
 have AP := hid (pJ.out.same kl)
 clear kl dZ l8 pJ s0 s1
 obtain ⟨n, hn⟩ : ∃ n, kpN (fs6 ps) m ps.length = n := ⟨_, rfl⟩
 rw [hn]
 have qO : Hid (kpN (fs6 ps) (k + 2) ps.length = n) := by unfold Hid; rw [hm]; exact hn
 have Ia : n ≤ L := by rw [← hn, ← HL.out]; exact kpN_le _ _ _
 have UV : m ≤ n := by rw [← hn]; exact kpN_least _ _ _ (by rw [HL.out]; exact FO)
 clear hn hm
 obtain ⟨s0, s1⟩ := nQ.out.all2
 have jy : k + 1 < ps.length := by rw [HL.out]; exact J6
 obtain ⟨P0, xX⟩ : ∃ P0, ps.getD (k + 1) zFr = P0 := ⟨_, rfl⟩
 have sd : ps[k + 1] = P0 := by rw [← xX, List.getD_eq_getElem?_getD, List.getElem?_eq_getElem jy]; rfl
 obtain ⟨cs, dY⟩ : ∃ cs, recCells P0.record = cs := ⟨_, rfl⟩
 have gW : Hid (w4.rangeAt b (off + (k + 1) * 16 + 2) cs) := by unfold Hid; rw [← dY, ← sd]; exact (je.out.same fA.out).rec (k + 1) jy
 have jw : Hid (cs.length = 14) := by unfold Hid; rw [← dY]; rfl
 have HI : Hid ((Tryz.prog.info? 49).map (·.size) = some cs.length) := by unfold Hid; rw [jw.out]; kernel_rfl
 have l6 : Hid (cs[10]? = some (.int .i64 P0.record.nT) ∧ cs[11]? = some (.slice P0.record.txns.a P0.record.txns.n P0.record.txns.c) ∧ cs[12]? = some (.slice P0.record.dirty.a P0.record.dirty.n P0.record.dirty.c)) := by unfold Hid; rw [← dY]; exact ⟨rfl, rfl, rfl⟩
 have A2 := hid xX
 have nC : Hid (StLogRecord.rd w P0.record) := by unfold Hid; rw [← sd]; exact HV.out.data _ (List.getElem_mem jy)
 have mY : Hid (strayD P0 = false) := by unfold Hid; rw [← sd]; exact pV.out (k + 1) jy
 have bk : Hid (P0.record.kind = 7) := by
  unfold Hid
  rw [← sd]
  have h := fy.out
  rw [fs6_at ps (k + 1) jy] at h
  exact h
 have ji : Hid (AzOk (dTab P0.dat)) := dTab_ok mY.out bk.out ⟨_, nC.out.2.2.1.2.1⟩ ⟨_, nC.out.2.2.2.1.2.1⟩
 have cv : Hid (AzB (dTab P0.dat)) := dTab_b mY.out bk.out ⟨_, nC.out.2.2.1.2.1⟩ ⟨_, nC.out.2.2.2.1.2.1⟩
 have CB : (k : Int) + 1 < (L : Int) := by omega
 have Nh := (show Hid (Calls Tryz.prog 29 #[.agg cs.toArray] w4 fun e w' => OpnR w4 w' (dTab P0.dat) e) from by
  have h4 : flat4 (dTab P0.dat).tx = P0.record.txns.bs := flat4_quad _ _ nC.out.2.2.1.2.1
  have h2 : flat2 (dTab P0.dat).dy = P0.record.dirty.bs := flat2_duo _ _ nC.out.2.2.2.1.2.1
  have hx : RdF 4 w4 ⟨P0.record.txns.e, P0.record.txns.a, P0.record.txns.n, P0.record.txns.c, flat4 (dTab P0.dat).tx⟩ := by rw [h4]; exact (nC.out.2.2.1).same fA.out
  have hy : RdF 2 w4 ⟨P0.record.dirty.e, P0.record.dirty.a, P0.record.dirty.n, P0.record.dirty.c, flat2 (dTab P0.dat).dy⟩ := by rw [h2]; exact (nC.out.2.2.2.1).same fA.out
  exact openTables_any w4 cs P0.record.nT P0.record.txns.e P0.record.dirty.e _ _ _ _ _ _ (dTab P0.dat).tx (dTab P0.dat).dy jw.out l6.out.1 l6.out.2.1 l6.out.2.2 hx hy ji.out.tx ji.out.dy)
 clear xX sd dY nC l6 mY bk
 go_wp2_with (refine wpList_load_mid rfl 49 _ rfl b (off + (k + 1) * 16 + 2) rfl cs _ gW.out Tryz.underlying49 rfl HI.out ?_)
 refine Nh.out.mono ?_
 rintro e w5 ⟨T, rfl, E5, n0⟩
 obtain ⟨S0, Ai⟩ : ∃ S0, dTab P0.dat = S0 := ⟨_, rfl⟩
 rw [Ai] at E5 ji cv
 have qN := hid Ai
 obtain ⟨b0, bY⟩ : ∃ x, w4.heap.size = x := ⟨_, rfl⟩
 rw [bY] at E5
 have TG : w.heap.size ≤ b0 := by have := fA.out.size; omega
 have Vx : S < b0 := by have := nQ.out.lt; omega
 have Vv : Z < b0 := by have := AP.out.lt; omega
 have CM := hid E5
 have fM := hid (fA.out.trans n0)
 have oL := hid (nQ.out.same n0)
 have Au := hid (AP.out.same n0)
 clear Ai bY E5 n0 fA nQ AP Nh gW HI jw s0 s1
 obtain ⟨s0, s1⟩ := oL.out.all2
 have TD : (m : Int) ≤ (n : Int) := by omega
 have F9 : (n : Int) ≤ (vc : Int) := by omega
 have RQ : (m : Int) ≤ (vc : Int) := by omega
 obtain ⟨a7, uE⟩ : ∃ a7 : Option Addr, (if vc = m then some (⟨b, off, none⟩ : Addr) else some ⟨b, off + m * 16, none⟩) = a7 := ⟨_, rfl⟩
 go_upto_block 0 with fail
 obtain ⟨q, hq⟩ : ∃ q, n - m = q := ⟨_, rfl⟩
 rw [hq]
 have Ja := (show Hid (0 < q → a7 = some ⟨b, off + m * 16, none⟩) from fun h => by rw [← uE, if_neg (by omega)])
 have Rb : m + q = n := by omega
 have Qf := hid Rb
 have UR : m + q ≤ L := by omega
 clear uE hq TD F9 RQ Rb s0 s1 CB
 go_wp2_with fail
 go_loopw [48] (fun i wr => ∃ (j : Nat) (s : AzS), j ≤ q ∧ i = .int .i64 j ∧ Hid (azF S0 (((fs6 ps).take (m + j)).drop m) = some s) ∧ Hid (TabM wr b0 T s) ∧ Hid (Blk wr S 34 [.slice (some ⟨b, off, none⟩) L vc, .int .i64 en]) ∧ Hid (Blk wr Z 30 [.int .i64 0, .int .i64 0, .int .i64 0, .int .i64 0, .slice none 0 0, .slice none 0 0, .slice none 0 0]) ∧ Hid (Same w wr)) (fun i _ => q - (intOf i).toNat)
 case atStart => exact ⟨0, S0, Nat.zero_le _, rfl, by unfold Hid; rw [Nat.add_zero, drop_take_self]; rfl, CM, oL, Au, fM⟩
 case round =>
  clear CM oL Au fM
  obtain ⟨j, s, hj, rfl, pY, lJ, mX, lB, ef⟩ := hrel
  have LQ := (show Hid (AzOk s) from azF_ok ji.out pY.out)
  have EK := (show Hid (AzB s) from azF_b cv.out (good_part pV.out) pY.out)
  by_cases dh : j < q
  ·have og : m + j < ps.length := by rw [HL.out]; omega
   have e7 := Ja.out (by omega)
   subst e7
   obtain ⟨fc, tK⟩ : ∃ x, kFr.cells ps[m + j] = x := ⟨_, rfl⟩
   obtain ⟨f, rh⟩ : ∃ q, f6 ps[m + j] = q := ⟨_, rfl⟩
   have Cs : Hid (FcI fc f) := by unfold Hid; rw [← tK, ← rh]; exact fcI _
   have Fc : Hid (GF f) := by unfold Hid; rw [← rh]; exact stray_GF (pV.out (m + j) og)
   have qz : Hid (azT s f = none → R = azBad 2) := fun h => by
    rw [← HR.out]
    refine azAns_3 (n := n) qm.out Df.out qO.out ?_
    rw [A2.out, qN.out, j4.out]
    exact azF_stop (j := m + j) (by omega) (by have := Qf.out; omega) (by rw [HL.out]; exact Ia) pY.out og (by rw [rh]; exact h)
   have uc : Hid (∀ s', azT s f = some s' → azF S0 (((fs6 ps).take (m + (j + 1))).drop m) = some s') := fun s' h => azF_on (j := m + j) (by omega) pY.out og (by rw [rh]; exact h)
   have gW : Hid (wr.rangeAt b (off + m * 16 + j * 16) fc) := by
    unfold Hid
    have h := (je.out.same ef.out).row (m + j) og
    rw [tK, show off + (m + j) * 16 = off + m * 16 + j * 16 from by omega] at h
    exact h
   have jw : Hid (fc.length = 16) := Cs.out.len
   have iW : Hid (fc.toArray.all (·.oneCell') = true) := Cs.out.one
   have HI : Hid ((Tryz.prog.info? 51).map (·.size) = some fc.length) := by unfold Hid; rw [jw.out]; kernel_rfl
   have Ug : (j : Int) < (q : Int) := by omega
   clear tK rh pY Ja
   go_upto_region 12 with (first | (refine wpList_load_mid rfl 51 _ rfl b (off + m * 16 + j * 16) rfl fc _ gW.out Tryz.underlying51 rfl HI.out ?_) | (refine wpList_store_mid rfl 51 _ _ rfl wr.heap.size 0 fc.toArray rfl rfl ((Blk.new wr _ _).there 0 _ (by rw [List.size_toArray, jw.out]; decide)) (by rw [List.size_toArray, jw.out]; kernel_rfl) iW.out ?_; rw [List.toList_toArray]))
   generalize hW : World.setCells _ wr.heap.size 0 fc = w6
   have eg : Blk w6 wr.heap.size 51 fc ∧ Same wr w6 := by rw [← hW]; exact box_newX wr _ fc _ (by rw [jw.out]; rfl)
   obtain ⟨hb, hk⟩ := eg
   clear hW
   have oN := hid (lJ.out.same hk)
   have BX := hid (mX.out.same hk)
   have uA := hid (lB.out.same hk)
   have jd := hid (ef.out.trans hk)
   obtain ⟨FB, gH⟩ : ∃ FB, wr.heap.size = FB := ⟨_, rfl⟩
   rw [gH] at hb ⊢
   have Mu : Hid (w6.rangeAt FB 0 fc) := hb.rangeAll
   clear gH hk hb lJ mX lB ef gW
   go_wp2_with (refine wpList_load_mid rfl 51 _ rfl FB 0 rfl fc _ Mu.out Tryz.underlying51 rfl HI.out ?_)
   refine (take_any w6 b0 T s fc f Cs.out oN.out LQ.out Fc.out).mono ?_
   rintro e w7 ⟨hk, hr⟩
   have tL := hk.low
   have tM := hid (BX.out.kept tL (by omega))
   have xE := hid (uA.out.kept tL (by omega))
   have Dh := hid (jd.out.next tL (fun i hi e => by omega))
   clear hk tL BX uA jd oN Mu
   rcases hr with ⟨hn, rfl⟩ | ⟨s', nA, rfl, hT⟩
   ·have HN := (show Hid (R = azBad 2) from qz.out hn)
    clear hn
    go_upto_region 13 with fail
    obtain ⟨kj, iK, iZ⟩ := bad9 xE.out Dh.out nX 2
    have jg := (show Hid (R = azBad 2) from by rw [← HR.out]; rw [HR.out]; exact HN.out)
    refine wp_bsA 56 30 _ _ Z (cA 2).toArray rfl rfl rfl rfl rfl rfl (fun wx => by kernel_rfl) rfl rfl kj.out infoAn (by simp [cA, Value.oneCell']) ?_
    generalize w7.setCells Z 0 (cA 2).toArray.toList = W9 at iK iZ ⊢
    go_wp2
    exact bodyPost_ret (v := .agg (cA 2).toArray) (endZA Tryz.results7 rfl iK.out.rangeAll Tryz.underlying30 rfl infoAn) rfl ⟨badA 2, rfl, jg.out.symm, fun b hb => (badA_foot _ b hb).elim, badA_own _ _, iZ.out⟩
   ·have HN := hid (uc.out _ nA)
    have vt := hid hT
    clear nA hT
    go_wp2
    go_roundw
    case rel => exact ⟨j + 1, s', by omega, by go_num, HN, vt, tM, xE, Dh⟩
    case measure => simp [intOf]; omega
  ·obtain rfl : q = j := by omega
   have mD := (show Hid (R = (0, (n : Int), if n < ps.length then (ps.getD n zFr).lsn else en, s.nx, flat4 s.tx, flat2 s.dy, s.im)) from by
    rw [← HR.out]
    refine azAns_4 qm.out Df.out qO.out ?_
    rw [A2.out, qN.out, j4.out, ← Qf.out]
    exact pY.out)
   clear pY Ja
   go_wp2_with fail
   refine (tell_any wr b0 T s lJ.out LQ.out EK.out).mono ?_
   rintro e w8 ⟨y, rfl, BM, An, AH, nR⟩
   obtain ⟨yc, yf, ye, yn, ⟨e4, ta, tn, tc, tb⟩, ⟨AR, da, dn, dc, db⟩, ⟨e1, ia, il, ic, ib⟩⟩ := y
   simp only [StAnalysis.dat, Prod.mk.injEq] at BM
   obtain ⟨rfl, rfl, rfl, rfl, rfl, rfl, rfl⟩ := BM
   dsimp only [StAnalysis.val, FR.v]
   have zg := (show Hid (∀ b, FootL (StAnalysis.rows ⟨0, 0, 0, s.nx, ⟨e4, ta, tn, tc, flat4 s.tx⟩, ⟨AR, da, dn, dc, flat2 s.dy⟩, ⟨e1, ia, il, ic, s.im⟩⟩) b → wr.heap.size ≤ b ∧ b < w8.heap.size) from fun b hb => ⟨An b hb, AH.lt b hb⟩)
   have U7 := lB.out.lt
   have j5 := sameA w8 [.int .i64 0, .int .i64 0, .int .i64 0, .int .i64 s.nx, .slice ta tn tc, .slice da dn dc, .slice ia il ic] 30
   have iK := hid (Blk.newL w8 [.int .i64 0, .int .i64 0, .int .i64 0, .int .i64 s.nx, .slice ta tn tc, .slice da dn dc, .slice ia il ic] 30)
   have pB := hid (AH.same j5)
   have iZ := hid ((mX.out.same nR).same j5)
   have Ep := hid ((lB.out.same nR).same j5)
   have tV := hid ((ef.out.trans nR).trans j5)
   have S8 := nR.size
   clear An AH nR j5 mX lB ef lJ
   go_upto_region 16 with fail
   generalize w8.alloc (.cells #[.int .i64 0, .int .i64 0, .int .i64 0, .int .i64 s.nx, .slice ta tn tc, .slice da dn dc, .slice ia il ic] 30) = w9 at *
   obtain ⟨O, hO⟩ : ∃ O, w8.heap.size = O := ⟨_, rfl⟩
   rw [hO] at iK zg S8 ⊢
   have AQ := (show Hid (∀ b, FootL (StAnalysis.rows ⟨0, 0, 0, s.nx, ⟨e4, ta, tn, tc, flat4 s.tx⟩, ⟨AR, da, dn, dc, flat2 s.dy⟩, ⟨e1, ia, il, ic, s.im⟩⟩) b → Z < b ∧ b ≠ O) from fun b hb => by have := zg.out b hb; omega)
   have Sg : Z < O := by omega
   clear hO zg
   obtain ⟨s0, s1⟩ := iZ.out.all2
   refine wp_region_V (fun wx : World => wx.cell? ⟨S, 1, none⟩ = some (.int .i64 en)) 99 7 rfl (by kernel_rfl) ?_
   have hd : Same w9 w9.drew := (Kept.refl _ _).drew
   generalize w9.drew = wa at *
   have hS : (fun wx : World => wx.cell? ⟨S, 1, none⟩ = some (.int .i64 en)) wa := hd.cellOf s1 id
   refine tk 0 60 hS ?_
   refine tk 1 61 hS ?_
   refine tk 2 62 hS ?_
   refine tk 3 63 hS ?_
   have CV := hid (iK.out.same hd)
   have ba := CV.out.c1
   have bf := CV.out.frozen
   have bl := CV.out.lt
   refine wpAnyV_one (i := 4) (by kernel_rfl) rfl (fun Kc hK => ?_)
   go_simp
   have Ke : Kept (fun b => b = O) wa (wa.setCell ⟨O, 1, none⟩ (.int .i64 n)) := Kept.setCell (R := fun b => b = O) (Kept.refl _ _) (p := ⟨O, 1, none⟩) (.inr rfl) _
   have hS : (fun wx : World => wx.cell? ⟨S, 1, none⟩ = some (.int .i64 en)) (wa.setCell ⟨O, 1, none⟩ (.int .i64 n)) := Ke.cellOf hS (by dsimp only; omega)
   refine hK.out _ _ (fun _ => hS) ?_
   clear hK Kc
   try simp only [Act.put, sA, s0, sS]
   have xr := (show Hid (Blk (wa.setCell ⟨O, 1, none⟩ (.int .i64 n)) O 30 [.int .i64 0, .int .i64 n, .int .i64 0, .int .i64 s.nx, .slice ta tn tc, .slice da dn dc, .slice ia il ic]) from CV.out.stored 1 _)
   have Ql := (show Hid (Kept (fun b => b = O) w9 (wa.setCell ⟨O, 1, none⟩ (.int .i64 n))) from (hd.mono (fun _ _ e => e.elim)).trans Ke)
   clear Ke ba bf bl CV hd
   generalize wa.setCell ⟨O, 1, none⟩ (.int .i64 n) = wb at *
   refine tk 5 64 hS ?_
   have ba := xr.out.c2
   have bf := xr.out.frozen
   have bl := xr.out.lt
   refine wpAnyV_one (i := 6) (by kernel_rfl) rfl (fun Kc hK => ?_)
   go_simp
   have KL : Kept (fun b => b = O) wb (wb.setCell ⟨O, 2, none⟩ (.int .i64 en)) := Kept.setCell (R := fun b => b = O) (Kept.refl _ _) (p := ⟨O, 2, none⟩) (.inr rfl) _
   refine hK.out _ _ (fun _ => KL.cellOf hS (by dsimp only; omega)) ?_
   clear hK Kc
   refine wpAnyV_done (by kernel_rfl) ?_
   try simp only [Act.put, sA, s0, sS]
   have Ef := (show Hid (Blk (wb.setCell ⟨O, 2, none⟩ (.int .i64 en)) O 30 [.int .i64 0, .int .i64 n, .int .i64 en, .int .i64 s.nx, .slice ta tn tc, .slice da dn dc, .slice ia il ic]) from xr.out.stored 2 _)
   have iy := Ql.out.trans KL
   have tO := hid (pB.out.kept iy (fun b hb e => (AQ.out b hb).2 e))
   have zi := hid (iZ.out.kept iy (by omega))
   have yN := hid (Ep.out.kept iy (by omega))
   have ra := hid (tV.out.next iy (fun i hi e => by omega))
   clear KL iy ba bf bl xr Ql hS s0 s1 pB iZ Ep tV iK
   generalize wb.setCell ⟨O, 2, none⟩ (.int .i64 en) = qW at *
   obtain ⟨s0, s1⟩ := zi.out.all2
   by_cases hnl : n < L
   ·have FL : n < ps.length := by rw [HL.out]; exact hnl
    have F9 : (n : Int) < (L : Int) := by omega
    obtain ⟨X, hX⟩ : ∃ X, ps[n].lsn = X := ⟨_, rfl⟩
    have cl : qW.cell? ⟨b, off + n * 16, none⟩ = some (.int .i64 X) := by rw [← hX]; exact (je.out.same ra.out).lsn n FL
    have IP : Hid (R = (0, (n : Int), X, s.nx, flat4 s.tx, flat2 s.dy, s.im)) := by
     unfold Hid
     rw [mD.out, if_pos FL]
     have h1 : ps.getD n zFr = ps[n] := by rw [List.getD_eq_getElem?_getD, List.getElem?_eq_getElem FL]; rfl
     rw [h1, hX]
    have nW : Kept (fun b => b = O) qW (qW.setCell ⟨O, 2, none⟩ (.int .i64 X)) := Kept.setCell (R := fun b => b = O) (Kept.refl _ _) (p := ⟨O, 2, none⟩) (.inr rfl) _
    have TI := (show Hid (Blk (qW.setCell ⟨O, 2, none⟩ (.int .i64 X)) O 30 [.int .i64 0, .int .i64 n, .int .i64 X, .int .i64 s.nx, .slice ta tn tc, .slice da dn dc, .slice ia il ic]) from Ef.out.stored 2 _)
    have ED := hid (tO.out.kept nW (fun b hb e => (AQ.out b hb).2 e))
    have Do := hid (yN.out.kept nW (by omega))
    have Sv := hid (ra.out.next nW (fun i hi e => by omega))
    have ba := Ef.out.c2
    have bf := Ef.out.frozen
    have bl := Ef.out.lt
    clear hX nW mD
    have kj := (show Hid ((qW.setCell ⟨O, 2, none⟩ (.int .i64 X)).there Z 0 7) from Do.out.there 0 7 (by decide))
    obtain ⟨cs, dY⟩ : ∃ cs : List Value, [.int .i64 0, .int .i64 n, .int .i64 X, .int .i64 s.nx, .slice ta tn tc, .slice da dn dc, .slice ia il ic] = cs := ⟨_, rfl⟩
    have qT : Blk ((qW.setCell ⟨O, 2, none⟩ (.int .i64 X)).setCells Z 0 cs) Z 30 cs := blk_putA Do.out _ (by rw [← dY]; rfl)
    have jw : Hid (cs.length = 7) := by unfold Hid; rw [← dY]; rfl
    have iW : Hid (cs.toArray.all (·.oneCell') = true) := by unfold Hid; rw [← dY]; simp [Value.oneCell']
    have HI : Hid ((Tryz.prog.info? 30).map (·.size) = some cs.length) := by unfold Hid; rw [jw.out]; kernel_rfl
    have gW : Hid ((qW.setCell ⟨O, 2, none⟩ (.int .i64 X)).rangeAt O 0 cs) := by unfold Hid; rw [← dY]; exact TI.out.rangeAll
    have iK := hid qT
    have iZ := (show Hid (Same w ((qW.setCell ⟨O, 2, none⟩ (.int .i64 X)).setCells Z 0 cs)) from Kept.setCells (.inl (Nat.le_of_lt nX)) _ _ Sv.out)
    have zZ := (show Hid (OwnL ((qW.setCell ⟨O, 2, none⟩ (.int .i64 X)).setCells Z 0 cs) _) from ED.out.kept (R := fun b => b = Z) (Kept.setCells (R := fun b => b = Z) (.inr rfl) _ _ (Kept.refl (fun b => b = Z) _)) (fun b hb e => by have := (AQ.out b hb).1; omega))
    have l6 := hid dY
    clear qT dY
    go_wp2_with (first | (refine wpList_load_mid rfl 30 _ rfl O 0 rfl cs _ gW.out Tryz.underlying30 rfl HI.out ?_) | (refine wpList_store_mid rfl 30 _ _ rfl Z 0 cs.toArray rfl rfl (by rw [List.size_toArray, jw.out]; exact kj.out) (by rw [List.size_toArray, jw.out]; kernel_rfl) iW.out ?_; rw [List.toList_toArray]))
    refine bodyPost_ret (v := .agg cs.toArray) ?_ rfl ?_
    ·exact endZA Tryz.results7 rfl iK.out.rangeAll Tryz.underlying30 rfl HI.out
    ·refine ⟨⟨0, n, X, s.nx, ⟨e4, ta, tn, tc, flat4 s.tx⟩, ⟨AR, da, dn, dc, flat2 s.dy⟩, ⟨e1, ia, il, ic, s.im⟩⟩, ?_, IP.out.symm, fun b hb => by have := (AQ.out b hb).1; omega, zZ.out, iZ.out⟩
     rw [← l6.out]
     rfl
   ·have F9 : ¬ (n : Int) < (L : Int) := by omega
    have IP : Hid (R = (0, (n : Int), en, s.nx, flat4 s.tx, flat2 s.dy, s.im)) := by
     unfold Hid
     rw [mD.out, if_neg (by rw [HL.out]; exact hnl)]
    clear mD
    have kj := (show Hid (qW.there Z 0 7) from yN.out.there 0 7 (by decide))
    obtain ⟨cs, dY⟩ : ∃ cs : List Value, [.int .i64 0, .int .i64 n, .int .i64 en, .int .i64 s.nx, .slice ta tn tc, .slice da dn dc, .slice ia il ic] = cs := ⟨_, rfl⟩
    have qT : Blk (qW.setCells Z 0 cs) Z 30 cs := blk_putA yN.out _ (by rw [← dY]; rfl)
    have jw : Hid (cs.length = 7) := by unfold Hid; rw [← dY]; rfl
    have iW : Hid (cs.toArray.all (·.oneCell') = true) := by unfold Hid; rw [← dY]; simp [Value.oneCell']
    have HI : Hid ((Tryz.prog.info? 30).map (·.size) = some cs.length) := by unfold Hid; rw [jw.out]; kernel_rfl
    have gW : Hid (qW.rangeAt O 0 cs) := by unfold Hid; rw [← dY]; exact Ef.out.rangeAll
    have iK := hid qT
    have iZ := (show Hid (Same w (qW.setCells Z 0 cs)) from Kept.setCells (.inl (Nat.le_of_lt nX)) _ _ ra.out)
    have zZ := (show Hid (OwnL (qW.setCells Z 0 cs) _) from tO.out.kept (R := fun b => b = Z) (Kept.setCells (R := fun b => b = Z) (.inr rfl) _ _ (Kept.refl (fun b => b = Z) _)) (fun b hb e => by have := (AQ.out b hb).1; omega))
    have l6 := hid dY
    clear qT dY
    go_wp2_with (first | (refine wpList_load_mid rfl 30 _ rfl O 0 rfl cs _ gW.out Tryz.underlying30 rfl HI.out ?_) | (refine wpList_store_mid rfl 30 _ _ rfl Z 0 cs.toArray rfl rfl (by rw [List.size_toArray, jw.out]; exact kj.out) (by rw [List.size_toArray, jw.out]; kernel_rfl) iW.out ?_; rw [List.toList_toArray]))
    refine bodyPost_ret (v := .agg cs.toArray) ?_ rfl ?_
    ·exact endZA Tryz.results7 rfl iK.out.rangeAll Tryz.underlying30 rfl HI.out
    ·refine ⟨⟨0, n, en, s.nx, ⟨e4, ta, tn, tc, flat4 s.tx⟩, ⟨AR, da, dn, dc, flat2 s.dy⟩, ⟨e1, ia, il, ic, s.im⟩⟩, ?_, IP.out.symm, fun b hb => by have := (AQ.out b hb).1; omega, zZ.out, iZ.out⟩
     rw [← l6.out]
     rfl
theorem eqLogFrameS_own (va vb : Value) (ps qs : List StLogFrame) (w : World) (hn : ps.length ≤ 1125899906842624) (hs : datFr ps = datFr qs) (Et : ∀ p ∈ ps, p.size ≤ 1125899906842624)
  (ha : OwnFr w va ps) (hb : OwnFr w vb qs) :
  Calls Tryz.prog 35 #[va, vb] w fun e w' => e = .returned (.bool true) ∧ Same w w' := by
 have gN : qs.length = ps.length := by rw [← datFr_length, ← datFr_length, hs]
 by_cases hz : ps.length = 0
 ·obtain rfl : ps = [] := List.length_eq_zero_iff.1 hz
  obtain rfl : qs = [] := List.length_eq_zero_iff.1 gN
  obtain ⟨aa, ca, rfl⟩ : ∃ aa ca, va = .slice aa 0 ca := by rcases ha.own.form with ⟨rfl, _⟩ | ⟨g, cap, rfl, _⟩ <;> exact ⟨_, _, rfl⟩
  obtain ⟨ab, cb, rfl⟩ : ∃ aa ca, vb = .slice aa 0 ca := by rcases hb.own.form with ⟨rfl, _⟩ | ⟨g, cap, rfl, _⟩ <;> exact ⟨_, _, rfl⟩
  clear ha hb hn hz hs
  go_enter Tryz.func35, Tryz.ntmps35
  go_wp2
  refine wp_loop_rounds 1 ?_
  rw [rounds_succ]
  go_wp2
  go_ret
  exact ⟨rfl, Kept.refl _ _⟩
 ·obtain ⟨ga, ca, rfl⟩ : ∃ g cap, va = .slice (some ⟨g, 0, none⟩) ps.length cap := by
   rcases ha.own.form with ⟨_, h⟩ | ⟨g, cap, h, _⟩
   ·simp [h] at hz
   ·exact ⟨g, cap, h⟩
  obtain ⟨gb, cb, rfl⟩ : ∃ g cap, vb = .slice (some ⟨g, 0, none⟩) ps.length cap := by
   rcases hb.own.form with ⟨_, h⟩ | ⟨g, cap, h, _⟩
   ·simp [h] at gN; omega
   ·exact ⟨g, cap, by rw [h, gN]⟩
  have HA := hid ha
  have HB := hid hb
  have HQ : Hid (qs.length = ps.length) := gN
  have HS : Hid (datFr ps = datFr qs) := hs
  have HM : Hid (∀ p ∈ ps, p.size ≤ 1125899906842624) := Et
  clear ha hb hs gN Et
  generalize hl : ps.length = len at hn hz HA HB ⊢
  have HL : Hid (ps.length = len) := hl
  clear hl
  go_enter Tryz.func35, Tryz.ntmps35
  go_wp2
  go_loopw [5] (fun i wr => ∃ (k : Nat), k ≤ len ∧ i = .int .i64 k ∧ Hid (Same w wr)) (fun i _ => len - (intOf i).toNat)
  case atStart => exact ⟨0, Nat.zero_le _, rfl, Kept.refl _ _⟩
  case round =>
   obtain ⟨k, hk, rfl, HK⟩ := hrel
   by_cases dh : k < len
   ·have gV : k < ps.length := by rw [HL.out]; exact dh
    have nO : k < qs.length := by rw [HQ.out]; exact gV
    have jO := (HA.out.same HK.out).own
    have kq := (HB.out.same HK.out).own
    have Fg := datFr_at HS.out k gV nO
    have s3 := HM.out _ (List.getElem_mem gV)
    have fE := (HA.out.same HK.out).rows.mem _ (List.getElem_mem gV)
    have fT := (HB.out.same HK.out).rows.mem _ (List.getElem_mem nO)
    obtain ⟨P, hP⟩ : ∃ P, ps[k] = P := ⟨_, rfl⟩
    obtain ⟨Q, hQ⟩ : ∃ Q, qs[k] = Q := ⟨_, rfl⟩
    rw [hP] at Fg s3 fE
    rw [hQ] at Fg fT
    have zJ : wr.cell? ⟨ga, k * 16, none⟩ = some (.int .i64 P.lsn) := by have h := jO.cell HL.out.symm k 0 gV (by decide); rw [hP] at h; exact h
    have zm : wr.cell? ⟨ga, k * 16 + 1, none⟩ = some (.int .i64 P.epoch) := by have h := jO.cell HL.out.symm k 1 gV (by decide); rw [hP] at h; exact h
    have A9 : wr.cell? ⟨ga, k * 16 + 2, none⟩ = some (.int .i64 P.record.kind) := by have h := jO.cell HL.out.symm k 2 gV (by decide); rw [hP] at h; exact h
    have Bv : wr.cell? ⟨ga, k * 16 + 3, none⟩ = some (.int .i64 P.record.txn) := by have h := jO.cell HL.out.symm k 3 gV (by decide); rw [hP] at h; exact h
    have I1 : wr.cell? ⟨ga, k * 16 + 4, none⟩ = some (.int .i64 P.record.prev) := by have h := jO.cell HL.out.symm k 4 gV (by decide); rw [hP] at h; exact h
    have Kb : wr.cell? ⟨ga, k * 16 + 5, none⟩ = some (.int .i64 P.record.page) := by have h := jO.cell HL.out.symm k 5 gV (by decide); rw [hP] at h; exact h
    have Jk : wr.cell? ⟨ga, k * 16 + 6, none⟩ = some (.int .i64 P.record.slot) := by have h := jO.cell HL.out.symm k 6 gV (by decide); rw [hP] at h; exact h
    have uE : wr.cell? ⟨ga, k * 16 + 7, none⟩ = some (.bool P.record.before.used) := by have h := jO.cell HL.out.symm k 7 gV (by decide); rw [hP] at h; exact h
    have Gd : wr.cell? ⟨ga, k * 16 + 8, none⟩ = some (P.record.before.data.v) := by have h := jO.cell HL.out.symm k 8 gV (by decide); rw [hP] at h; exact h
    have Ju : wr.cell? ⟨ga, k * 16 + 9, none⟩ = some (.bool P.record.after.used) := by have h := jO.cell HL.out.symm k 9 gV (by decide); rw [hP] at h; exact h
    have zh : wr.cell? ⟨ga, k * 16 + 10, none⟩ = some (P.record.after.data.v) := by have h := jO.cell HL.out.symm k 10 gV (by decide); rw [hP] at h; exact h
    have yj : wr.cell? ⟨ga, k * 16 + 11, none⟩ = some (.int .i64 P.record.uN) := by have h := jO.cell HL.out.symm k 11 gV (by decide); rw [hP] at h; exact h
    have yV : wr.cell? ⟨ga, k * 16 + 12, none⟩ = some (.int .i64 P.record.nT) := by have h := jO.cell HL.out.symm k 12 gV (by decide); rw [hP] at h; exact h
    have zA : wr.cell? ⟨ga, k * 16 + 13, none⟩ = some (P.record.txns.v) := by have h := jO.cell HL.out.symm k 13 gV (by decide); rw [hP] at h; exact h
    have zl : wr.cell? ⟨ga, k * 16 + 14, none⟩ = some (P.record.dirty.v) := by have h := jO.cell HL.out.symm k 14 gV (by decide); rw [hP] at h; exact h
    have yx : wr.cell? ⟨ga, k * 16 + 15, none⟩ = some (P.record.image.v) := by have h := jO.cell HL.out.symm k 15 gV (by decide); rw [hP] at h; exact h
    have bY : wr.cell? ⟨gb, k * 16, none⟩ = some (.int .i64 Q.lsn) := by have h := kq.cell (by rw [HQ.out, HL.out]) k 0 nO (by decide); rw [hQ] at h; exact h
    have fx : wr.cell? ⟨gb, k * 16 + 1, none⟩ = some (.int .i64 Q.epoch) := by have h := kq.cell (by rw [HQ.out, HL.out]) k 1 nO (by decide); rw [hQ] at h; exact h
    have fW : wr.cell? ⟨gb, k * 16 + 2, none⟩ = some (.int .i64 Q.record.kind) := by have h := kq.cell (by rw [HQ.out, HL.out]) k 2 nO (by decide); rw [hQ] at h; exact h
    have ri : wr.cell? ⟨gb, k * 16 + 3, none⟩ = some (.int .i64 Q.record.txn) := by have h := kq.cell (by rw [HQ.out, HL.out]) k 3 nO (by decide); rw [hQ] at h; exact h
    have ug : wr.cell? ⟨gb, k * 16 + 4, none⟩ = some (.int .i64 Q.record.prev) := by have h := kq.cell (by rw [HQ.out, HL.out]) k 4 nO (by decide); rw [hQ] at h; exact h
    have qM : wr.cell? ⟨gb, k * 16 + 5, none⟩ = some (.int .i64 Q.record.page) := by have h := kq.cell (by rw [HQ.out, HL.out]) k 5 nO (by decide); rw [hQ] at h; exact h
    have Ax : wr.cell? ⟨gb, k * 16 + 6, none⟩ = some (.int .i64 Q.record.slot) := by have h := kq.cell (by rw [HQ.out, HL.out]) k 6 nO (by decide); rw [hQ] at h; exact h
    have oV : wr.cell? ⟨gb, k * 16 + 7, none⟩ = some (.bool Q.record.before.used) := by have h := kq.cell (by rw [HQ.out, HL.out]) k 7 nO (by decide); rw [hQ] at h; exact h
    have Jr : wr.cell? ⟨gb, k * 16 + 8, none⟩ = some (Q.record.before.data.v) := by have h := kq.cell (by rw [HQ.out, HL.out]) k 8 nO (by decide); rw [hQ] at h; exact h
    have FM : wr.cell? ⟨gb, k * 16 + 9, none⟩ = some (.bool Q.record.after.used) := by have h := kq.cell (by rw [HQ.out, HL.out]) k 9 nO (by decide); rw [hQ] at h; exact h
    have yh : wr.cell? ⟨gb, k * 16 + 10, none⟩ = some (Q.record.after.data.v) := by have h := kq.cell (by rw [HQ.out, HL.out]) k 10 nO (by decide); rw [hQ] at h; exact h
    have zR : wr.cell? ⟨gb, k * 16 + 11, none⟩ = some (.int .i64 Q.record.uN) := by have h := kq.cell (by rw [HQ.out, HL.out]) k 11 nO (by decide); rw [hQ] at h; exact h
    have zC : wr.cell? ⟨gb, k * 16 + 12, none⟩ = some (.int .i64 Q.record.nT) := by have h := kq.cell (by rw [HQ.out, HL.out]) k 12 nO (by decide); rw [hQ] at h; exact h
    have yT : wr.cell? ⟨gb, k * 16 + 13, none⟩ = some (Q.record.txns.v) := by have h := kq.cell (by rw [HQ.out, HL.out]) k 13 nO (by decide); rw [hQ] at h; exact h
    have ym : wr.cell? ⟨gb, k * 16 + 14, none⟩ = some (Q.record.dirty.v) := by have h := kq.cell (by rw [HQ.out, HL.out]) k 14 nO (by decide); rw [hQ] at h; exact h
    have xU : wr.cell? ⟨gb, k * 16 + 15, none⟩ = some (Q.record.image.v) := by have h := kq.cell (by rw [HQ.out, HL.out]) k 15 nO (by decide); rw [hQ] at h; exact h
    have HD := hid Fg
    have l8 := hid s3
    have RY := hid fE
    have UM := hid fT
    clear jO kq Fg fE fT s3 hP hQ
    go_wp2_with fail
    let Y1 : World → Prop := fun wx : World => (wx.cell? ⟨ga, k * 16, none⟩ = some (.int .i64 P.lsn) ∧ wx.cell? ⟨ga, k * 16 + 1, none⟩ = some (.int .i64 P.epoch) ∧ wx.cell? ⟨ga, k * 16 + 2, none⟩ = some (.int .i64 P.record.kind) ∧ wx.cell? ⟨ga, k * 16 + 3, none⟩ = some (.int .i64 P.record.txn) ∧ wx.cell? ⟨ga, k * 16 + 4, none⟩ = some (.int .i64 P.record.prev) ∧ wx.cell? ⟨ga, k * 16 + 5, none⟩ = some (.int .i64 P.record.page) ∧ wx.cell? ⟨ga, k * 16 + 6, none⟩ = some (.int .i64 P.record.slot) ∧ wx.cell? ⟨ga, k * 16 + 7, none⟩ = some (.bool P.record.before.used) ∧ wx.cell? ⟨ga, k * 16 + 8, none⟩ = some (P.record.before.data.v) ∧ wx.cell? ⟨ga, k * 16 + 9, none⟩ = some (.bool P.record.after.used) ∧ wx.cell? ⟨ga, k * 16 + 10, none⟩ = some (P.record.after.data.v) ∧ wx.cell? ⟨ga, k * 16 + 11, none⟩ = some (.int .i64 P.record.uN) ∧ wx.cell? ⟨ga, k * 16 + 12, none⟩ = some (.int .i64 P.record.nT) ∧ wx.cell? ⟨ga, k * 16 + 13, none⟩ = some (P.record.txns.v) ∧ wx.cell? ⟨ga, k * 16 + 14, none⟩ = some (P.record.dirty.v) ∧ wx.cell? ⟨ga, k * 16 + 15, none⟩ = some (P.record.image.v)) ∧ (wx.cell? ⟨gb, k * 16, none⟩ = some (.int .i64 Q.lsn) ∧ wx.cell? ⟨gb, k * 16 + 1, none⟩ = some (.int .i64 Q.epoch) ∧ wx.cell? ⟨gb, k * 16 + 2, none⟩ = some (.int .i64 Q.record.kind) ∧ wx.cell? ⟨gb, k * 16 + 3, none⟩ = some (.int .i64 Q.record.txn) ∧ wx.cell? ⟨gb, k * 16 + 4, none⟩ = some (.int .i64 Q.record.prev) ∧ wx.cell? ⟨gb, k * 16 + 5, none⟩ = some (.int .i64 Q.record.page) ∧ wx.cell? ⟨gb, k * 16 + 6, none⟩ = some (.int .i64 Q.record.slot) ∧ wx.cell? ⟨gb, k * 16 + 7, none⟩ = some (.bool Q.record.before.used) ∧ wx.cell? ⟨gb, k * 16 + 8, none⟩ = some (Q.record.before.data.v) ∧ wx.cell? ⟨gb, k * 16 + 9, none⟩ = some (.bool Q.record.after.used) ∧ wx.cell? ⟨gb, k * 16 + 10, none⟩ = some (Q.record.after.data.v) ∧ wx.cell? ⟨gb, k * 16 + 11, none⟩ = some (.int .i64 Q.record.uN) ∧ wx.cell? ⟨gb, k * 16 + 12, none⟩ = some (.int .i64 Q.record.nT) ∧ wx.cell? ⟨gb, k * 16 + 13, none⟩ = some (Q.record.txns.v) ∧ wx.cell? ⟨gb, k * 16 + 14, none⟩ = some (Q.record.dirty.v) ∧ wx.cell? ⟨gb, k * 16 + 15, none⟩ = some (Q.record.image.v))
    have hS : Y1 wr.drew := ⟨⟨zJ, zm, A9, Bv, I1, Kb, Jk, uE, Gd, Ju, zh, yj, yV, zA, zl, yx⟩, ⟨bY, fx, fW, ri, ug, qM, Ax, oV, Jr, FM, yh, zR, zC, yT, ym, xU⟩⟩
    refine wp_region_V Y1 99 10 rfl (by kernel_rfl) ?_
    refine tk 0 17 hS ?_
    refine tk 1 18 hS ?_
    refine tkV 2 19 (.pointer (some ⟨ga, k * 16, none⟩)) hS ?_
    refine tk 3 20 hS ?_
    refine tk 4 21 hS ?_
    refine tk 5 22 hS ?_
    refine tkV 6 23 (.pointer (some ⟨gb, k * 16, none⟩)) hS ?_
    refine tk 7 24 hS ?_
    refine wpAnyV_one (i := 8) (by kernel_rfl) rfl (fun K hK => ?_)
    go_simp
    refine (eqLogFrame_own P Q _ l8.out HD.out (RY.out.same (Kept.refl _ _).drew) (UM.out.same (Kept.refl _ _).drew)).mono ?_
    rintro e w1 ⟨rfl, bg⟩
    have bq : Hid (Same w w1) := HK.out.drew.trans bg
    have fy : Hid (Same wr w1) := (Kept.refl _ _).drew.trans bg
    refine hK.out _ _ (fun _ => ⟨⟨(fy.out.cellOf zJ id), (fy.out.cellOf zm id), (fy.out.cellOf A9 id), (fy.out.cellOf Bv id), (fy.out.cellOf I1 id), (fy.out.cellOf Kb id), (fy.out.cellOf Jk id), (fy.out.cellOf uE id), (fy.out.cellOf Gd id), (fy.out.cellOf Ju id), (fy.out.cellOf zh id), (fy.out.cellOf yj id), (fy.out.cellOf yV id), (fy.out.cellOf zA id), (fy.out.cellOf zl id), (fy.out.cellOf yx id)⟩, ⟨(fy.out.cellOf bY id), (fy.out.cellOf fx id), (fy.out.cellOf fW id), (fy.out.cellOf ri id), (fy.out.cellOf ug id), (fy.out.cellOf qM id), (fy.out.cellOf Ax id), (fy.out.cellOf oV id), (fy.out.cellOf Jr id), (fy.out.cellOf FM id), (fy.out.cellOf yh id), (fy.out.cellOf zR id), (fy.out.cellOf zC id), (fy.out.cellOf yT id), (fy.out.cellOf ym id), (fy.out.cellOf xU id)⟩⟩) ?_
    clear hK K
    try simp only [Act.put, sA, s0, sS]
    refine wpAnyV_one (i := 9) (by kernel_rfl) rfl (fun K hK => ?_)
    go_simp
    refine hK.out _ _ (fun h => ⟨⟨(fy.out.cellOf zJ id), (fy.out.cellOf zm id), (fy.out.cellOf A9 id), (fy.out.cellOf Bv id), (fy.out.cellOf I1 id), (fy.out.cellOf Kb id), (fy.out.cellOf Jk id), (fy.out.cellOf uE id), (fy.out.cellOf Gd id), (fy.out.cellOf Ju id), (fy.out.cellOf zh id), (fy.out.cellOf yj id), (fy.out.cellOf yV id), (fy.out.cellOf zA id), (fy.out.cellOf zl id), (fy.out.cellOf yx id)⟩, ⟨(fy.out.cellOf bY id), (fy.out.cellOf fx id), (fy.out.cellOf fW id), (fy.out.cellOf ri id), (fy.out.cellOf ug id), (fy.out.cellOf qM id), (fy.out.cellOf Ax id), (fy.out.cellOf oV id), (fy.out.cellOf Jr id), (fy.out.cellOf FM id), (fy.out.cellOf yh id), (fy.out.cellOf zR id), (fy.out.cellOf zC id), (fy.out.cellOf yT id), (fy.out.cellOf ym id), (fy.out.cellOf xU id)⟩⟩) ?_
    clear hK K bg
    try simp only [Act.put, sA, s0, sS]
    refine wpAnyV_done (by kernel_rfl) ?_
    go_wp2
    go_roundw
    case rel => exact ⟨k + 1, by omega, by go_num, bq⟩
    case measure => simp [intOf]; omega
   ·go_wp2
    go_ret
    exact ⟨rfl, HK.out⟩
end Go.Proofs.YtepdakgfioffgaaGreat
