import Derived.Test.YtepdakgfioffgaaGreatG30
import Derived.Test.YtepdakgfioffgaaGreatG04
import Derived.Deep.DeepCutAuto
import Derived.Deep.CutBlock
namespace Go.Proofs.YtepdakgfioffgaaGreat
set_option maxRecDepth 100000
set_option maxHeartbeats 16000000
set_option linter.unusedVariables false
set_option linter.unusedSimpArgs false
open Go.RowKit
theorem box_newA (w : World) (zs : Array Value) (cs : List Value) (t : TypeId) (h : zs.size = cs.length) : Blk ((w.alloc (.cells zs t)).setCells w.heap.size 0 cs) w.heap.size t cs ∧ Same w ((w.alloc (.cells zs t)).setCells w.heap.size 0 cs) := by
 refine ⟨?_, Kept.setCells (.inl (Nat.le_refl _)) _ _ ((Kept.refl _ _).alloc _)⟩
 have h1 := (Blk.new w zs t).setCells cs 0 (by simp [h])
 rwa [lay_all _ _ (by simp [h])] at h1
theorem frCells_one (p : StLogFrame) : (kFr.cells p).toArray.all (·.oneCell') = true := all_oneCell_toArray (fun v hv => by
 simp only [kFr, StLogFrame.cells, List.mem_cons, List.not_mem_nil, or_false] at hv
 rcases hv with rfl | rfl | rfl | rfl | rfl | rfl | rfl | rfl | rfl | rfl | rfl | rfl | rfl | rfl | rfl | rfl <;> rfl)
theorem specAnalyze_any (va : Option Addr) (vc : Nat) (ps : List StLogFrame) (en c : Int) (w : World) (rU : ∀ p ∈ ps, p.record.isB ∧ p.record.szs ≤ 1073741824) (EZ : ps.length ≤ 1048576) (hv : RdFr w (.slice va ps.length vc) ps) :
  Calls Tryz.prog 5 #[.agg #[.slice va ps.length vc, .int .i64 en], .int .i64 c] w fun e w' => ∃ y : StAnalysis, e = .returned y.val ∧ y.dat = azAns (datFr ps) en c ∧ (∀ b, FootL y.rows b → w.heap.size ≤ b) ∧ OwnL w' y.rows ∧ Same w w' := by
 obtain ⟨i4, pZ, lj, lq, lf⟩ := info_parts Tryz.infoTxnEntry
 obtain ⟨i2, tm, xY, yI, yo⟩ := info_parts Tryz.infoDirtyEntry
 obtain ⟨R, hR⟩ : ∃ R, azAns (datFr ps) en c = R := ⟨_, rfl⟩
 rw [hR]
 have HR := hid hR
 obtain ⟨L, hL⟩ : ∃ L, ps.length = L := ⟨_, rfl⟩
 have HV := hid hv
 have mU := hid rU
 rw [hL] at EZ HV ⊢
 have HL := hid hL
 clear hL hv rU hR
 go_enter Tryz.func5, Tryz.ntmps5
 go_upto_region 1 with fail
 have bk := hid (sameA2 w [.slice va L vc, .int .i64 en] 34 [.int .i64 0, .int .i64 0, .int .i64 0, .int .i64 0, .slice none 0 0, .slice none 0 0, .slice none 0 0] 30)
 have mY := hid (Blk.newA w [.slice va L vc, .int .i64 en] 34 [.int .i64 0, .int .i64 0, .int .i64 0, .int .i64 0, .slice none 0 0, .slice none 0 0, .slice none 0 0] 30)
 have ry := hid (Blk.newB w [.slice va L vc, .int .i64 en] 34 [.int .i64 0, .int .i64 0, .int .i64 0, .int .i64 0, .slice none 0 0, .slice none 0 0, .slice none 0 0] 30)
 generalize (w.alloc (.cells #[.slice va L vc, .int .i64 en] 34)).alloc (.cells #[.int .i64 0, .int .i64 0, .int .i64 0, .int .i64 0, .slice none 0 0, .slice none 0 0, .slice none 0 0] 30) = w0 at *
 obtain ⟨S, hS⟩ : ∃ S, w.heap.size = S := ⟨_, rfl⟩
 obtain ⟨Z, hZ⟩ : ∃ Z, w.heap.size + 1 = Z := ⟨_, rfl⟩
 rw [hZ] at ry ⊢
 rw [hS] at mY ⊢
 have lV : w.heap.size ≤ S := by omega
 have nX : w.heap.size < Z := by omega
 have T0 : S < Z := by omega
 clear hS hZ
 obtain ⟨s0, s1⟩ := mY.out.all2
 go_wp2_with fail
 refine (specBegin_any (.slice va L vc) ps c w0 (HV.out.same bk.out)).mono ?_
 rintro e w1 ⟨rfl, bg⟩
 have bq := hid (bk.out.trans bg)
 have qo := hid (mY.out.same bg)
 have lx := hid (ry.out.same bg)
 clear bg bk mY ry s0 s1
 rcases lr : bgAt (fs6 ps) c with _ | k
 ·have qm := hid lr
  rw [bgR_none lr]
  clear lr
  go_upto_region 3 with fail
  obtain ⟨kj, iK, iZ⟩ := bad9 lx.out bq.out nX 1
  have jg := (show Hid (R = azBad 1) from by rw [← HR.out]; exact azAns_1 qm.out)
  refine wp_bsA 20 30 _ _ Z (cA 1).toArray rfl rfl rfl rfl rfl rfl (fun wx => by kernel_rfl) rfl rfl kj.out infoAn (by simp [cA, Value.oneCell']) ?_
  generalize w1.setCells Z 0 (cA 1).toArray.toList = W9 at iK iZ ⊢
  go_wp2
  exact bodyPost_ret (v := .agg (cA 1).toArray) (endZA Tryz.results5 rfl iK.out.rangeAll Tryz.underlying30 rfl infoAn) rfl ⟨badA 1, rfl, jg.out.symm, fun b hb => (badA_foot _ b hb).elim, badA_own _ _, iZ.out⟩
 rw [bgR_some lr]
 have qm := hid lr
 obtain ⟨bg, l0⟩ := bgAt_is lr
 have J6 : k + 1 < L := by rw [fs6_length, HL.out] at bg; exact bg
 have fy := hid l0
 clear bg l0 lr
 obtain ⟨b, off, ha, hc⟩ := RdFr.cs HL.out HV.out (by omega)
 subst ha
 have je := hid hc
 have RX : b < w.heap.size := block_lt_of_cell (hc.lsn 0 (by rw [HL.out]; omega))
 clear hc
 obtain ⟨s0, s1⟩ := qo.out.all2
 go_wp2_with fail
 refine (specRises_any (.slice (some ⟨b, off, none⟩) L vc) ps w1 (HV.out.same bq.out)).mono ?_
 rintro e w2 ⟨rfl, eC⟩
 have cw := hid (bq.out.trans eC)
 have mb := hid (qo.out.same eC)
 have nc := hid (lx.out.same eC)
 clear eC bq qo lx s0 s1
 cases hB : nbg fAfter (fs5 ps) with
 | true =>
  have AV := hid hB
  clear hB
  go_upto_region 5 with fail
  obtain ⟨kj, iK, iZ⟩ := bad9 nc.out cw.out nX 2
  have jg := (show Hid (R = azBad 2) from by rw [← HR.out]; exact azAns_2 qm.out (by rw [AV.out, Bool.or_true]))
  refine wp_bsA 25 30 _ _ Z (cA 2).toArray rfl rfl rfl rfl rfl rfl (fun wx => by kernel_rfl) rfl rfl kj.out infoAn (by simp [cA, Value.oneCell']) ?_
  generalize w2.setCells Z 0 (cA 2).toArray.toList = W9 at iK iZ ⊢
  go_wp2
  exact bodyPost_ret (v := .agg (cA 2).toArray) (endZA Tryz.results5 rfl iK.out.rangeAll Tryz.underlying30 rfl infoAn) rfl ⟨badA 2, rfl, jg.out.symm, fun b hb => (badA_foot _ b hb).elim, badA_own _ _, iZ.out⟩
 | false =>
 have AV := hid hB
 clear hB
 go_wp2_with fail
 go_loopw [6] (fun i wr => ∃ j : Nat, j ≤ L ∧ i = .int .i64 j ∧ Hid (∀ (m : Nat) (h : m < ps.length), m < j → strayD ps[m] = false) ∧ Hid (Blk wr S 34 [.slice (some ⟨b, off, none⟩) L vc, .int .i64 en]) ∧ Hid (Blk wr Z 30 [.int .i64 0, .int .i64 0, .int .i64 0, .int .i64 0, .slice none 0 0, .slice none 0 0, .slice none 0 0]) ∧ Hid (Same w wr)) (fun i _ => L - (intOf i).toNat)
 case atStart => exact ⟨0, by omega, rfl, fun m h hm => by omega, mb, nc, cw⟩
 case round =>
  obtain ⟨j, hj, rfl, HA, mX, lB, ef⟩ := hrel
  clear mb nc cw
  obtain ⟨s0, s1⟩ := mX.out.all2
  by_cases dh : j < L
  ·have og : j < ps.length := by rw [HL.out]; exact dh
   obtain ⟨X, hX⟩ : ∃ X, ps[j].lsn = X := ⟨_, rfl⟩
   have cl : wr.cell? ⟨b, off + j * 16, none⟩ = some (.int .i64 X) := by rw [← hX]; exact (je.out.same ef.out).lsn j og
   have HX := hid hX
   obtain ⟨cs, dY⟩ : ∃ cs, recCells ps[j].record = cs := ⟨_, rfl⟩
   have jw : Hid (cs.length = 14) := by unfold Hid; rw [← dY]; rfl
   have HI : Hid ((Tryz.prog.info? 49).map (·.size) = some cs.length) := by unfold Hid; rw [jw.out]; kernel_rfl
   have k2 := (show ∀ wx, Same w wx → Calls Tryz.prog 17 #[.agg cs.toArray] wx _ from fun wx hk => by
    have h := specRec_any ps[j].record wx (mU.out _ (List.getElem_mem og)).1 (mU.out _ (List.getElem_mem og)).2 (StLogRecord.rd.same (HV.out.data _ (List.getElem_mem og)) hk)
    rw [show ps[j].record.val = .agg (recCells ps[j].record).toArray from rfl, dY] at h
    exact h)
   have K2 := hid k2
   have l6 := hid dY
   have ET : (j : Int) < (L : Int) := by omega
   clear hX dY k2
   go_wp2_with fail
   refine (l4In_any X 512 1099511627776 wr).mono ?_
   rintro e w3 ⟨rfl, ix⟩
   have dZ := hid (ef.out.trans ix)
   have l8 := hid (mX.out.same ix)
   have pJ := hid (lB.out.same ix)
   have gW : Hid (w3.rangeAt b (off + j * 16 + 2) cs) := by unfold Hid; rw [← l6.out]; exact (je.out.same dZ.out).rec j og
   clear ix ef mX lB s0 s1 cl
   obtain ⟨s0, s1⟩ := l8.out.all2
   cases qn : inB X 512 1099511627776 with
   | false =>
    have G4 := hid qn
    clear qn
    go_upto_region 10 with fail
    obtain ⟨kj, iK, iZ⟩ := bad9 pJ.out dZ.out nX 2
    have jg := (show Hid (R = azBad 2) from by rw [← HR.out]; refine azAns_2 qm.out ?_; rw [List.any_eq_true.2 ⟨ps[j], List.getElem_mem og, ?_⟩]; (exact Bool.true_or _); (have h := G4.out; have h2 := HX.out; unfold inB at h; unfold strayD; simp only [Bool.and_eq_false_iff, decide_eq_false_iff_not] at h; rw [h2]; simp only [Bool.or_eq_true, decide_eq_true_eq]; omega))
    refine wp_bsA 51 30 _ _ Z (cA 2).toArray rfl rfl rfl rfl rfl rfl (fun wx => by kernel_rfl) rfl rfl kj.out infoAn (by simp [cA, Value.oneCell']) ?_
    generalize w3.setCells Z 0 (cA 2).toArray.toList = W9 at iK iZ ⊢
    go_wp2
    exact bodyPost_ret (v := .agg (cA 2).toArray) (endZA Tryz.results5 rfl iK.out.rangeAll Tryz.underlying30 rfl infoAn) rfl ⟨badA 2, rfl, jg.out.symm, fun b hb => (badA_foot _ b hb).elim, badA_own _ _, iZ.out⟩
   | true =>
   have G4 := hid qn
   clear qn
   go_wp2_with (refine BigFrame.wpList_want (by rfl) (fun K hK => wp_load_mid 49 _ rfl b (off + j * 16 + 2) rfl cs _ gW.out Tryz.underlying49 rfl HI.out (hK _ _ ?_)))
   refine (K2.out w3 dZ.out).mono ?_
   rintro e w4 ⟨rfl, kl⟩
   have fA := hid (dZ.out.trans kl)
   have nQ := hid (l8.out.same kl)
   have AP := hid (pJ.out.same kl)
   clear kl dZ l8 pJ s0 s1 gW
   obtain ⟨Y, hY⟩ : ∃ Y, recFd ps[j].record.dat = Y := ⟨_, rfl⟩
   have HY := hid hY
   rw [hY]
   clear hY
   by_cases hy : Y = 0
   ·have Vm := hid hy
    subst hy
    go_wp2
    go_roundw
    case rel => exact ⟨j + 1, by omega, by go_num, fun m h hm => by
     by_cases hmj : m < j
     ·exact HA.out m h hmj
     ·obtain rfl : m = j := by omega
      have h1 := G4.out
      unfold inB at h1
      simp only [Bool.and_eq_true, decide_eq_true_eq] at h1
      unfold strayD
      rw [HX.out, HY.out]
      simp only [Bool.or_eq_false_iff, decide_eq_false_iff_not]
      exact ⟨by omega, by omega, fun h => h rfl⟩, nQ, AP, fA⟩
    case measure => simp [intOf]; omega
   ·have EP : (Y != 0) = true := by simp [hy]
    have Ts := hid hy
    clear hy
    go_upto_region 10 with fail
    obtain ⟨kj, iK, iZ⟩ := bad9 AP.out fA.out nX 2
    have jg := (show Hid (R = azBad 2) from by rw [← HR.out]; refine azAns_2 qm.out ?_; rw [List.any_eq_true.2 ⟨ps[j], List.getElem_mem og, ?_⟩]; (exact Bool.true_or _); (unfold strayD; rw [HY.out]; simp only [Bool.or_eq_true, decide_eq_true_eq]; exact .inr (.inr Ts.out)))
    refine wp_bsA 51 30 _ _ Z (cA 2).toArray rfl rfl rfl rfl rfl rfl (fun wx => by kernel_rfl) rfl rfl kj.out infoAn (by simp [cA, Value.oneCell']) ?_
    generalize w4.setCells Z 0 (cA 2).toArray.toList = W9 at iK iZ ⊢
    go_wp2
    exact bodyPost_ret (v := .agg (cA 2).toArray) (endZA Tryz.results5 rfl iK.out.rangeAll Tryz.underlying30 rfl infoAn) rfl ⟨badA 2, rfl, jg.out.symm, fun b hb => (badA_foot _ b hb).elim, badA_own _ _, iZ.out⟩
  ·obtain rfl : L = j := by omega
   have pV : Hid (∀ (m : Nat) (h : m < ps.length), strayD ps[m] = false) := fun m h => HA.out m h (by rw [HL.out] at h; exact h)
   have Df : Hid ((ps.any strayD || nbg fAfter (fs5 ps)) = false) := by unfold Hid; rw [AV.out, anyF_no pV.out]; rfl
   clear HA AV
   have RL : Z < wr.heap.size := lB.out.lt
   have fM := (show Hid (Same wr (wr.alloc (.cells #[.int .i64 0, .int .i64 0, .int .i64 en, .int .i64 0, .slice none 0 0, .slice none 0 0, .slice none 0 0] 30))) from (Kept.refl _ _).alloc _)
   have uP := (show Hid (AnM w (wr.alloc (.cells #[.int .i64 0, .int .i64 0, .int .i64 en, .int .i64 0, .slice none 0 0, .slice none 0 0, .slice none 0 0] 30)) wr.heap.size 0 en ⟨0, [], [], []⟩ none 0 0 none 0 0 none 0 0) from
    ⟨OwQ.nil _ _ _, OwQ.nil _ _ _, OwQ.nil _ _ _, fun b h => by simp [Value.ownBlock] at h, fun b h => by simp [Value.ownBlock] at h, fun b h => by simp [Value.ownBlock] at h, fun b h => by simp [Value.ownBlock] at h, fun b h => by simp [Value.ownBlock] at h, fun b h => by simp [Value.ownBlock] at h, ef.out.trans fM.out, by omega, Blk.newL wr [.int .i64 0, .int .i64 0, .int .i64 en, .int .i64 0, .slice none 0 0, .slice none 0 0, .slice none 0 0] 30⟩)
   have oL := hid (mX.out.same fM.out)
   have Au := hid (lB.out.same fM.out)
   go_upto_region 12 with fail
   generalize wr.alloc (.cells #[.int .i64 0, .int .i64 0, .int .i64 en, .int .i64 0, .slice none 0 0, .slice none 0 0, .slice none 0 0] 30) = w5 at *
   obtain ⟨O, hO⟩ : ∃ O, wr.heap.size = O := ⟨_, rfl⟩
   rw [hO] at uP RL ⊢
   clear hO mX lB ef fM s0 s1
   obtain ⟨s0, s1⟩ := oL.out.all2
   go_upto_block 2 with fail
   go_cut [8] (fun nv wx => ∃ (n : Nat) (e' : Int), k + 2 ≤ n ∧ n ≤ L ∧ nv = .int .i64 n ∧ Hid (kpN (fs6 ps) (k + 2) L = n) ∧ Hid (e' = if n < L then (ps.getD n zFr).lsn else en) ∧ Hid (AnM w wx O 0 e' ⟨0, [], [], []⟩ none 0 0 none 0 0 none 0 0) ∧ Hid (Blk wx S 34 [.slice (some ⟨b, off, none⟩) L vc, .int .i64 en]) ∧ Hid (Blk wx Z 30 [.int .i64 0, .int .i64 0, .int .i64 0, .int .i64 0, .slice none 0 0, .slice none 0 0, .slice none 0 0]))
   case first =>
    as_aux_lemma =>
    go_wp2_with fail
    go_loopw [8] (fun nv wr => ∃ (m : Nat) (e' : Int), k + 2 ≤ m ∧ m ≤ L ∧ nv = .int .i64 m ∧ Hid (kpN (fs6 ps) (k + 2) L = kpN (fs6 ps) (k + 2) m) ∧ Hid (e' = if m < L then (ps.getD m zFr).lsn else en) ∧ Hid (AnM w wr O 0 e' ⟨0, [], [], []⟩ none 0 0 none 0 0 none 0 0) ∧ Hid (Blk wr S 34 [.slice (some ⟨b, off, none⟩) L vc, .int .i64 en]) ∧ Hid (Blk wr Z 30 [.int .i64 0, .int .i64 0, .int .i64 0, .int .i64 0, .slice none 0 0, .slice none 0 0, .slice none 0 0])) (fun nv _ => (intOf nv).toNat)
    case atStart => exact ⟨L, en, by omega, by omega, rfl, rfl, by unfold Hid; rw [if_neg (Nat.lt_irrefl _)], uP, oL, Au⟩
    case round =>
     clear uP oL Au s0 s1
     obtain ⟨m, e', j4, FO, rfl, D4, HE, HOr, mX, lB⟩ := hrel
     obtain ⟨s0, s1⟩ := mX.out.all2
     obtain ⟨o0, o1, o2, o3, o4, o5, o6⟩ := HOr.out.box.all7
     have fo := HOr.out.box.frozen
     have jC := HOr.out.box.lt
     by_cases dh : k + 2 < m
     ·obtain ⟨q, rfl⟩ : ∃ q, m = q + 1 := ⟨m - 1, by omega⟩
      have Fs : q < ps.length := by rw [HL.out]; omega
      have qA : ((q + 1 : Nat) : Int) - 1 = (q : Int) := by omega
      have VE : (q : Int) < (L : Int) := by omega
      have Gc : (decide ((k : Int) + 2 < ((q + 1 : Nat) : Int))) = true := decide_eq_true (by omega)
      have Uc : (k : Int) + 2 < ((q + 1 : Nat) : Int) := by omega
      obtain ⟨kd, nW⟩ : ∃ kd, ps[q].record.kind = kd := ⟨_, rfl⟩
      obtain ⟨X, hX⟩ : ∃ X, ps[q].lsn = X := ⟨_, rfl⟩
      have ck : wr.cell? ⟨b, off + q * 16 + 2, none⟩ = some (.int .i64 kd) := by rw [← nW]; exact (je.out.same HOr.out.keep).kind q Fs
      have cl : wr.cell? ⟨b, off + q * 16, none⟩ = some (.int .i64 X) := by rw [← hX]; exact (je.out.same HOr.out.keep).lsn q Fs
      have jd : Hid (((fs6 ps).getD q (0, 0, 0, 0, 0, 0)).2.1 = kd) := by unfold Hid; rw [fs6_at ps q Fs]; exact nW
      have IL : Hid ((ps.getD q zFr).lsn = X) := by unfold Hid; rw [List.getD_eq_getElem?_getD, List.getElem?_eq_getElem Fs]; exact hX
      clear nW hX
      have OP := HOr.out.setEn X
      have iy := HOr.out.boxed 2 (.int .i64 X)
      have jb := hid OP
      have mb := hid (mX.out.kept iy (by omega))
      have nc := hid (lB.out.kept iy (by omega))
      clear OP iy
      by_cases h67 : kd = 6 ∨ kd = 7
      ·have qO := (show Hid (kpN (fs6 ps) (k + 2) L = kpN (fs6 ps) (k + 2) q) from D4.out.trans (kpN_on (by omega) (by rw [jd.out]; exact h67)))
       by_cases h6 : kd = 6
       ·have PN : (kd == 6) = true := by simp [h6]
        clear h67 h6
        go_wp2
        go_roundw
        case rel => exact ⟨q, X, by omega, by omega, by go_num, qO, by unfold Hid; rw [if_pos (by omega)]; exact IL.out.symm, jb, mb, nc⟩
        case measure => simp [intOf]
       ·have PN : (kd == 6) = false := by simp [h6]
        have Rs : (kd == 7) = true := by simp; exact h67.resolve_left h6
        clear h67 h6
        go_wp2
        go_roundw
        case rel => exact ⟨q, X, by omega, by omega, by go_num, qO, by unfold Hid; rw [if_pos (by omega)]; exact IL.out.symm, jb, mb, nc⟩
        case measure => simp [intOf]
      ·have qO := (show Hid (kpN (fs6 ps) (k + 2) L = q + 1) from D4.out.trans (kpN_off (by rw [jd.out]; exact h67)))
       have PN : (kd == 6) = false := by simp; exact fun h => h67 (.inl h)
       have Rs : (kd == 7) = false := by simp; exact fun h => h67 (.inr h)
       clear h67 jb mb nc D4 IL jd
       go_wp2
       go_meet
       case rel => exact ⟨q + 1, e', by omega, by omega, rfl, qO, HE, HOr, mX, lB⟩
     ·obtain rfl : m = k + 2 := by omega
      have qO := hid (D4.out.trans (kpN_self _ _))
      have Gc : ¬ (k : Int) + 2 < ((k + 2 : Nat) : Int) := by omega
      have Sx : (decide ((k : Int) + 2 < ((k + 2 : Nat) : Int))) = false := decide_eq_false Gc
      clear D4
      go_wp2
      go_meet
      case rel => exact ⟨k + 2, e', by omega, by omega, rfl, qO, HE, HOr, mX, lB⟩
   case rest =>
    clear uP oL Au s0 s1
    obtain ⟨n, e', KH, Ia, rfl, qO, HE, rP, BX, uA⟩ := hcut
    obtain ⟨w6, Te⟩ : ∃ w6, w6 = wc := ⟨_, rfl⟩
    subst Te
    have nI := hid (rP.out.setFr n)
    have iy := rP.out.boxed 1 (.int .i64 n)
    have tM := hid (BX.out.kept iy (by omega))
    have xE := hid (uA.out.kept iy (by omega))
    have o1 := rP.out.box.c1
    have fo := rP.out.box.frozen
    have jC := rP.out.box.lt
    clear iy
    go_upto_region 17 with fail
    generalize w6.setCell ⟨O, 1, none⟩ (.int .i64 n) = w7 at *
    clear o1 fo jC rP BX uA
    obtain ⟨s0, s1⟩ := tM.out.all2
    have jy : k + 1 < ps.length := by rw [HL.out]; exact J6
    obtain ⟨P0, xX⟩ : ∃ P0, ps.getD (k + 1) zFr = P0 := ⟨_, rfl⟩
    have sd : ps[k + 1] = P0 := by rw [← xX, List.getD_eq_getElem?_getD, List.getElem?_eq_getElem jy]; rfl
    obtain ⟨cs, dY⟩ : ∃ cs, recCells P0.record = cs := ⟨_, rfl⟩
    have gW : Hid (w7.rangeAt b (off + (k + 1) * 16 + 2) cs) := by unfold Hid; rw [← dY, ← sd]; exact (je.out.same nI.out.keep).rec (k + 1) jy
    have jw : Hid (cs.length = 14) := by unfold Hid; rw [← dY]; rfl
    have iW : Hid (cs.toArray.all (·.oneCell') = true) := by unfold Hid; rw [← dY]; exact recCells_one _
    have HI : Hid ((Tryz.prog.info? 49).map (·.size) = some cs.length) := by unfold Hid; rw [jw.out]; kernel_rfl
    have l6 : Hid (cs[10]? = some (.int .i64 P0.record.nT) ∧ cs[11]? = some (.slice P0.record.txns.a P0.record.txns.n P0.record.txns.c) ∧ cs[12]? = some (.slice P0.record.dirty.a P0.record.dirty.n P0.record.dirty.c)) := by unfold Hid; rw [← dY]; exact ⟨rfl, rfl, rfl⟩
    have A2 := hid xX
    have nC : Hid (StLogRecord.rd w P0.record) := by unfold Hid; rw [← sd]; exact HV.out.data _ (List.getElem_mem jy)
    have mY : Hid (strayD P0 = false) := by unfold Hid; rw [← sd]; exact pV.out (k + 1) jy
    have bk : Hid (P0.record.kind = 7) := by
     unfold Hid
     rw [← sd]
     have h := fy.out
     rw [fs6_at ps (k + 1) jy] at h
     exact h
    have ji : Hid (AzOk (dTab P0.dat)) := dTab_ok mY.out bk.out ⟨_, nC.out.2.2.1.2.1⟩ ⟨_, nC.out.2.2.2.1.2.1⟩
    have cv : Hid (AzB (dTab P0.dat)) := dTab_b mY.out bk.out ⟨_, nC.out.2.2.1.2.1⟩ ⟨_, nC.out.2.2.2.1.2.1⟩
    clear xX sd dY
    have CB : (k : Int) + 1 < (L : Int) := by omega
    go_upto_region 18 with (first | (refine wpList_load_mid rfl 49 _ rfl b (off + (k + 1) * 16 + 2) rfl cs _ gW.out Tryz.underlying49 rfl HI.out ?_) | (refine wpList_store_mid rfl 49 _ _ rfl w7.heap.size 0 cs.toArray rfl rfl ((Blk.new w7 _ _).there 0 _ (by rw [List.size_toArray, jw.out]; decide)) (by rw [List.size_toArray, jw.out]; kernel_rfl) iW.out ?_; rw [List.toList_toArray]))
    generalize hW : World.setCells _ w7.heap.size 0 cs = w8
    have eg : Blk w8 w7.heap.size 49 cs ∧ Same w7 w8 := by rw [← hW]; exact box_newA w7 _ cs _ (by rw [jw.out]; rfl)
    obtain ⟨hb, hk⟩ := eg
    clear hW
    have tS := hid (nI.out.same hk)
    have Pr := hid (tM.out.same hk)
    have Nz := hid (xE.out.same hk)
    have Re : O < w7.heap.size := nI.out.box.lt
    obtain ⟨RB, qe⟩ : ∃ RB, w7.heap.size = RB := ⟨_, rfl⟩
    rw [qe] at hb Re ⊢
    clear qe hk nI tM xE gW HI iW s0 s1
    obtain ⟨nt, fX⟩ : ∃ nt, P0.record.nT = nt := ⟨_, rfl⟩
    obtain ⟨xa, Im⟩ : ∃ x, P0.record.txns.a = x := ⟨_, rfl⟩
    obtain ⟨xn, uy⟩ : ∃ x, P0.record.txns.n = x := ⟨_, rfl⟩
    obtain ⟨xc, Is⟩ : ∃ x, P0.record.txns.c = x := ⟨_, rfl⟩
    obtain ⟨ya, Gb⟩ : ∃ x, P0.record.dirty.a = x := ⟨_, rfl⟩
    obtain ⟨yn, FT⟩ : ∃ x, P0.record.dirty.n = x := ⟨_, rfl⟩
    obtain ⟨yc, KB⟩ : ∃ x, P0.record.dirty.c = x := ⟨_, rfl⟩
    rw [fX, Im, uy, Is, Gb, FT, KB] at l6
    have Fl : Hid (RdF 4 w ⟨P0.record.txns.e, xa, xn, xc, flat4 (dTab P0.dat).tx⟩) := by
     unfold Hid
     have h := nC.out.2.2.1
     have h2 : flat4 (dTab P0.dat).tx = P0.record.txns.bs := flat4_quad _ _ h.2.1
     rw [h2, ← Im, ← uy, ← Is]
     exact h
    have EO : Hid (RdF 2 w ⟨P0.record.dirty.e, ya, yn, yc, flat2 (dTab P0.dat).dy⟩) := by
     unfold Hid
     have h := nC.out.2.2.2.1
     have h2 : flat2 (dTab P0.dat).dy = P0.record.dirty.bs := flat2_duo _ _ h.2.1
     rw [h2, ← Gb, ← FT, ← KB]
     exact h
    have uo : Hid ((dTab P0.dat).nx = nt) := fX
    clear fX Im uy Is Gb FT KB nC
    obtain ⟨S0, Ai⟩ : ∃ S0, dTab P0.dat = S0 := ⟨_, rfl⟩
    rw [Ai] at Fl EO uo ji cv
    have qN := hid Ai
    clear Ai
    have IS : xn ≤ 8 := by have h1 := ji.out.few; have h2 := Fl.out.2.1; rw [flat4_length] at h2; dsimp only at h2; omega
    have Es : yn ≤ 16 := by have h1 := ji.out.dy.len16 cv.out.dy; have h2 := EO.out.2.1; rw [flat2_length] at h2; dsimp only at h2; omega
    have Av : w8.cell? ⟨RB, 10, none⟩ = some (.int .i64 nt) := by rw [hb.cell]; exact l6.out.1
    have o3 := tS.out.box.c3
    have fo := tS.out.box.frozen
    have jC := tS.out.box.lt
    have pB := hid (tS.out.setNx nt)
    have iy := tS.out.boxed 3 (.int .i64 nt)
    have iZ := hid (Pr.out.kept iy (by omega))
    have Ep := hid (Nz.out.kept iy (by omega))
    have iK := hid (hb.kept iy (by omega))
    clear iy hb
    go_upto_region 19 with fail
    generalize w8.setCell ⟨O, 3, none⟩ (.int .i64 nt) = w9 at *
    clear o3 fo jC Av tS Pr Nz
    have Ao : w9.cell? ⟨RB, 11, none⟩ = some (.slice xa xn xc) := by rw [iK.out.cell]; exact l6.out.2.1
    have o4 := pB.out.box.c4
    obtain ⟨ta, tc, wa, fE, jO, Cb, rj⟩ := run_app0 (ty := 26) Tryz.underlying26 pZ lj lq lf rfl (by omega) (by omega) (Fl.out.same pB.out.keep) (by omega)
    have rX := hid fE
    have s7 := hid (pB.out.same rj)
    have Bz := hid (pB.out.setT rj jO Cb)
    have iy := s7.out.boxed 4 (.slice ta xn tc)
    have PL := hid ((iZ.out.same rj).kept iy (by omega))
    have OE := hid ((Ep.out.same rj).kept iy (by omega))
    have xr := hid ((iK.out.same rj).kept iy (by omega))
    have Tq := s7.out.box.c4
    have fo := s7.out.box.frozen
    have jC := s7.out.box.lt
    clear iy fE jO Cb rj
    go_upto_region 20 with (at_builtin; refine Lib.wpList_append_run _ rfl _ _ _ _ rfl _ _ rfl rfl _ _ rX.out ?_)
    generalize wa.setCell ⟨O, 4, none⟩ (.slice ta xn tc) = wb at *
    clear o4 Tq fo jC Ao pB iZ Ep iK s7 rX
    have Ki : wb.cell? ⟨RB, 12, none⟩ = some (.slice ya yn yc) := by rw [xr.out.cell]; exact l6.out.2.2
    have o5 := Bz.out.box.c5
    obtain ⟨da, dc, wd, fE, jO, Cb, rj⟩ := run_app0 (ty := 27) Tryz.underlying27 tm xY yI yo rfl (by omega) (by omega) (EO.out.same Bz.out.keep) (by omega)
    have rX := hid fE
    have s7 := hid (Bz.out.same rj)
    have ED := hid (Bz.out.setD rj jO (fun b h => .inr (Cb b h)))
    have iy := s7.out.boxed 5 (.slice da yn dc)
    have vj := hid ((PL.out.same rj).kept iy (by omega))
    have Do := hid ((OE.out.same rj).kept iy (by omega))
    have R2 := s7.out.box.c5
    have fo := s7.out.box.frozen
    have jC := s7.out.box.lt
    clear iy fE jO Cb rj
    go_upto_region 21 with (at_builtin; refine Lib.wpList_append_run _ rfl _ _ _ _ rfl _ _ rfl rfl _ _ rX.out ?_)
    generalize wd.setCell ⟨O, 5, none⟩ (.slice da yn dc) = we at *
    clear o5 R2 fo jC Ki Bz PL OE xr s7 rX l6 jw Fl EO
    have Qx : Hid (AnM w we O n e' S0 ta xn tc da yn dc none 0 0) := by
     unfold Hid
     have h := ED.out
     dsimp only at h
     rw [← uo.out] at h
     have h3 : S0.im = [] := by rw [← qN.out]; rfl
     have h4 : S0 = ⟨S0.nx, S0.tx, S0.dy, []⟩ := by rw [← h3]
     rw [h4]
     exact h
    clear ED uo bk mY
    go_wp2_with fail
    go_loopw [10] (fun iv wr => ∃ (j : Nat) (s : AzS) (ta : Option Addr) (tn tc : Nat) (da : Option Addr) (dn dc : Nat) (ia : Option Addr) (il ic : Nat), k + 2 ≤ j ∧ j ≤ n ∧ iv = .int .i64 j ∧ Hid (azF S0 (((fs6 ps).take j).drop (k + 2)) = some s) ∧ Hid (AnM w wr O n e' s ta tn tc da dn dc ia il ic) ∧ Hid (Blk wr S 34 [.slice (some ⟨b, off, none⟩) L vc, .int .i64 en]) ∧ Hid (Blk wr Z 30 [.int .i64 0, .int .i64 0, .int .i64 0, .int .i64 0, .slice none 0 0, .slice none 0 0, .slice none 0 0])) (fun iv _ => n - (intOf iv).toNat)
    case atStart => exact ⟨k + 2, S0, ta, xn, tc, da, yn, dc, none, 0, 0, Nat.le_refl _, KH, by go_num, by unfold Hid; rw [drop_take_self]; rfl, Qx, vj, Do⟩
    case round =>
    clear Qx vj Do IS Es
    obtain ⟨j, s, ta, tn, tc, da, dn, dc, ia, il, ic, OH, U6, rfl, pY, HOr, mX, lB⟩ := hrel
    have tq := (show Hid (AzOk s) from azF_ok ji.out pY.out)
    have EK := (show Hid (AzB s) from azF_b cv.out (good_part pV.out) pY.out)
    have vY : dn ≤ 16 := by have h1 := tq.out.dy.len16 EK.out.dy; have h2 := HOr.out.len2; omega
    have uv : il ≤ 16 := by have h1 := tq.out.im.len16 EK.out.im; have h2 := HOr.out.len1; omega
    have N7 : tn ≤ 8 := by have h1 := tq.out.few; have h2 := HOr.out.len4; omega
    have jC := HOr.out.box.lt
    obtain ⟨s0, s1⟩ := mX.out.all2
    by_cases dh : j < n
    ·have RA : j < L := by omega
     have og : j < ps.length := by rw [HL.out]; exact RA
     have Ug : (j : Int) < (L : Int) := by omega
     obtain ⟨E7, rh⟩ : ∃ q, f6 ps[j] = q := ⟨_, rfl⟩
     have Fc : Hid (GF E7) := by unfold Hid; rw [← rh]; exact stray_GF (pV.out j og)
     have qz : Hid (azT s E7 = none → R = azBad 2) := fun h => by
      rw [← HR.out]
      refine azAns_3 (n := n) qm.out Df.out (by rw [HL.out]; exact qO.out) ?_
      rw [A2.out, qN.out]
      exact azF_stop OH dh (by rw [HL.out]; exact Ia) pY.out og (by rw [rh]; exact h)
     have uc : Hid (∀ s', azT s E7 = some s' → azF S0 (((fs6 ps).take (j + 1)).drop (k + 2)) = some s') := fun s' h => azF_on OH pY.out og (by rw [rh]; exact h)
     clear pY
     obtain ⟨fc, tK⟩ : ∃ x, kFr.cells ps[j] = x := ⟨_, rfl⟩
     obtain ⟨rc, sE⟩ : ∃ x, recCells ps[j].record = x := ⟨_, rfl⟩
     have gW : Hid (wr.rangeAt b (off + j * 16) fc) := by unfold Hid; rw [← tK]; exact (je.out.same HOr.out.keep).row j og
     have jw : Hid (fc.length = 16) := by unfold Hid; rw [← tK]; rfl
     have iW : Hid (fc.toArray.all (·.oneCell') = true) := by unfold Hid; rw [← tK]; exact frCells_one _
     have HI : Hid ((Tryz.prog.info? 51).map (·.size) = some fc.length) := by unfold Hid; rw [jw.out]; kernel_rfl
     have rv : Hid (rc.length = 14) := by unfold Hid; rw [← sE]; rfl
     have wK : Hid (rc.toArray.all (·.oneCell') = true) := by unfold Hid; rw [← sE]; exact recCells_one _
     have nH : Hid ((Tryz.prog.info? 49).map (·.size) = some rc.length) := by unfold Hid; rw [rv.out]; kernel_rfl
     have NZ : Hid (∀ i v, rc[i]? = some v → fc[2 + i]? = some v) := fun i v h => by
      rw [← sE] at h
      rw [← tK, ← h]
      have hi : i < 14 := by have := (List.getElem?_eq_some_iff.1 h).1; simpa [recCells] using this
      rw [Nat.add_comm]
      simp [kFr, StLogFrame.cells, recCells]
     obtain ⟨X, kd, tx, pv, pg, un⟩ := E7
     have pS : Hid (fc[0]? = some (.int .i64 X) ∧ rc[0]? = some (.int .i64 kd) ∧ rc[1]? = some (.int .i64 tx) ∧ rc[2]? = some (.int .i64 pv) ∧ rc[3]? = some (.int .i64 pg) ∧ rc[9]? = some (.int .i64 un)) := by
      unfold Hid
      simp only [f6, Prod.mk.injEq] at rh
      obtain ⟨h1, h2, h3, h4, h5, h6⟩ := rh
      rw [← tK, ← sE, ← h1, ← h2, ← h3, ← h4, ← h5, ← h6]
      exact ⟨rfl, rfl, rfl, rfl, rfl, rfl⟩
     clear rh tK sE
     go_upto_region 25 with (first | (refine wpList_load_mid rfl 51 _ rfl b (off + j * 16) rfl fc _ gW.out Tryz.underlying51 rfl HI.out ?_) | (refine wpList_store_mid rfl 51 _ _ rfl wr.heap.size 0 fc.toArray rfl rfl ((Blk.new wr _ _).there 0 _ (by rw [List.size_toArray, jw.out]; decide)) (by rw [List.size_toArray, jw.out]; kernel_rfl) iW.out ?_; rw [List.toList_toArray]))
     generalize hW : World.setCells _ wr.heap.size 0 fc = wf
     have eg : Blk wf wr.heap.size 51 fc ∧ Same wr wf := by rw [← hW]; exact box_newA wr _ fc _ (by rw [jw.out]; rfl)
     obtain ⟨hb, hk⟩ := eg
     clear hW
     have Na := hid (HOr.out.same hk)
     have NB := hid (mX.out.same hk)
     have NP := hid (lB.out.same hk)
     have Fy : wr.heap.size < wf.heap.size := hb.lt
     have S6 : O < wr.heap.size := jC
     have Ii := (show Hid (∀ b, (Value.slice ta tn tc).ownBlock = some b → b < wr.heap.size) from HOr.out.own4.lt)
     obtain ⟨FB, gH⟩ : ∃ FB, wr.heap.size = FB := ⟨_, rfl⟩
     rw [gH] at hb Fy S6 Ii ⊢
     have Gn := hid hb
     clear gH hk hb HOr mX lB gW HI iW s0 s1 jC
     have pj : Hid (wf.rangeAt FB 2 rc) := Gn.out.range 2 rc (fun i v h => NZ.out i v h)
     go_upto_region 26 with (first | (refine wpList_load_mid rfl 49 _ rfl FB (2) rfl rc _ pj.out Tryz.underlying49 rfl nH.out ?_) | (refine wpList_store_mid rfl 49 _ _ rfl wf.heap.size 0 rc.toArray rfl rfl ((Blk.new wf _ _).there 0 _ (by rw [List.size_toArray, rv.out]; decide)) (by rw [List.size_toArray, rv.out]; kernel_rfl) wK.out ?_; rw [List.toList_toArray]))
     generalize hW : World.setCells _ wf.heap.size 0 rc = wg
     have eg : Blk wg wf.heap.size 49 rc ∧ Same wf wg := by rw [← hW]; exact box_newA wf _ rc _ (by rw [rv.out]; rfl)
     obtain ⟨hb, hk⟩ := eg
     clear hW
     have nV := hid (Na.out.same hk)
     have E8 := hid (NB.out.same hk)
     have Fb := hid (NP.out.same hk)
     have CL := hid (Gn.out.same hk)
     have R0 : wf.heap.size < wg.heap.size := hb.lt
     obtain ⟨RB, qe⟩ : ∃ RB, wf.heap.size = RB := ⟨_, rfl⟩
     rw [qe] at hb Fy R0 ⊢
     have Az := hid hb
     clear qe hk hb Na NB NP Gn pj nH wK jw rv NZ
     have nW := Fc.out.kind
     dsimp only at nW
     by_cases h8 : kd = 8
     ·subst h8
      obtain ⟨r0, r1, r2, r3, r9, f0⟩ := six CL.out Az.out pS.out
      obtain ⟨o0, o1, o2, o3, o4, o5, o6⟩ := nV.out.box.all7
      have fo := nV.out.box.frozen
      have jC := nV.out.box.lt
      as_aux_lemma =>
      go_wp2_with fail
      refine (specAddPage_any ia il ic s.im pg wg nV.out.len1 nV.out.own1 (by omega)).mono ?_
      rintro e wh ⟨ja, jn, jc, rfl, uO, wR, hk⟩
      have ku := hid (nV.out.same hk)
      have nh := hid (nV.out.setI hk uO wR)
      have iy := ku.out.boxed 6 (.slice ja jn jc)
      have qo := hid ((E8.out.same hk).kept iy (by omega))
      have lx := hid ((Fb.out.same hk).kept iy (by omega))
      have nk := hid ((Az.out.same hk).kept iy (by omega))
      clear iy uO wR hk o0 o1 o2 o3 o4 o5 o6 fo jC r0 r1 r2 r3 r9 f0
      have o6 := ku.out.box.c6
      have fo := ku.out.box.frozen
      have jC := ku.out.box.lt
      go_upto_region 28 with fail
      generalize wh.setCell ⟨O, 6, none⟩ (.slice ja jn jc) = wi at *
      clear o6 fo jC
      have r0 : wi.cell? ⟨RB, 0, none⟩ = some (.int .i64 8) := by rw [nk.out.cell]; exact pS.out.2.1
      go_wp2
      go_roundw
      case rel => exact ⟨j + 1, _, ta, tn, tc, da, dn, dc, ja, jn, jc, by omega, by omega, by go_num, uc.out _ (azT_img rfl), nh, qo, lx⟩
      case measure => simp [intOf]; omega
     by_cases h67 : 5 < kd
     ·have A0 : (kd == 8) = false := by simp [h8]
      obtain ⟨r0, r1, r2, r3, r9, f0⟩ := six CL.out Az.out pS.out
      obtain ⟨o0, o1, o2, o3, o4, o5, o6⟩ := nV.out.box.all7
      have fo := nV.out.box.frozen
      have jC := nV.out.box.lt
      have i3 : Hid (azT s (X, kd, tx, pv, pg, un) = some s) := azT_ck (show kd = 6 ∨ kd = 7 by omega)
      clear h8
      go_wp2
      go_roundw
      case rel => exact ⟨j + 1, s, ta, tn, tc, da, dn, dc, ia, il, ic, by omega, by omega, by go_num, uc.out _ (i3.out), nV, E8, Fb⟩
      case measure => simp [intOf]; omega
     have A0 : (kd == 8) = false := by simp [h8]
     have h5 : kd ≤ 5 := by omega
     clear h8 h67
     obtain ⟨r0, r1, r2, r3, r9, f0⟩ := six CL.out Az.out pS.out
     obtain ⟨o0, o1, o2, o3, o4, o5, o6⟩ := nV.out.box.all7
     have fo := nV.out.box.frozen
     have jC := nV.out.box.lt
     go_wp2_with fail
     refine (specFind_any (TE := 57) ta tn tc s.tx tx wg nV.out.len4 nV.out.own4.rd).mono ?_
     rintro e wh ⟨r, rfl, EE, hk⟩
     have ku := hid (nV.out.same hk)
     have AF := hid (E8.out.same hk)
     have BV := hid (Fb.out.same hk)
     have Fa := hid (CL.out.same hk)
     have EM := hid (Az.out.same hk)
     have Vi := hk.size
     have CI := hid EE
     clear EE hk nV E8 Fb CL Az o0 o1 o2 o3 o4 o5 o6 fo jC r0 r1 r2 r3 r9 f0
     go_upto_if 149 with fail
     go_cut [13] (fun kv wx => ∃ (pre post : List Q4) (q : Q4) (N4 : Option Addr) (JS P9 : Nat), kv = .int .i64 pre.length ∧ JS ≤ 9 ∧ Hid (kQ q = tx) ∧ Hid (azT s (X, kd, tx, pv, pg, un) = azV s (X, kd, tx, pv, pg, un) pre post q) ∧ Hid (AnM w wx O n e' ⟨s.nx, pre ++ q :: post, s.dy, s.im⟩ N4 JS P9 da dn dc ia il ic) ∧ Hid (Blk wx S 34 [.slice (some ⟨b, off, none⟩) L vc, .int .i64 en]) ∧ Hid (Blk wx Z 30 [.int .i64 0, .int .i64 0, .int .i64 0, .int .i64 0, .slice none 0 0, .slice none 0 0, .slice none 0 0]) ∧ Hid (Blk wx FB 51 fc) ∧ Hid (Blk wx RB 49 rc) ∧ Hid (∀ g, (Value.slice N4 JS P9).ownBlock = some g → g ≠ FB ∧ g ≠ RB))
     case first =>
      obtain ⟨r0, r1, r2, r3, r9, f0⟩ := six Fa.out EM.out pS.out
      obtain ⟨o0, o1, o2, o3, o4, o5, o6⟩ := ku.out.box.all7
      have fo := ku.out.box.frozen
      have jC := ku.out.box.lt
      rcases CI.out with ⟨hr, lY⟩ | ⟨pre, q, post, nS, gm, fL, hr⟩
      ·subst hr
       have lL := hid lY
       have jr := hid ku.out.len4
       clear CI lY
       by_cases h2 : 2 < kd
       ·have HN := (show Hid (R = azBad 2) from qz.out (azT_miss h5 lL.out (.inl h2)))
        have oZ : (decide (2 < kd)) = true := decide_eq_true h2
        go_upto_region 32 with fail
        obtain ⟨kj, iK, iZ⟩ := bad9 BV.out ku.out.keep nX 2
        have jg := (show Hid (R = azBad 2) from by rw [← HR.out]; rw [HR.out]; exact HN.out)
        refine wp_bsA 159 30 _ _ Z (cA 2).toArray rfl rfl rfl rfl rfl rfl (fun wx => by kernel_rfl) rfl rfl kj.out infoAn (by simp [cA, Value.oneCell']) ?_
        generalize wh.setCells Z 0 (cA 2).toArray.toList = W9 at iK iZ ⊢
        go_wp2
        exact bodyPost_ret (v := .agg (cA 2).toArray) (endZA Tryz.results5 rfl iK.out.rangeAll Tryz.underlying30 rfl infoAn) rfl ⟨badA 2, rfl, jg.out.symm, fun b hb => (badA_foot _ b hb).elim, badA_own _ _, iZ.out⟩
       have oZ : (decide (2 < kd)) = false := decide_eq_false h2
       by_cases h88 : tn = 8
       ·have HN := (show Hid (R = azBad 2) from qz.out (azT_miss h5 lL.out (.inr (by rw [jr.out]; omega))))
        subst h88
        go_upto_region 32 with fail
        obtain ⟨kj, iK, iZ⟩ := bad9 BV.out ku.out.keep nX 2
        have jg := (show Hid (R = azBad 2) from by rw [← HR.out]; rw [HR.out]; exact HN.out)
        refine wp_bsA 159 30 _ _ Z (cA 2).toArray rfl rfl rfl rfl rfl rfl (fun wx => by kernel_rfl) rfl rfl kj.out infoAn (by simp [cA, Value.oneCell']) ?_
        generalize wh.setCells Z 0 (cA 2).toArray.toList = W9 at iK iZ ⊢
        go_wp2
        exact bodyPost_ret (v := .agg (cA 2).toArray) (endZA Tryz.results5 rfl iK.out.rangeAll Tryz.underlying30 rfl infoAn) rfl ⟨badA 2, rfl, jg.out.symm, fun b hb => (badA_foot _ b hb).elim, badA_own _ _, iZ.out⟩
       have Tf : ((tn : Int) == 8) = false := by simp; omega
       have TY : ¬ (tn : Int) = 8 := by omega
       have qt : tn < 8 := by omega
       clear h88
       go_wp2_with fail
       refine (specAddTxn_any ta tn tc s.tx tx 1 0 0 wh jr.out ku.out.own4.rd (by omega)).mono ?_
       rintro e wi ⟨Bj, AU, CS, rfl, Nc, AO, hk⟩
       have BG := hid (ku.out.same hk)
       have nh := hid (ku.out.setT hk Nc AO)
       have iy := BG.out.boxed 4 (.slice Bj AU CS)
       have qo := hid ((AF.out.same hk).kept iy (by omega))
       have lx := hid ((BV.out.same hk).kept iy (by omega))
       have nw := hid ((Fa.out.same hk).kept iy (by omega))
       have nk := hid ((EM.out.same hk).kept iy (by omega))
       have Uj := hid AO
       clear iy Nc AO hk o0 o1 o2 o3 o4 o5 o6 fo jC r0 r1 r2 r3 r9 f0
       have o4 := BG.out.box.c4
       have fo := BG.out.box.frozen
       have jC := BG.out.box.lt
       go_upto_region 34 with fail
       generalize wi.setCell ⟨O, 4, none⟩ (.slice Bj AU CS) = wj at *
       clear o4 fo jC BG
       have o4 := nh.out.box.c4
       have r1 : wj.cell? ⟨RB, 1, none⟩ = some (.int .i64 tx) := by rw [nk.out.cell]; exact pS.out.2.2.1
       go_wp2_with fail
       refine (specFind_any (TE := 57) Bj AU CS (insK kQ (tx, 1, 0, 0) s.tx) tx wj nh.out.len4 nh.out.own4.rd).mono ?_
       rintro e wk ⟨r, rfl, EE, hk⟩
       have GU : AU ≤ 9 := by have h1 := nh.out.len4; dsimp only at h1; rw [insK_length, jr.out] at h1; omega
       rcases EE with ⟨_, lY⟩ | ⟨pre, q, post, nS, gm, fL, hr⟩
       ·exact absurd rfl (lY (tx, 1, 0, 0) (insK_mem.2 (.inl rfl)))
       ·subst hr
        have i3 := (show Hid (azT s (X, kd, tx, pv, pg, un) = azV s (X, kd, tx, pv, pg, un) pre post q) from azT_new (show kd ≤ 2 by omega) (show 1 ≤ kd by omega) lL.out (by rw [jr.out]; exact qt) nS gm fL)
        have GM := (show Hid (AnM w wk O n e' ⟨s.nx, pre ++ q :: post, s.dy, s.im⟩ Bj AU CS da dn dc ia il ic) from by have h := nh.out.same hk; rw [nS] at h; exact h)
        have Af := hid (qo.out.same hk)
        have uh := hid (lx.out.same hk)
        have RJ := hid (nw.out.same hk)
        have S3 := hid (nk.out.same hk)
        have EC := hid fL
        clear nS gm fL hk
        go_wp2
        go_meet
        case rel => exact ⟨pre, post, q, Bj, AU, CS, rfl, GU, EC, i3, GM, Af, uh, RJ, S3, fun g hg => by have := Uj.out g hg; omega⟩
      ·subst hr
       have i3 := (show Hid (azT s (X, kd, tx, pv, pg, un) = azV s (X, kd, tx, pv, pg, un) pre post q) from azT_hit h5 tq.out.tx nS gm fL)
       have GM := (show Hid (AnM w wh O n e' ⟨s.nx, pre ++ q :: post, s.dy, s.im⟩ ta tn tc da dn dc ia il ic) from by have h := ku.out; rw [← nS]; exact h)
       have EC := hid fL
       have UY : ¬ (pre.length : Int) < 0 := by omega
       clear nS gm fL CI
       go_wp2
       go_meet
       case rel => exact ⟨pre, post, q, ta, tn, tc, rfl, by omega, EC, i3, GM, AF, BV, Fa, EM, fun g hg => by have := Ii.out g hg; omega⟩
     case rest =>
     clear CI ku AF BV Fa EM Ii N7 tq
     obtain ⟨pre, post, q, ta, tn, tc, rfl, N7, EC, i3, tO, zi, yN, JB, I9, My⟩ := hcut
     obtain ⟨wq, Ky⟩ : ∃ x, x = wc := ⟨_, rfl⟩
     subst Ky
     obtain ⟨a, st, l, u⟩ := q
     obtain ⟨P, hP⟩ : ∃ P, pre.length = P := ⟨_, rfl⟩
     have qk := hid hP
     obtain ⟨g, ha, VO, Sz, qY, U9, g0, g1, g2, g3, fg⟩ := tO.out.entry rfl
     rw [hP] at Sz g0 g1 g2 g3 ⊢
     subst ha
     obtain ⟨Pv, US⟩ := My.out g rfl
     clear hP My
     have U2 : (P : Int) < (tn : Int) := by omega
     obtain ⟨r0, r1, r2, r3, r9, f0⟩ := six JB.out I9.out pS.out
     obtain ⟨o0, o1, o2, o3, o4, o5, o6⟩ := tO.out.box.all7
     have fo := tO.out.box.frozen
     have jC := tO.out.box.lt
     by_cases oH : pv = l
     rotate_left
     ·have HN := (show Hid (R = azBad 2) from qz.out (by rw [i3.out]; unfold azV; rw [if_pos (.inl (fun h => oH h.symm))]))
      have yl : (pv != l) = true := by simp [oH]
      go_wp2
      go_quiet (fail)
      have hq : Same wq (wq.drewN nq) := (Kept.refl _ _).drewN _
      generalize wq.drewN nq = wz at *
      have E0 := hid (yN.out.same hq)
      have yk := hid (tO.out.keep.trans hq)
      clear hq
      go_upto_region 36 with fail
      obtain ⟨kj, iK, iZ⟩ := bad9 E0.out yk.out nX 2
      have jg := (show Hid (R = azBad 2) from by rw [← HR.out]; rw [HR.out]; exact HN.out)
      refine wp_bsA 181 30 _ _ Z (cA 2).toArray rfl rfl rfl rfl rfl rfl (fun wx => by kernel_rfl) rfl rfl kj.out infoAn (by simp [cA, Value.oneCell']) ?_
      generalize wz.setCells Z 0 (cA 2).toArray.toList = W9 at iK iZ ⊢
      go_wp2
      exact bodyPost_ret (v := .agg (cA 2).toArray) (endZA Tryz.results5 rfl iK.out.rangeAll Tryz.underlying30 rfl infoAn) rfl ⟨badA 2, rfl, jg.out.symm, fun b hb => (badA_foot _ b hb).elim, badA_own _ _, iZ.out⟩
     have yl : (pv != l) = false := by simp [oH]
     have Ed := hid oH
     clear oH
     go_wp2
     go_quiet (fail)
     have hq : Same wq (wq.drewN nq) := (Kept.refl _ _).drewN _
     generalize wq.drewN nq = wz at *
     have Ap := hid (tO.out.same hq)
     have Om := hid (zi.out.same hq)
     have E0 := hid (yN.out.same hq)
     have GA := hid (JB.out.same hq)
     have Gr := hid (I9.out.same hq)
     clear hq tO zi yN JB I9 r0 r1 r2 r3 r9 f0 o0 o1 o2 o3 o4 o5 o6 fo jC g0 g1 g2 g3 fg
     obtain ⟨g', k5, _, _, _, _, g0, g1, g2, g3, fg⟩ := Ap.out.entry rfl
     rw [qk.out] at g0 g1 g2 g3
     obtain rfl : g = g' := by injection k5 with h; injection h
     clear k5
     have xt := (show Hid (AnM w (wz.setCell ⟨g, P * 4 + 2, none⟩ (.int .i64 X)) O n e' ⟨s.nx, pre ++ (a, st, X, u) :: post, s.dy, s.im⟩ (some ⟨g, 0, none⟩) tn tc da dn dc ia il ic) from Ap.out.setQ (P * 4 + 2) X (by rw [← qk.out]; exact (flat4_mid pre post a st l u X).2.1))
     have ll : Kept (fun b => b = g) wz (wz.setCell ⟨g, P * 4 + 2, none⟩ (.int .i64 X)) := Kept.setCell (R := fun b => b = g) (Kept.refl _ _) (p := ⟨g, P * 4 + 2, none⟩) (.inr rfl) _
     have JL := hid (Om.out.kept ll (by omega))
     have FN := hid (E0.out.kept ll (by omega))
     have Fq := hid (GA.out.kept ll (by omega))
     have Fx := hid (Gr.out.kept ll (by omega))
     clear ll
     obtain ⟨r0, r1, r2, r3, r9, f0⟩ := six GA.out Gr.out pS.out
     obtain ⟨o0, o1, o2, o3, o4, o5, o6⟩ := Ap.out.box.all7
     have fo := Ap.out.box.frozen
     have jC := Ap.out.box.lt
     go_upto_region 38 with fail
     generalize wz.setCell ⟨g, P * 4 + 2, none⟩ (.int .i64 X) = wy at *
     clear r0 r1 r2 r3 r9 f0 o0 o1 o2 o3 o4 o5 o6 fo jC g0 g1 g2 g3 fg Ap Om E0 GA Gr
     obtain ⟨nx, qt⟩ : ∃ nx, s.nx = nx := ⟨_, rfl⟩
     have qV := hid qt
     rw [qt] at xt
     clear qt
     have R1 := Fc.out.txn h5
     dsimp only at R1
     obtain ⟨r0, r1, r2, r3, r9, f0⟩ := six Fq.out Fx.out pS.out
     obtain ⟨o0, o1, o2, o3, o4, o5, o6⟩ := xt.out.box.all7
     have fo := xt.out.box.frozen
     have jC := xt.out.box.lt
     go_upto_if 194 with fail
     go_cut [13] (fun kv wx => kv = .int .i64 P ∧ Hid (AnM w wx O n e' ⟨max nx (tx + 1), pre ++ (a, st, X, u) :: post, s.dy, s.im⟩ (some ⟨g, 0, none⟩) tn tc da dn dc ia il ic) ∧ Hid (Blk wx S 34 [.slice (some ⟨b, off, none⟩) L vc, .int .i64 en]) ∧ Hid (Blk wx Z 30 [.int .i64 0, .int .i64 0, .int .i64 0, .int .i64 0, .slice none 0 0, .slice none 0 0, .slice none 0 0]) ∧ Hid (Blk wx FB 51 fc) ∧ Hid (Blk wx RB 49 rc))
     case first =>
      by_cases hm : nx < tx + 1
      ·have nh := (show Hid (AnM w (wy.setCell ⟨O, 3, none⟩ (.int .i64 (tx + 1))) O n e' ⟨max nx (tx + 1), pre ++ (a, st, X, u) :: post, s.dy, s.im⟩ (some ⟨g, 0, none⟩) tn tc da dn dc ia il ic) from by rw [Int.max_eq_right (by omega)]; exact xt.out.setNx (tx + 1))
       have iy := xt.out.boxed 3 (.int .i64 (tx + 1))
       have qo := hid (JL.out.kept iy (by omega))
       have lx := hid (FN.out.kept iy (by omega))
       have nw := hid (Fq.out.kept iy (by omega))
       have nk := hid (Fx.out.kept iy (by omega))
       clear iy
       go_wp2
       go_meet
       case rel => exact ⟨rfl, nh, qo, lx, nw, nk⟩
      ·have nh := (show Hid (AnM w wy O n e' ⟨max nx (tx + 1), pre ++ (a, st, X, u) :: post, s.dy, s.im⟩ (some ⟨g, 0, none⟩) tn tc da dn dc ia il ic) from by rw [Int.max_eq_left (by omega)]; exact xt.out)
       go_wp2
       go_meet
       case rel => exact ⟨rfl, nh, JL, FN, Fq, Fx⟩
     case rest =>
     clear xt JL FN Fq Fx r0 r1 r2 r3 r9 f0 o0 o1 o2 o3 o4 o5 o6 fo jC
     obtain ⟨rfl, oq, tZ, sP, sr, rF⟩ := hcut
     obtain ⟨ny, SC⟩ : ∃ x, x = wc := ⟨_, rfl⟩
     subst SC
     rw [← qV.out] at oq
     clear qV
     obtain ⟨g', k5, _, _, _, _, g0, g1, g2, g3, fg⟩ := oq.out.entry rfl
     rw [qk.out] at g0 g1 g2 g3
     obtain rfl : g = g' := by injection k5 with h; injection h
     clear k5
     obtain ⟨r0, r1, r2, r3, r9, f0⟩ := six sr.out rF.out pS.out
     obtain ⟨o0, o1, o2, o3, o4, o5, o6⟩ := oq.out.box.all7
     have fo := oq.out.box.frozen
     have jC := oq.out.box.lt
     by_cases bg : kd = 1
     ·subst bg
      as_aux_lemma =>
      have jb := (show Hid (AnM w (ny.setCell ⟨g, P * 4 + 3, none⟩ (.int .i64 X)) O n e' ⟨max s.nx (tx + 1), pre ++ (a, st, X, X) :: post, s.dy, s.im⟩ (some ⟨g, 0, none⟩) tn tc da dn dc ia il ic) from oq.out.setQ (P * 4 + 3) X (by rw [← qk.out]; exact (flat4_mid pre post a st X u X).2.2))
      have ll : Kept (fun b => b = g) ny (ny.setCell ⟨g, P * 4 + 3, none⟩ (.int .i64 X)) := Kept.setCell (R := fun b => b = g) (Kept.refl _ _) (p := ⟨g, P * 4 + 3, none⟩) (.inr rfl) _
      have mb := hid (tZ.out.kept ll (by omega))
      have nc := hid (sP.out.kept ll (by omega))
      have j2 := hid (sr.out.kept ll (by omega))
      have i7 := hid (rF.out.kept ll (by omega))
      clear ll
      go_upto_region 53 with fail
      generalize ny.setCell ⟨g, P * 4 + 3, none⟩ (.int .i64 X) = wt at *
      clear r0 r1 r2 r3 r9 f0 o0 o1 o2 o3 o4 o5 o6 fo jC g0 g1 g2 g3 fg oq tZ sP sr rF
      obtain ⟨r0, r1, r2, r3, r9, f0⟩ := six j2.out i7.out pS.out
      have o5 := jb.out.box.c5
      go_wp2_with fail
      refine (specAddDirty_any da dn dc s.dy pg X wt jb.out.len2 jb.out.own2 (by omega)).mono ?_
      rintro e wh ⟨ja, jn, jc, rfl, uO, wR, hk⟩
      have ku := hid (jb.out.same hk)
      have pH := hid (jb.out.setD hk uO wR)
      have iy := ku.out.boxed 5 (.slice ja jn jc)
      have l8 := hid ((mb.out.same hk).kept iy (by omega))
      have pJ := hid ((nc.out.same hk).kept iy (by omega))
      clear iy uO wR hk o5 r0 r1 r2 r3 r9 f0
      have o5 := ku.out.box.c5
      have fo := ku.out.box.frozen
      have jC := ku.out.box.lt
      go_wp2
      go_roundw
      case rel => exact ⟨j + 1, _, (some ⟨g, 0, none⟩), tn, tc, ja, jn, jc, ia, il, ic, by omega, by omega, by go_num, uc.out _ (by rw [i3.out]; unfold azV; rw [if_neg (by rintro (h | h); (exact h Ed.out.symm); (have h1 := h.1; dsimp only at h1; omega))]; rfl), pH, l8, pJ⟩
      case measure => simp [intOf]; omega
     by_cases eC : kd = 2
     ·subst eC
      by_cases Ak : X ≤ un
      ·have HN := (show Hid (R = azBad 2) from qz.out (by rw [i3.out]; unfold azV; rw [if_pos (.inr ⟨rfl, Ak⟩)]))
       go_upto_region 45 with fail
       obtain ⟨kj, iK, iZ⟩ := bad9 sP.out oq.out.keep nX 2
       have jg := (show Hid (R = azBad 2) from by rw [← HR.out]; rw [HR.out]; exact HN.out)
       refine wp_bsA 217 30 _ _ Z (cA 2).toArray rfl rfl rfl rfl rfl rfl (fun wx => by kernel_rfl) rfl rfl kj.out infoAn (by simp [cA, Value.oneCell']) ?_
       generalize ny.setCells Z 0 (cA 2).toArray.toList = W9 at iK iZ ⊢
       go_wp2
       exact bodyPost_ret (v := .agg (cA 2).toArray) (endZA Tryz.results5 rfl iK.out.rangeAll Tryz.underlying30 rfl infoAn) rfl ⟨badA 2, rfl, jg.out.symm, fun b hb => (badA_foot _ b hb).elim, badA_own _ _, iZ.out⟩
      as_aux_lemma =>
      have jb := (show Hid (AnM w (ny.setCell ⟨g, P * 4 + 3, none⟩ (.int .i64 un)) O n e' ⟨max s.nx (tx + 1), pre ++ (a, st, X, un) :: post, s.dy, s.im⟩ (some ⟨g, 0, none⟩) tn tc da dn dc ia il ic) from oq.out.setQ (P * 4 + 3) un (by rw [← qk.out]; exact (flat4_mid pre post a st X u un).2.2))
      have ll : Kept (fun b => b = g) ny (ny.setCell ⟨g, P * 4 + 3, none⟩ (.int .i64 un)) := Kept.setCell (R := fun b => b = g) (Kept.refl _ _) (p := ⟨g, P * 4 + 3, none⟩) (.inr rfl) _
      have mb := hid (tZ.out.kept ll (by omega))
      have nc := hid (sP.out.kept ll (by omega))
      have j2 := hid (sr.out.kept ll (by omega))
      have i7 := hid (rF.out.kept ll (by omega))
      clear ll
      go_upto_region 53 with fail
      generalize ny.setCell ⟨g, P * 4 + 3, none⟩ (.int .i64 un) = wt at *
      clear r0 r1 r2 r3 r9 f0 o0 o1 o2 o3 o4 o5 o6 fo jC g0 g1 g2 g3 fg oq tZ sP sr rF
      obtain ⟨r0, r1, r2, r3, r9, f0⟩ := six j2.out i7.out pS.out
      have o5 := jb.out.box.c5
      go_wp2_with fail
      refine (specAddDirty_any da dn dc s.dy pg X wt jb.out.len2 jb.out.own2 (by omega)).mono ?_
      rintro e wh ⟨ja, jn, jc, rfl, uO, wR, hk⟩
      have ku := hid (jb.out.same hk)
      have pH := hid (jb.out.setD hk uO wR)
      have iy := ku.out.boxed 5 (.slice ja jn jc)
      have l8 := hid ((mb.out.same hk).kept iy (by omega))
      have pJ := hid ((nc.out.same hk).kept iy (by omega))
      clear iy uO wR hk o5 r0 r1 r2 r3 r9 f0
      have o5 := ku.out.box.c5
      have fo := ku.out.box.frozen
      have jC := ku.out.box.lt
      go_wp2
      go_roundw
      case rel => exact ⟨j + 1, _, (some ⟨g, 0, none⟩), tn, tc, ja, jn, jc, ia, il, ic, by omega, by omega, by go_num, uc.out _ (by rw [i3.out]; unfold azV; rw [if_neg (by rintro (h | h); (exact h Ed.out.symm); (have h1 := h.2; dsimp only at h1; omega))]; rfl), pH, l8, pJ⟩
      case measure => simp [intOf]; omega
     by_cases ix : kd = 3
     ·subst ix
      as_aux_lemma =>
      have jb := (show Hid (AnM w (ny.setCell ⟨g, P * 4 + 1, none⟩ (.int .i64 2)) O n e' ⟨max s.nx (tx + 1), pre ++ (a, 2, X, u) :: post, s.dy, s.im⟩ (some ⟨g, 0, none⟩) tn tc da dn dc ia il ic) from oq.out.setQ (P * 4 + 1) 2 (by rw [← qk.out]; exact (flat4_mid pre post a st X u 2).1))
      have ll : Kept (fun b => b = g) ny (ny.setCell ⟨g, P * 4 + 1, none⟩ (.int .i64 2)) := Kept.setCell (R := fun b => b = g) (Kept.refl _ _) (p := ⟨g, P * 4 + 1, none⟩) (.inr rfl) _
      have mb := hid (tZ.out.kept ll (by omega))
      have nc := hid (sP.out.kept ll (by omega))
      have j2 := hid (sr.out.kept ll (by omega))
      have i7 := hid (rF.out.kept ll (by omega))
      clear ll
      go_upto_region 53 with fail
      generalize ny.setCell ⟨g, P * 4 + 1, none⟩ (.int .i64 2) = wt at *
      clear r0 r1 r2 r3 r9 f0 o0 o1 o2 o3 o4 o5 o6 fo jC g0 g1 g2 g3 fg oq tZ sP sr rF
      have r0 : wt.cell? ⟨RB, 0, none⟩ = some (.int .i64 3) := by rw [i7.out.cell]; exact pS.out.2.1
      go_wp2
      go_roundw
      case rel => exact ⟨j + 1, _, (some ⟨g, 0, none⟩), tn, tc, da, dn, dc, ia, il, ic, by omega, by omega, by go_num, uc.out _ (by rw [i3.out]; unfold azV; rw [if_neg (by rintro (h | h); (exact h Ed.out.symm); (have h1 := h.1; dsimp only at h1; omega))]; rfl), jb, mb, nc⟩
      case measure => simp [intOf]; omega
     by_cases kl : kd = 4
     ·subst kl
      as_aux_lemma =>
      have jb := (show Hid (AnM w (ny.setCell ⟨g, P * 4 + 1, none⟩ (.int .i64 3)) O n e' ⟨max s.nx (tx + 1), pre ++ (a, 3, X, u) :: post, s.dy, s.im⟩ (some ⟨g, 0, none⟩) tn tc da dn dc ia il ic) from oq.out.setQ (P * 4 + 1) 3 (by rw [← qk.out]; exact (flat4_mid pre post a st X u 3).1))
      have ll : Kept (fun b => b = g) ny (ny.setCell ⟨g, P * 4 + 1, none⟩ (.int .i64 3)) := Kept.setCell (R := fun b => b = g) (Kept.refl _ _) (p := ⟨g, P * 4 + 1, none⟩) (.inr rfl) _
      have mb := hid (tZ.out.kept ll (by omega))
      have nc := hid (sP.out.kept ll (by omega))
      have j2 := hid (sr.out.kept ll (by omega))
      have i7 := hid (rF.out.kept ll (by omega))
      clear ll
      go_upto_region 53 with fail
      generalize ny.setCell ⟨g, P * 4 + 1, none⟩ (.int .i64 3) = wt at *
      clear r0 r1 r2 r3 r9 f0 o0 o1 o2 o3 o4 o5 o6 fo jC g0 g1 g2 g3 fg oq tZ sP sr rF
      have r0 : wt.cell? ⟨RB, 0, none⟩ = some (.int .i64 4) := by rw [i7.out.cell]; exact pS.out.2.1
      go_wp2
      go_roundw
      case rel => exact ⟨j + 1, _, (some ⟨g, 0, none⟩), tn, tc, da, dn, dc, ia, il, ic, by omega, by omega, by go_num, uc.out _ (by rw [i3.out]; unfold azV; rw [if_neg (by rintro (h | h); (exact h Ed.out.symm); (have h1 := h.1; dsimp only at h1; omega))]; rfl), jb, mb, nc⟩
      case measure => simp [intOf]; omega
     obtain rfl : kd = 5 := by omega
     as_aux_lemma =>
     have O8 := (show Hid ((pre ++ (a, st, X, u) :: post).length = tn) from oq.out.len4)
     go_upto_region 52 with fail
     refine wp_region_V (fun wx : World => wx.cell? ⟨O, 4, none⟩ = some (.slice (some ⟨g, 0, none⟩) tn tc)) 13 14 rfl (by kernel_rfl) ?_
     have jB : Same ny ny.drew := (Kept.refl _ _).drew
     generalize ny.drew = wd at *
     have nI := hid (oq.out.same jB)
     have tM := hid (tZ.out.same jB)
     have xE := hid (sP.out.same jB)
     have wW := hid (sr.out.same jB)
     have uq := hid (rF.out.same jB)
     clear jB r0 r1 r2 r3 r9 f0 o0 o1 o2 o3 o4 o5 o6 fo jC g0 g1 g2 g3 fg oq tZ sP sr rF
     have hS : (fun wx : World => wx.cell? ⟨O, 4, none⟩ = some (.slice (some ⟨g, 0, none⟩) tn tc)) wd := nI.out.box.c4
     have Qm := (show Hid (OwnF 4 57 wd g tn tc (flat4 (pre ++ (a, st, X, u) :: post))) from nI.out.own4)
     have S7 : (P : Int) ≤ (tc : Int) := by omega
     have ub : (P : Int) + 1 ≤ (tn : Int) := by omega
     have IZ : (P : Int) + 1 ≤ (tc : Int) := by omega
     have JJ : 0 ≤ (P : Int) + 1 := by omega
     have G8 : ((P : Int) + 1).toNat = P + 1 := by omega
     have Kv : IntKind.i64.wrap ((P : Int) + 1) = (P : Int) + 1 := by rw [IntKind.wrap_i64]; omega
     obtain ⟨a7, uE⟩ : ∃ a7 : Option Addr, (if tc = P + 1 then some (⟨g, 0, none⟩ : Addr) else some ⟨g, (P + 1) * 4, none⟩) = a7 := ⟨_, rfl⟩
     refine tk 1 242 hS ?_
     refine tk 2 243 hS ?_
     refine tk 3 244 hS ?_
     refine tkV 4 245 (.slice (some ⟨g, 0, none⟩) P tc) hS ?_
     refine tk 6 247 hS ?_
     refine tk 7 248 hS ?_
     refine tk 8 249 hS ?_
     refine tkV 9 250 (.int .i64 ((P : Int) + 1)) hS ?_
     refine tkV 10 251 (.slice a7 (tn - (P + 1)) (tc - (P + 1))) hS ?_
     obtain ⟨Fi, Jp, Ea⟩ : ∃ Fi : Addr, a7 = some Fi ∧ (0 < tn - (P + 1) → Fi = ⟨g, (P + 1) * 4, none⟩) := by
      rw [← uE]
      by_cases h : tc = P + 1
      ·exact ⟨_, if_pos h, fun h2 => by omega⟩
      ·exact ⟨_, if_neg h, fun _ => rfl⟩
     subst Jp
     clear uE
     have tA := (show Hid (∀ j, j < tn * 4 → wd.cell? ⟨g, j, none⟩ = some (.int .i64 ((flat4 (pre ++ (a, st, X, u) :: post)).getD j 0))) from fun j hj => Qm.out.cell j hj)
     have KD : g < wd.heap.size := nI.out.own4.lt g rfl
     refine wpAnyV_one (i := 0) (by kernel_rfl) rfl (fun Kc hK => ?_)
     go_simp
     have vq := (show Hid (Same wd (wd.alloc (.cells #[] 57))) from (Kept.refl _ _).alloc _)
     refine hK.out _ _ (fun _ => vq.out.cellOf nI.out.box.c4 id) ?_
     clear hK Kc
     try simp only [Act.put, sA, s0, sS]
     obtain ⟨a8, c8, QI, Gg, EV, K9⟩ := appB (ty := 26) (madeB 57 wd wd.heap.size (Nat.le_refl _)) (by rw [World.size_alloc]; omega) Tryz.underlying26 pZ lj lq lf rfl ⟨g, 0, none⟩ P tc (flat4 ((pre ++ (a, st, X, u) :: post).take P)) (by rw [flat4_length, List.length_take, O8.out]; omega) (fun j hj => by
      rw [addr_add, Nat.zero_add, ← flat4_take, getD_take hj]
      exact vq.out.cellOf (tA.out j (by omega)) id) (by omega)
     rw [Nat.zero_add] at Gg EV
     have yF := hid (vq.out.next (Kept.of_grown K9 (fun k e => e)) (fun b hb e => by rw [ownBlk] at e; have := Option.some.inj e; omega))
     refine wpAnyV_one (i := 5) (by kernel_rfl) rfl (fun Kc hK => ?_)
     refine step_append_runQ (by rfl) (.tmp 241) (.tmp 245) 26 26 (by rfl) _ _ (by rfl) (by rfl) _ _ Gg ?_
     refine hK.out _ _ (fun _ => yF.out.cellOf nI.out.box.c4 id) ?_
     clear hK Kc
     try simp only [List.getElem_toArray, List.getElem_cons_succ, List.getElem_cons_zero]
     try simp only [Act.put, sA, s0, sS]
     obtain ⟨a9, c9, Bf, H5, EF, PS⟩ := appB (ty := 26) EV (yF.out.size) Tryz.underlying26 pZ lj lq lf rfl Fi (tn - (P + 1)) (tc - (P + 1)) (flat4 ((pre ++ (a, st, X, u) :: post).drop (P + 1))) (by rw [flat4_length, List.length_drop, O8.out]) (fun j hj => by
      rw [Ea (by omega), addr_add, ← flat4_drop, getD_drop]
      exact yF.out.cellOf (tA.out _ (by omega)) id) (by omega)
     obtain ⟨NL, Ob⟩ : ∃ NL, P + (tn - (P + 1)) = NL := ⟨_, rfl⟩
     rw [Ob] at H5 EF
     clear Ob
     have uL := hid (yF.out.next (Kept.of_grown PS (fun k e => e)) (fun b hb e => by have := ownB_le EV b e; omega))
     refine wpAnyV_one (i := 11) (by kernel_rfl) rfl (fun Kc hK => ?_)
     refine step_append_runQ (by rfl) (.tmp 246) (.tmp 251) 26 26 (by rfl) _ _ (by rfl) (by rfl) _ _ H5 ?_
     have hS : (fun wx : World => wx.cell? ⟨O, 4, none⟩ = some (.slice (some ⟨g, 0, none⟩) tn tc)) Bf := uL.out.cellOf nI.out.box.c4 id
     refine hK.out _ _ (fun _ => hS) ?_
     clear hK Kc
     try simp only [List.getElem_toArray, List.getElem_cons_succ, List.getElem_cons_zero]
     try simp only [Act.put, sA, s0, sS]
     have pB := (show Hid (OwQ 4 57 Bf a9 NL c9 (flat4 (pre ++ post))) from by
      have h := ownB_zero EF
      rw [List.nil_append, ← flat4_append, ← qk.out] at h
      have h1 : (pre ++ (a, st, X, u) :: post).take pre.length = pre := by simp
      have h2 : (pre ++ (a, st, X, u) :: post).drop (pre.length + 1) = post := by simp
      rw [h1, h2] at h
      exact h)
     have Ni := (show Hid (∀ b, (Value.slice a9 NL c9).ownBlock = some b → wd.heap.size ≤ b) from ownB_le EF)
     have ku := hid (nI.out.same uL.out)
     have pH := hid (nI.out.setT uL.out pB.out Ni.out)
     have iy := ku.out.boxed 4 (.slice a9 NL c9)
     have l8 := hid ((tM.out.same uL.out).kept iy (by omega))
     have pJ := hid ((xE.out.same uL.out).kept iy (by omega))
     have mG := hid ((uq.out.same uL.out).kept iy (by omega))
     clear iy Gg EV K9 H5 EF PS vq yF uL pB Ni nI tM xE wW uq tA Qm Ea G8 Kv ub IZ JJ S7 KD
     refine tk 12 253 hS ?_
     have o4 := ku.out.box.c4
     have fo := ku.out.box.frozen
     have jC := ku.out.box.lt
     refine wpAnyV_one (i := 13) (by kernel_rfl) rfl (fun Kc hK => ?_)
     go_simp
     refine hK.out _ _ (fun h => absurd rfl h) ?_
     clear hK Kc
     refine wpAnyV_done (by kernel_rfl) ?_
     try simp only [Act.put, sA, s0, sS]
     generalize Bf.setCell ⟨O, 4, none⟩ (.slice a9 NL c9) = wt at *
     clear o4 fo jC hS ku
     have r0 : wt.cell? ⟨RB, 0, none⟩ = some (.int .i64 5) := by rw [mG.out.cell]; exact pS.out.2.1
     go_wp2
     go_roundw
     case rel => exact ⟨j + 1, _, a9, NL, c9, da, dn, dc, ia, il, ic, by omega, by omega, by go_num, uc.out _ (by rw [i3.out]; unfold azV; rw [if_neg (by rintro (h | h); (exact h Ed.out.symm); (have h1 := h.1; dsimp only at h1; omega))]; rfl), pH, l8, pJ⟩
     case measure => simp [intOf]; omega
    ·obtain rfl : n = j := by omega
     have HN := (show Hid (R = (0, (n : Int), e', s.nx, flat4 s.tx, flat2 s.dy, s.im)) from by
      rw [← HR.out, HE.out, ← HL.out]
      exact azAns_4 qm.out Df.out (by rw [HL.out]; exact qO.out) (by rw [A2.out, qN.out]; exact pY.out))
     have kj := (show Hid (wr.there Z 0 7) from lB.out.there 0 7 (by decide))
     have qT : Blk (wr.setCells Z 0 [.int .i64 0, .int .i64 n, .int .i64 e', .int .i64 s.nx, .slice ta tn tc, .slice da dn dc, .slice ia il ic]) Z 30 [.int .i64 0, .int .i64 n, .int .i64 e', .int .i64 s.nx, .slice ta tn tc, .slice da dn dc, .slice ia il ic] := blk_putA lB.out _ rfl
     obtain ⟨cs, dY⟩ : ∃ cs : List Value, [.int .i64 0, .int .i64 n, .int .i64 e', .int .i64 s.nx, .slice ta tn tc, .slice da dn dc, .slice ia il ic] = cs := ⟨_, rfl⟩
     have jw : Hid (cs.length = 7) := by unfold Hid; rw [← dY]; rfl
     have iW : Hid (cs.toArray.all (·.oneCell') = true) := by unfold Hid; rw [← dY]; simp [Value.oneCell']
     have HI : Hid ((Tryz.prog.info? 30).map (·.size) = some cs.length) := by unfold Hid; rw [jw.out]; kernel_rfl
     have gW : Hid (wr.rangeAt O 0 cs) := by unfold Hid; rw [← dY]; exact HOr.out.box.rangeAll
     rw [dY] at qT
     have iK := hid qT
     have iZ := (show Hid (Same w (wr.setCells Z 0 cs)) from Kept.setCells (.inl (Nat.le_of_lt nX)) _ _ HOr.out.keep)
     have zZ := (show Hid (OwnL (wr.setCells Z 0 cs) _) from HOr.out.answer.kept (R := fun b => b = Z) (Kept.setCells (R := fun b => b = Z) (.inr rfl) _ _ (Kept.refl (fun b => b = Z) _)) (fun b hb e => by have := HOr.out.foot b hb; omega))
     have l6 := hid dY
     clear qT dY
     go_wp2_with (first | (refine wpList_load_mid rfl 30 _ rfl O 0 rfl cs _ gW.out Tryz.underlying30 rfl HI.out ?_) | (refine wpList_store_mid rfl 30 _ _ rfl Z 0 cs.toArray rfl rfl (by rw [List.size_toArray, jw.out]; exact kj.out) (by rw [List.size_toArray, jw.out]; kernel_rfl) iW.out ?_; rw [List.toList_toArray]))
     refine bodyPost_ret (v := .agg cs.toArray) ?_ rfl ?_
     ·exact endZA Tryz.results5 rfl iK.out.rangeAll Tryz.underlying30 rfl HI.out
     ·refine ⟨⟨0, n, e', s.nx, ⟨57, ta, tn, tc, flat4 s.tx⟩, ⟨60, da, dn, dc, flat2 s.dy⟩, ⟨2, ia, il, ic, s.im⟩⟩, ?_, HN.out.symm, fun b hb => by have := HOr.out.foot b hb; omega, zZ.out, iZ.out⟩
      rw [← l6.out]
      rfl
end Go.Proofs.YtepdakgfioffgaaGreat
