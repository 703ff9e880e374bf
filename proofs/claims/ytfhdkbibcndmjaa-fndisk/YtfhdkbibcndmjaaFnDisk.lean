import Derived.Test.YtfhdkbibcndmjaaG15
import Derived.Deep.DeepCutAuto
namespace Go.Proofs.Ytfhdkbibcndmjaa
set_option maxRecDepth 100000
set_option maxHeartbeats 16000000
open Go.RowKit
set_option linter.unusedVariables false
set_option linter.unusedSimpArgs false
theorem fnDisk_law (v0 : Value) (cs : List Int) (v1 : Value) (ms : List Int) (w : World) (hv0 : Rd .u8 w v0 cs) (hB0 : IsB cs) (hv1 : Rd .u8 w v1 ms) (hB1 : IsB ms) :
    Calls Try.prog 3 #[v0, v1] w fun e w' => e = .returned (.bool true) ∧ Same w w' := by
  obtain ⟨a0, c0, rfl⟩ := hv0.form
  obtain ⟨a1, c1, rfl⟩ := hv1.form
  have hm0 := hv0.1
  have hm1 := hv1.1
  unfold maxLen at hm0 hm1
  by_cases h0 : (1048576 : Int) < (cs.length : Int)
  · go_enter Try.func3, Try.ntmps3
    go_wp2
    go_ret
    exact ⟨rfl, Kept.refl _ _⟩
  by_cases h1 : (1048576 : Int) < (ms.length : Int)
  · go_enter Try.func3, Try.ntmps3
    go_wp2
    go_ret
    exact ⟨rfl, Kept.refl _ _⟩
  have kD := drawRun_any (.slice a0 cs.length c0) cs w hB0 (by omega) hv0
  have kA := fun (j : Nat) (hj : j ≤ 1000) (n : Int) (hn : IsI n) wx (hx : Same w wx) => lwAt_any (.slice a1 ms.length c1) ms j n wx hB1 (by omega) (by omega) hn (hv1.same hx)
  have kK := fun wx (hx : Same w wx) => keep_any (.slice a1 ms.length c1) ms 1 wx hB1 (by omega) (by omega) (hv1.same hx)
  clear hv0 hv1 hB0 hB1 hm0 hm1
  generalize cs.length = cn at kD h0
  generalize ms.length = mn at kA kK h1
  go_enter Try.func3, Try.ntmps3
  go_wp2_with fail
  refine kD.mono ?_
  rintro e w1 ⟨dv, pv, dur, ps, g, oc, os, lim, rfl, hd1, hd2, hd3, hrd, ho1, ho2, ho3, hro, hk1⟩
  obtain ⟨da, dc, rfl⟩ := hrd.dur.form
  obtain ⟨pa, pc, rfl⟩ := hrd.pend.form
  have HRD := hid hrd
  have HRO := hid hro
  have HO3 := hid ho3
  have HD3 := hid hd3
  have HK1 := hid hk1
  obtain ⟨n, hn⟩ : ∃ n, dur.length = n := ⟨_, rfl⟩
  obtain ⟨np, hnp⟩ : ∃ n, ps.length = n := ⟨_, rfl⟩
  obtain ⟨no, hno⟩ : ∃ n, os.length = n := ⟨_, rfl⟩
  rw [hn, hnp] at HRD
  rw [hno] at HRO ho1 ho2 ⊢
  rw [hn, hnp]
  rw [hn] at hd1
  rw [hnp] at hd2
  have HN := hid hn
  have HNP := hid hnp
  have HNO := hid hno
  clear hrd hro ho3 hd3 hk1 kD hn hnp hno
  have HB5 := hid (Blk.new w1 #[.slice da n dc, .slice pa np pc] 25)
  have HS5 := (show Hid (Same w1 (w1.alloc (.cells #[.slice da n dc, .slice pa np pc] 25))) from (Kept.refl _ _).alloc _)
  have kV := specValid_any (.slice da n dc) (.slice pa np pc) dur ps _ (HRD.out.same HS5.out)
  obtain ⟨D, hD⟩ : ∃ D, w1.heap.size = D := ⟨_, rfl⟩
  have HDD := hid hD
  rw [hD] at HB5
  clear hD
  go_wp2_with fail
  generalize w1.alloc (.cells #[.slice da n dc, .slice pa np pc] 25) = w2 at HB5 HS5 kV ⊢
  rw [HDD.out]
  clear HDD
  refine kV.mono ?_
  rintro e w3 ⟨⟨bv, rfl, hbv⟩, hk3⟩
  have HB3 := hid (HB5.out.same hk3)
  have HS3 := hid (HS5.out.trans hk3)
  have HBV := hid hbv
  clear hk3 hbv kV HB5 HS5
  obtain ⟨d0, d1⟩ := HB3.out.all2
  cases bv with
  | false =>
    have kI := implValid_any (.slice da n dc) (.slice pa np pc) dur ps _ (HRD.out.same HS3.out)
    go_wp2_with fail
    refine kI.mono ?_
    rintro e w4 ⟨⟨bi, rfl, hbi⟩, hk4⟩
    have e4 : bi = false := by
      cases bi with
      | false => rfl
      | true => have := HBV.out.2 (hbi.1 rfl); cases this
    subst e4
    have HK4 := hid ((HK1.out.trans HS3.out).trans hk4)
    clear hk4 hbi
    go_wp2
    go_ret
    exact ⟨rfl, HK4.out⟩
  | true =>
  have HVL := hid (HBV.out.1 rfl)
  clear HBV
  obtain ⟨O, hO⟩ : ∃ O, datOpS os = O := ⟨_, rfl⟩
  have HO := hid hO
  have HOL := (show Hid (O.length = no) from by unfold Hid; rw [← hO, datOpS_length]; exact HNO.out)
  clear hO
  obtain ⟨X, hX⟩ : ∃ X, runD dur (dataP ps) O = X := ⟨_, rfl⟩
  have HX := hid hX
  clear hX
  have kR := fun wx (hx : Same w1 wx) (lm : Int) => runAns_any (.slice da n dc) (.slice pa np pc) dur ps g 0 oc os no lm wx (by rw [HN.out]; omega) (by rw [HNP.out]; omega) (fun p hp => by have := HD3.out p hp; omega) (HRD.out.same hx) HVL.out HNO.out.symm (by rw [HNO.out]; exact ho2) (HRO.out.same hx)
  have kX := kR w3 HS3.out (-1)
  rw [HNO.out, usedO_neg, allO_neg, HO.out, ← HOL.out, List.take_length, HX.out, HOL.out] at kX
  go_wp2_with fail
  refine kX.mono ?_
  rintro e w4 ⟨xd, xp, xq, rfl, hxq, hxr, _, hk4⟩
  obtain ⟨xa, xc, rfl⟩ := hxr.dur.form
  obtain ⟨ya, yc, rfl⟩ := hxr.pend.form
  have HXV := (show Hid (X.1.length = dur.length ∧ Valid dur.length X.2) from by have h := runD_valid HVL.out O O.length (Nat.le_refl _); rw [List.take_length, HX.out] at h; exact h)
  rw [HXV.out.1, HN.out] at hxr ⊢
  have HXQ := hid hxq
  obtain ⟨nx, hnx⟩ : ∃ n, xq.length = n := ⟨_, rfl⟩
  rw [hnx] at hxr ⊢
  have HNX := hid hnx
  have HRX := (show Hid (RdD (w4.alloc (.cells #[.bool true, .int .i64 (no : Int), .slice xa n xc, .slice ya nx yc] 31)) (.slice xa n xc) (.slice ya nx yc) X.1 xq) from hxr.same ((Kept.refl _ _).alloc _))
  have HBX := hid (Blk.new w4 #[.bool true, .int .i64 (no : Int), .slice xa n xc, .slice ya nx yc] 31)
  have hk4' : Same w3 (w4.alloc (.cells #[.bool true, .int .i64 (no : Int), .slice xa n xc, .slice ya nx yc] 31)) := hk4.alloc _
  have HB3 := hid (HB3.out.same hk4')
  have HS3 := hid (HS3.out.trans hk4')
  obtain ⟨XB, hXB⟩ : ∃ D, w4.heap.size = D := ⟨_, rfl⟩
  rw [hXB] at HBX
  have HXB := hid hXB
  clear hk4' hxr hxq hnx d0 d1 kX hXB
  have k7 := kA 0 (by omega) ((no : Int) + 1) (by constructor <;> omega) _ (HK1.out.trans HS3.out)
  have hw1 : IntKind.i64.wrap ((no : Int) + 1) = (no : Int) + 1 := by rw [IntKind.wrap_i64]; omega
  go_wp2_with fail
  generalize w4.alloc (.cells #[.bool true, .int .i64 (no : Int), .slice xa n xc, .slice ya nx yc] 31) = w5 at HRX HBX HB3 HS3 k7 ⊢
  rw [HXB.out]
  clear HXB hk4
  refine k7.mono ?_
  rintro e w6 ⟨q, rfl, hq, hk6⟩
  obtain ⟨K, hK, hKn⟩ : ∃ K : Nat, q = (K : Int) ∧ K ≤ no := by
    unfold AtR at hq
    by_cases h : (no : Int) + 1 ≤ 1
    · exact ⟨0, hq.1 h, Nat.zero_le _⟩
    · have := hq.2 (by omega); exact ⟨q.toNat, by omega, by omega⟩
  subst hK
  have HB3 := hid (HB3.out.same hk6)
  have HBX := hid (HBX.out.same hk6)
  have HRX := hid (HRX.out.same hk6)
  have HS3 := hid (HS3.out.trans hk6)
  clear hk6 hq k7 hw1
  obtain ⟨Y, hY⟩ : ∃ X, runD dur (dataP ps) (O.take K) = X := ⟨_, rfl⟩
  have HY := hid hY
  clear hY
  have HYV := (show Hid (Y.1.length = dur.length ∧ Valid dur.length Y.2) from by have h := runD_valid HVL.out O K (by rw [HOL.out]; exact hKn); rw [HY.out] at h; exact h)
  have HTL := (show Hid ((os.take K).length = K) from by unfold Hid; rw [List.length_take, HNO.out]; omega)
  have kO := (show Hid (∀ wx, Same w6 wx → Calls Try.prog 11 #[.agg #[.slice da n dc, .slice pa np pc], .slice (some ⟨g, 0, none⟩) K oc, .int .i64 (-1)] wx fun e w' => RunAns wx w' e true (K : Int) Y.1 Y.2) from fun wx hx6 => by
    have hx := HS3.out.trans hx6
    have h := runAns_any (.slice da n dc) (.slice pa np pc) dur ps g 0 oc (os.take K) K (-1) wx (by rw [HN.out]; omega) (by rw [HNP.out]; omega) (fun p hp => by have := HD3.out p hp; omega) (HRD.out.same hx) HVL.out HTL.out.symm (by rw [HTL.out]; omega) (RdR.takeO (by have h := HRO.out.same hx; rw [← HNO.out] at h; exact h) (by rw [HNO.out]; exact hKn))
    rw [HTL.out, usedO_neg, allO_neg, datOpS_take, HO.out, List.take_take, Nat.min_self, HY.out] at h
    exact h)
  obtain ⟨d0, d1⟩ := HB3.out.all2
  go_wp2_with fail
  go_cut [10] (fun v wx => Hid (ORes w6 wx true (K : Int) Y.1 Y.2 v))
  case first =>
    as_aux_lemma =>
    have hKo : (K : Int) ≤ (oc : Int) := by omega
    have hK0 : (0 : Int) ≤ (K : Int) := by omega
    refine wp_region_V (fun wx : World => wx.cell? ⟨D, 0, none⟩ = some (.slice da n dc) ∧ wx.cell? ⟨D, 1, none⟩ = some (.slice pa np pc)) 6 7 rfl (by kernel_rfl) ?_
    generalize hwd : World.drew w6 = u0
    have hk0 : Same w6 u0 := by rw [← hwd]; exact (Kept.refl _ _).drew
    clear hwd
    have HC0 := hid hk0
    have hS : (fun wx : World => wx.cell? ⟨D, 0, none⟩ = some (.slice da n dc) ∧ wx.cell? ⟨D, 1, none⟩ = some (.slice pa np pc)) u0 := ⟨hk0.cellOf d0 id, hk0.cellOf d1 id⟩
    clear hk0
    refine tk 0 49 hS ?_
    refine tk 1 50 hS ?_
    refine tk 2 51 hS ?_
    refine tkV 3 52 (.slice (some ⟨g, 0, none⟩) K oc) hS ?_
    refine wpAnyV_two (i := 4) (j := 5) (by kernel_rfl) rfl rfl (fun Kc hKc => ?_) (fun Kc hKc => ?_)
    · go_simp
      refine (kO.out _ HC0.out).mono ?_
      rintro e u1 ⟨xd, xp, qs, rfl, hq, hr, hf, hk⟩
      obtain ⟨za, zc, rfl⟩ := hr.dur.form
      obtain ⟨zb, zd, rfl⟩ := hr.pend.form
      have hS : (fun wx : World => wx.cell? ⟨D, 0, none⟩ = some (.slice da n dc) ∧ wx.cell? ⟨D, 1, none⟩ = some (.slice pa np pc)) u1 := ⟨hk.cellOf hS.1 id, hk.cellOf hS.2 id⟩
      go_wp2_with fail
      refine hKc.out _ _ (fun _ => hS) ?_
      clear hKc Kc
      try simp only [Act.put, sA, s0, sS]
      have HQ9 := hid hq
      have HR8 := hid hr
      have HF8 := hid hf
      have HK8 := hid (HC0.out.trans hk)
      clear hq hr hf hk
      refine wpAnyV_one (i := 5) (by kernel_rfl) rfl (fun Kc hKc => ?_)
      go_simp
      have HZ := hid (Blk.new u1 #[.bool false, .int .i64 0, .slice none 0 0, .slice none 0 0] 31)
      have hk2 : Same u1 (u1.alloc (.cells #[.bool false, .int .i64 0, .slice none 0 0, .slice none 0 0] 31)) := (Kept.refl _ _).alloc _
      generalize u1.alloc (.cells #[.bool false, .int .i64 0, .slice none 0 0, .slice none 0 0] 31) = u2 at HZ hk2 ⊢
      have hS : (fun wx : World => wx.cell? ⟨D, 0, none⟩ = some (.slice da n dc) ∧ wx.cell? ⟨D, 1, none⟩ = some (.slice pa np pc)) u2 := ⟨hk2.cellOf hS.1 id, hk2.cellOf hS.2 id⟩
      refine hKc.out _ _ (fun _ => hS) ?_
      clear hKc Kc
      try simp only [Act.put, sA, s0, sS]
      have HR9 := hid (HR8.out.same hk2)
      have HK9 := hid (HK8.out.trans hk2)
      have HF9 := (show Hid (∀ b, footD _ _ qs b → ¬ b = u1.heap.size) from fun b hb e => by have := (HF8.out b hb).2; omega)
      have HX0 := (show Hid (w6.heap.size ≤ u1.heap.size) from HK8.out.size)
      clear hk2
      obtain ⟨z0, z1, z2, z3⟩ := HZ.out.all4
      have fz := HZ.out.frozen
      refine wpAnyV_one (i := 6) (by kernel_rfl) rfl (fun Kc hKc => ?_)
      go_simp
      refine hKc.out _ _ (fun h => absurd rfl h) ?_
      clear hKc Kc
      refine wpAnyV_done (by kernel_rfl) ?_
      try simp only [Act.put, sA, s0, sS]
      have HE := hid (RunAns.box (w0 := w6) (b := true) (u := (K : Int)) HZ.out HX0.out HQ9.out HR9.out HF9.out HK9.out)
      clear hS z0 z1 z2 z3 fz
      go_wp2_with fail
      go_meet
      case rel => exact HE
    · go_simp
      have HZ := hid (Blk.new u0 #[.bool false, .int .i64 0, .slice none 0 0, .slice none 0 0] 31)
      have hk2 : Same u0 (u0.alloc (.cells #[.bool false, .int .i64 0, .slice none 0 0, .slice none 0 0] 31)) := (Kept.refl _ _).alloc _
      have hz2 : (u0.alloc (.cells #[.bool false, .int .i64 0, .slice none 0 0, .slice none 0 0] 31)).heap.size = u0.heap.size + 1 := by simp
      generalize u0.alloc (.cells #[.bool false, .int .i64 0, .slice none 0 0, .slice none 0 0] 31) = u1 at HZ hk2 hz2 ⊢
      have hS : (fun wx : World => wx.cell? ⟨D, 0, none⟩ = some (.slice da n dc) ∧ wx.cell? ⟨D, 1, none⟩ = some (.slice pa np pc)) u1 := ⟨hk2.cellOf hS.1 id, hk2.cellOf hS.2 id⟩
      refine hKc.out _ _ (fun _ => hS) ?_
      clear hKc Kc
      try simp only [Act.put, sA, s0, sS]
      refine wpAnyV_one (i := 4) (by kernel_rfl) rfl (fun Kc hKc => ?_)
      go_simp
      refine (kO.out _ (HC0.out.trans hk2)).mono ?_
      rintro e u2 ⟨xd, xp, qs, rfl, hq, hr, hf, hk⟩
      obtain ⟨za, zc, rfl⟩ := hr.dur.form
      obtain ⟨zb, zd, rfl⟩ := hr.pend.form
      have hS : (fun wx : World => wx.cell? ⟨D, 0, none⟩ = some (.slice da n dc) ∧ wx.cell? ⟨D, 1, none⟩ = some (.slice pa np pc)) u2 := ⟨hk.cellOf hS.1 id, hk.cellOf hS.2 id⟩
      go_wp2_with fail
      refine hKc.out _ _ (fun _ => hS) ?_
      clear hKc Kc
      try simp only [Act.put, sA, s0, sS]
      have HQ9 := hid hq
      have HR9 := hid hr
      have HF9 := (show Hid (∀ b, footD _ _ qs b → ¬ b = u0.heap.size) from fun b hb e => by have := (hf b hb).1; omega)
      have HZ := hid (HZ.out.same hk)
      have HK9 := hid ((HC0.out.trans hk2).trans hk)
      have HX0 := (show Hid (w6.heap.size ≤ u0.heap.size) from HC0.out.size)
      clear hq hr hf hk hk2 hz2
      obtain ⟨z0, z1, z2, z3⟩ := HZ.out.all4
      have fz := HZ.out.frozen
      refine wpAnyV_one (i := 6) (by kernel_rfl) rfl (fun Kc hKc => ?_)
      go_simp
      refine hKc.out _ _ (fun h => absurd rfl h) ?_
      clear hKc Kc
      refine wpAnyV_done (by kernel_rfl) ?_
      try simp only [Act.put, sA, s0, sS]
      have HE := hid (RunAns.box (w0 := w6) (b := true) (u := (K : Int)) HZ.out HX0.out HQ9.out HR9.out HF9.out HK9.out)
      clear hS z0 z1 z2 z3 fz
      go_wp2_with fail
      go_meet
      case rel => exact HE
  case rest =>
  as_aux_lemma =>
  obtain ⟨w7, rfl⟩ : ∃ x, x = wc := ⟨wc, rfl⟩
  obtain ⟨T1, xd1, xp1, q1, rfl, hT1, hb1, hq1, hr1, hk7⟩ := hcut
  have HB3 := hid (HB3.out.same hk7)
  have HBX := hid (HBX.out.same hk7)
  have HRX := hid (HRX.out.same hk7)
  have HS3 := hid (HS3.out.trans hk7)
  obtain ⟨xa1, xc1, rfl⟩ := hr1.dur.form
  obtain ⟨ya1, yc1, rfl⟩ := hr1.pend.form
  rw [HYV.out.1, HN.out] at hr1 hb1
  obtain ⟨n1, hn1⟩ : ∃ n, q1.length = n := ⟨_, rfl⟩
  rw [hn1] at hr1 hb1
  have HN1 := hid hn1
  have HQ1 := hid hq1
  have HR1 := hid hr1
  have HT1 := hid hb1
  have hn18 : n1 ≤ 8192 := by have h := HYV.out.2.1.2.2.2; rw [← hq1, dataP_length, hn1] at h; exact h
  clear d0 d1 hk7 hn1 hq1 hr1 hb1 hT1 kO
  have HS7 := (show Hid (Same w7 w7) from Kept.refl _ _)
  obtain ⟨u9, hu9⟩ : ∃ u : Int, ((no - K : Nat) : Int) = u := ⟨_, rfl⟩
  have HU9 := hid hu9
  clear hu9
  have kT := (show Hid (∀ (off nn co : Nat), RdR kOp w7 (.slice (some ⟨g, off, none⟩) nn co) (os.drop K) → nn = no - K → nn ≤ co → ∀ wx, Same w7 wx → Calls Try.prog 11 #[.agg #[.slice xa1 n xc1, .slice ya1 n1 yc1], .slice (some ⟨g, off, none⟩) nn co, .int .i64 (-1)] wx fun e w' => RunAns wx w' e true u9 X.1 X.2) from fun off nn co hro hnn hnc wx hx => by
    have hl : (os.drop K).length = no - K := by rw [List.length_drop, HNO.out]
    have h := runAns_any (.slice xa1 n xc1) (.slice ya1 n1 yc1) Y.1 q1 g off co (os.drop K) nn (-1) wx (by rw [HYV.out.1, HN.out]; omega) (by rw [HN1.out]; omega) (valid_bs HYV.out.2 HQ1.out) (HR1.out.same hx) (by rw [HYV.out.1, HQ1.out]; exact HYV.out.2) (by rw [hl]; exact hnn) (by rw [hl]; omega) (hro.same hx)
    rw [usedO_neg, allO_neg, hl, HU9.out, HQ1.out, datOpS_drop, HO.out, List.take_of_length_le (by rw [List.length_drop, HOL.out]; omega), ← HY.out, runD_parts, HX.out] at h
    exact h)
  obtain ⟨_, _, d2, d3⟩ := HT1.out.all4
  go_wp2_with fail
  go_cut [11] (fun v wx => Hid (ORes w7 wx true u9 X.1 X.2 v))
  case first =>
    as_aux_lemma =>
    by_cases hoc : K = oc
    · have hok : K = no := by omega
      have HDN := (show Hid (os.drop K = []) from by unfold Hid; rw [List.drop_eq_nil_iff, HNO.out]; omega)
      subst hoc
      subst hok
      refine wp_region_V (fun wx : World => wx.cell? ⟨T1, 2, none⟩ = some (.slice xa1 n xc1) ∧ wx.cell? ⟨T1, 3, none⟩ = some (.slice ya1 n1 yc1)) 7 8 rfl (by kernel_rfl) ?_
      generalize hwd : World.drew w7 = u0
      have hk0 : Same w7 u0 := by rw [← hwd]; exact (Kept.refl _ _).drew
      clear hwd
      have HC0 := hid hk0
      have hS : (fun wx : World => wx.cell? ⟨T1, 2, none⟩ = some (.slice xa1 n xc1) ∧ wx.cell? ⟨T1, 3, none⟩ = some (.slice ya1 n1 yc1)) u0 := ⟨hk0.cellOf d2 id, hk0.cellOf d3 id⟩
      clear hk0
      refine tk 0 54 hS ?_
      refine tk 1 55 hS ?_
      refine tk 2 56 hS ?_
      refine tk 3 57 hS ?_
      refine tkV 4 58 (.slice (some ⟨g, 0, none⟩) 0 0) hS ?_
      refine wpAnyV_two (i := 5) (j := 6) (by kernel_rfl) rfl rfl (fun Kc hKc => ?_) (fun Kc hKc => ?_)
      · go_simp
        refine (kT.out 0 0 0 (by rw [HDN.out]; exact RdR.nilO _ _ _) (by omega) (Nat.le_refl _) _ HC0.out).mono ?_
        rintro e u1 ⟨xd, xp, qs, rfl, hq, hr, hf, hk⟩
        obtain ⟨za, zc, rfl⟩ := hr.dur.form
        obtain ⟨zb, zd, rfl⟩ := hr.pend.form
        have hS : (fun wx : World => wx.cell? ⟨T1, 2, none⟩ = some (.slice xa1 n xc1) ∧ wx.cell? ⟨T1, 3, none⟩ = some (.slice ya1 n1 yc1)) u1 := ⟨hk.cellOf hS.1 id, hk.cellOf hS.2 id⟩
        go_wp2_with fail
        refine hKc.out _ _ (fun _ => hS) ?_
        clear hKc Kc
        try simp only [Act.put, sA, s0, sS]
        have HQ9 := hid hq
        have HR8 := hid hr
        have HF8 := hid hf
        have HK8 := hid (HC0.out.trans hk)
        clear hq hr hf hk
        refine wpAnyV_one (i := 6) (by kernel_rfl) rfl (fun Kc hKc => ?_)
        go_simp
        have HZ := hid (Blk.new u1 #[.bool false, .int .i64 0, .slice none 0 0, .slice none 0 0] 31)
        have hk2 : Same u1 (u1.alloc (.cells #[.bool false, .int .i64 0, .slice none 0 0, .slice none 0 0] 31)) := (Kept.refl _ _).alloc _
        generalize u1.alloc (.cells #[.bool false, .int .i64 0, .slice none 0 0, .slice none 0 0] 31) = u2 at HZ hk2 ⊢
        have hS : (fun wx : World => wx.cell? ⟨T1, 2, none⟩ = some (.slice xa1 n xc1) ∧ wx.cell? ⟨T1, 3, none⟩ = some (.slice ya1 n1 yc1)) u2 := ⟨hk2.cellOf hS.1 id, hk2.cellOf hS.2 id⟩
        refine hKc.out _ _ (fun _ => hS) ?_
        clear hKc Kc
        try simp only [Act.put, sA, s0, sS]
        have HR9 := hid (HR8.out.same hk2)
        have HK9 := hid (HK8.out.trans hk2)
        have HF9 := (show Hid (∀ b, footD _ _ qs b → ¬ b = u1.heap.size) from fun b hb e => by have := (HF8.out b hb).2; omega)
        have HX0 := (show Hid (w7.heap.size ≤ u1.heap.size) from HK8.out.size)
        clear hk2
        obtain ⟨z0, z1, z2, z3⟩ := HZ.out.all4
        have fz := HZ.out.frozen
        refine wpAnyV_one (i := 7) (by kernel_rfl) rfl (fun Kc hKc => ?_)
        go_simp
        refine hKc.out _ _ (fun h => absurd rfl h) ?_
        clear hKc Kc
        refine wpAnyV_done (by kernel_rfl) ?_
        try simp only [Act.put, sA, s0, sS]
        have HE := hid (RunAns.box (w0 := w7) (b := true) (u := u9) HZ.out HX0.out HQ9.out HR9.out HF9.out HK9.out)
        clear hS z0 z1 z2 z3 fz
        go_wp2_with fail
        go_meet
        case rel => exact HE
      · go_simp
        have HZ := hid (Blk.new u0 #[.bool false, .int .i64 0, .slice none 0 0, .slice none 0 0] 31)
        have hk2 : Same u0 (u0.alloc (.cells #[.bool false, .int .i64 0, .slice none 0 0, .slice none 0 0] 31)) := (Kept.refl _ _).alloc _
        have hz2 : (u0.alloc (.cells #[.bool false, .int .i64 0, .slice none 0 0, .slice none 0 0] 31)).heap.size = u0.heap.size + 1 := by simp
        generalize u0.alloc (.cells #[.bool false, .int .i64 0, .slice none 0 0, .slice none 0 0] 31) = u1 at HZ hk2 hz2 ⊢
        have hS : (fun wx : World => wx.cell? ⟨T1, 2, none⟩ = some (.slice xa1 n xc1) ∧ wx.cell? ⟨T1, 3, none⟩ = some (.slice ya1 n1 yc1)) u1 := ⟨hk2.cellOf hS.1 id, hk2.cellOf hS.2 id⟩
        refine hKc.out _ _ (fun _ => hS) ?_
        clear hKc Kc
        try simp only [Act.put, sA, s0, sS]
        refine wpAnyV_one (i := 5) (by kernel_rfl) rfl (fun Kc hKc => ?_)
        go_simp
        refine (kT.out 0 0 0 (by rw [HDN.out]; exact RdR.nilO _ _ _) (by omega) (Nat.le_refl _) _ (HC0.out.trans hk2)).mono ?_
        rintro e u2 ⟨xd, xp, qs, rfl, hq, hr, hf, hk⟩
        obtain ⟨za, zc, rfl⟩ := hr.dur.form
        obtain ⟨zb, zd, rfl⟩ := hr.pend.form
        have hS : (fun wx : World => wx.cell? ⟨T1, 2, none⟩ = some (.slice xa1 n xc1) ∧ wx.cell? ⟨T1, 3, none⟩ = some (.slice ya1 n1 yc1)) u2 := ⟨hk.cellOf hS.1 id, hk.cellOf hS.2 id⟩
        go_wp2_with fail
        refine hKc.out _ _ (fun _ => hS) ?_
        clear hKc Kc
        try simp only [Act.put, sA, s0, sS]
        have HQ9 := hid hq
        have HR9 := hid hr
        have HF9 := (show Hid (∀ b, footD _ _ qs b → ¬ b = u0.heap.size) from fun b hb e => by have := (hf b hb).1; omega)
        have HZ := hid (HZ.out.same hk)
        have HK9 := hid ((HC0.out.trans hk2).trans hk)
        have HX0 := (show Hid (w7.heap.size ≤ u0.heap.size) from HC0.out.size)
        clear hq hr hf hk hk2 hz2
        obtain ⟨z0, z1, z2, z3⟩ := HZ.out.all4
        have fz := HZ.out.frozen
        refine wpAnyV_one (i := 7) (by kernel_rfl) rfl (fun Kc hKc => ?_)
        go_simp
        refine hKc.out _ _ (fun h => absurd rfl h) ?_
        clear hKc Kc
        refine wpAnyV_done (by kernel_rfl) ?_
        try simp only [Act.put, sA, s0, sS]
        have HE := hid (RunAns.box (w0 := w7) (b := true) (u := u9) HZ.out HX0.out HQ9.out HR9.out HF9.out HK9.out)
        clear hS z0 z1 z2 z3 fz
        go_wp2_with fail
        go_meet
        case rel => exact HE
    · have hKo : (K : Int) ≤ (no : Int) := by omega
      have hno2 : (no : Int) ≤ (oc : Int) := by omega
      have hK0 : (0 : Int) ≤ (K : Int) := by omega
      refine wp_region_V (fun wx : World => wx.cell? ⟨T1, 2, none⟩ = some (.slice xa1 n xc1) ∧ wx.cell? ⟨T1, 3, none⟩ = some (.slice ya1 n1 yc1)) 7 8 rfl (by kernel_rfl) ?_
      generalize hwd : World.drew w7 = u0
      have hk0 : Same w7 u0 := by rw [← hwd]; exact (Kept.refl _ _).drew
      clear hwd
      have HC0 := hid hk0
      have hS : (fun wx : World => wx.cell? ⟨T1, 2, none⟩ = some (.slice xa1 n xc1) ∧ wx.cell? ⟨T1, 3, none⟩ = some (.slice ya1 n1 yc1)) u0 := ⟨hk0.cellOf d2 id, hk0.cellOf d3 id⟩
      clear hk0
      refine tk 0 54 hS ?_
      refine tk 1 55 hS ?_
      refine tk 2 56 hS ?_
      refine tk 3 57 hS ?_
      refine tkV 4 58 (.slice (some ⟨g, K * 3, none⟩) (no - K) (oc - K)) hS ?_
      refine wpAnyV_two (i := 5) (j := 6) (by kernel_rfl) rfl rfl (fun Kc hKc => ?_) (fun Kc hKc => ?_)
      · go_simp
        refine (kT.out (K * 3) (no - K) (oc - K) (by have h := HRO.out.same HS3.out; rw [← HNO.out] at h ⊢; exact RdR.dropO h (by rw [HNO.out]; exact hKn)) rfl (by omega) _ HC0.out).mono ?_
        rintro e u1 ⟨xd, xp, qs, rfl, hq, hr, hf, hk⟩
        obtain ⟨za, zc, rfl⟩ := hr.dur.form
        obtain ⟨zb, zd, rfl⟩ := hr.pend.form
        have hS : (fun wx : World => wx.cell? ⟨T1, 2, none⟩ = some (.slice xa1 n xc1) ∧ wx.cell? ⟨T1, 3, none⟩ = some (.slice ya1 n1 yc1)) u1 := ⟨hk.cellOf hS.1 id, hk.cellOf hS.2 id⟩
        go_wp2_with fail
        refine hKc.out _ _ (fun _ => hS) ?_
        clear hKc Kc
        try simp only [Act.put, sA, s0, sS]
        have HQ9 := hid hq
        have HR8 := hid hr
        have HF8 := hid hf
        have HK8 := hid (HC0.out.trans hk)
        clear hq hr hf hk
        refine wpAnyV_one (i := 6) (by kernel_rfl) rfl (fun Kc hKc => ?_)
        go_simp
        have HZ := hid (Blk.new u1 #[.bool false, .int .i64 0, .slice none 0 0, .slice none 0 0] 31)
        have hk2 : Same u1 (u1.alloc (.cells #[.bool false, .int .i64 0, .slice none 0 0, .slice none 0 0] 31)) := (Kept.refl _ _).alloc _
        generalize u1.alloc (.cells #[.bool false, .int .i64 0, .slice none 0 0, .slice none 0 0] 31) = u2 at HZ hk2 ⊢
        have hS : (fun wx : World => wx.cell? ⟨T1, 2, none⟩ = some (.slice xa1 n xc1) ∧ wx.cell? ⟨T1, 3, none⟩ = some (.slice ya1 n1 yc1)) u2 := ⟨hk2.cellOf hS.1 id, hk2.cellOf hS.2 id⟩
        refine hKc.out _ _ (fun _ => hS) ?_
        clear hKc Kc
        try simp only [Act.put, sA, s0, sS]
        have HR9 := hid (HR8.out.same hk2)
        have HK9 := hid (HK8.out.trans hk2)
        have HF9 := (show Hid (∀ b, footD _ _ qs b → ¬ b = u1.heap.size) from fun b hb e => by have := (HF8.out b hb).2; omega)
        have HX0 := (show Hid (w7.heap.size ≤ u1.heap.size) from HK8.out.size)
        clear hk2
        obtain ⟨z0, z1, z2, z3⟩ := HZ.out.all4
        have fz := HZ.out.frozen
        refine wpAnyV_one (i := 7) (by kernel_rfl) rfl (fun Kc hKc => ?_)
        go_simp
        refine hKc.out _ _ (fun h => absurd rfl h) ?_
        clear hKc Kc
        refine wpAnyV_done (by kernel_rfl) ?_
        try simp only [Act.put, sA, s0, sS]
        have HE := hid (RunAns.box (w0 := w7) (b := true) (u := u9) HZ.out HX0.out HQ9.out HR9.out HF9.out HK9.out)
        clear hS z0 z1 z2 z3 fz
        go_wp2_with fail
        go_meet
        case rel => exact HE
      · go_simp
        have HZ := hid (Blk.new u0 #[.bool false, .int .i64 0, .slice none 0 0, .slice none 0 0] 31)
        have hk2 : Same u0 (u0.alloc (.cells #[.bool false, .int .i64 0, .slice none 0 0, .slice none 0 0] 31)) := (Kept.refl _ _).alloc _
        have hz2 : (u0.alloc (.cells #[.bool false, .int .i64 0, .slice none 0 0, .slice none 0 0] 31)).heap.size = u0.heap.size + 1 := by simp
        generalize u0.alloc (.cells #[.bool false, .int .i64 0, .slice none 0 0, .slice none 0 0] 31) = u1 at HZ hk2 hz2 ⊢
        have hS : (fun wx : World => wx.cell? ⟨T1, 2, none⟩ = some (.slice xa1 n xc1) ∧ wx.cell? ⟨T1, 3, none⟩ = some (.slice ya1 n1 yc1)) u1 := ⟨hk2.cellOf hS.1 id, hk2.cellOf hS.2 id⟩
        refine hKc.out _ _ (fun _ => hS) ?_
        clear hKc Kc
        try simp only [Act.put, sA, s0, sS]
        refine wpAnyV_one (i := 5) (by kernel_rfl) rfl (fun Kc hKc => ?_)
        go_simp
        refine (kT.out (K * 3) (no - K) (oc - K) (by have h := HRO.out.same HS3.out; rw [← HNO.out] at h ⊢; exact RdR.dropO h (by rw [HNO.out]; exact hKn)) rfl (by omega) _ (HC0.out.trans hk2)).mono ?_
        rintro e u2 ⟨xd, xp, qs, rfl, hq, hr, hf, hk⟩
        obtain ⟨za, zc, rfl⟩ := hr.dur.form
        obtain ⟨zb, zd, rfl⟩ := hr.pend.form
        have hS : (fun wx : World => wx.cell? ⟨T1, 2, none⟩ = some (.slice xa1 n xc1) ∧ wx.cell? ⟨T1, 3, none⟩ = some (.slice ya1 n1 yc1)) u2 := ⟨hk.cellOf hS.1 id, hk.cellOf hS.2 id⟩
        go_wp2_with fail
        refine hKc.out _ _ (fun _ => hS) ?_
        clear hKc Kc
        try simp only [Act.put, sA, s0, sS]
        have HQ9 := hid hq
        have HR9 := hid hr
        have HF9 := (show Hid (∀ b, footD _ _ qs b → ¬ b = u0.heap.size) from fun b hb e => by have := (hf b hb).1; omega)
        have HZ := hid (HZ.out.same hk)
        have HK9 := hid ((HC0.out.trans hk2).trans hk)
        have HX0 := (show Hid (w7.heap.size ≤ u0.heap.size) from HC0.out.size)
        clear hq hr hf hk hk2 hz2
        obtain ⟨z0, z1, z2, z3⟩ := HZ.out.all4
        have fz := HZ.out.frozen
        refine wpAnyV_one (i := 7) (by kernel_rfl) rfl (fun Kc hKc => ?_)
        go_simp
        refine hKc.out _ _ (fun h => absurd rfl h) ?_
        clear hKc Kc
        refine wpAnyV_done (by kernel_rfl) ?_
        try simp only [Act.put, sA, s0, sS]
        have HE := hid (RunAns.box (w0 := w7) (b := true) (u := u9) HZ.out HX0.out HQ9.out HR9.out HF9.out HK9.out)
        clear hS z0 z1 z2 z3 fz
        go_wp2_with fail
        go_meet
        case rel => exact HE
  case rest =>
  obtain ⟨w8, rfl⟩ : ∃ x, x = wc := ⟨wc, rfl⟩
  obtain ⟨T2, xd2, xp2, q2, rfl, hT2, hb2, hq2, hr2, hk8⟩ := hcut
  have HB3 := hid (HB3.out.same hk8)
  have HBX := hid (HBX.out.same hk8)
  have HRX := hid (HRX.out.same hk8)
  have HT1 := hid (HT1.out.same hk8)
  have HR1 := hid (HR1.out.same hk8)
  have HS3 := hid (HS3.out.trans hk8)
  obtain ⟨xa2, xc2, rfl⟩ := hr2.dur.form
  obtain ⟨ya2, yc2, rfl⟩ := hr2.pend.form
  rw [HXV.out.1, HN.out] at hr2 hb2
  obtain ⟨n2, hn2⟩ : ∃ n, q2.length = n := ⟨_, rfl⟩
  rw [hn2] at hr2 hb2
  have HQ2 := hid hq2
  have HR2 := hid hr2
  have HT2 := hid hb2
  clear d2 d3 hk8 hn2 hq2 hr2 hb2 hT2 kT HS7
  obtain ⟨bb, hbb⟩ : ∃ b, decide (K = no) = b := ⟨_, rfl⟩
  have HBB := hid hbb
  clear hbb
  go_upto_region 10 with fail
  go_cut [12] (fun v wx => Hid (ORes w8 wx bb (K : Int) Y.1 Y.2 v))
  case first =>
    obtain ⟨d0, d1⟩ := HB3.out.all2
    have kC := kR w8 HS3.out (K : Int)
    rw [HNO.out, usedO_at _ _ hKn, allO_at _ _ hKn, HBB.out, HO.out, HY.out] at kC
    go_wp2_with fail
    refine kC.mono ?_
    rintro e w9 ⟨xd, xp, qs, rfl, hq, hr, _, hk⟩
    obtain ⟨za, zc, rfl⟩ := hr.dur.form
    obtain ⟨zb, zd, rfl⟩ := hr.pend.form
    have HE := hid (ORes.new (b := bb) (u := (K : Int)) hq hr hk)
    clear hq hr hk
    go_wp2_with fail
    go_meet
    case rel => exact HE
  case rest =>
  obtain ⟨w9, rfl⟩ : ∃ x, x = wc := ⟨wc, rfl⟩
  obtain ⟨T3, xd3, xp3, q3, rfl, hT3, hb3, hq3, hr3, hk9⟩ := hcut
  have HB3 := hid (HB3.out.same hk9)
  have HBX := hid (HBX.out.same hk9)
  have HRX := hid (HRX.out.same hk9)
  have HT1 := hid (HT1.out.same hk9)
  have HR1 := hid (HR1.out.same hk9)
  have HT2 := hid (HT2.out.same hk9)
  have HR2 := hid (HR2.out.same hk9)
  have HS3 := hid (HS3.out.trans hk9)
  obtain ⟨xa3, xc3, rfl⟩ := hr3.dur.form
  obtain ⟨ya3, yc3, rfl⟩ := hr3.pend.form
  rw [HYV.out.1, HN.out] at hr3 hb3
  obtain ⟨n3, hn3⟩ : ∃ n, q3.length = n := ⟨_, rfl⟩
  rw [hn3] at hr3 hb3
  have HQ3 := hid hq3
  have HR3 := hid hr3
  have HT3 := hid hb3
  clear hk9 hn3 hq3 hr3 hb3 hT3 kR
  go_upto_region 11 with fail
  go_cut [104] (fun v wx => v = .bool false ∧ Hid (Same w9 wx))
  case first =>
    have k1 := sameD_any (.slice xa2 n xc2) (.slice ya2 n2 yc2) (.slice xa n xc) (.slice ya nx yc) X.1 q2 xq w9 (HQ2.out.trans HXQ.out.symm) HR2.out HRX.out
    have k2 := fun wx (hx : Same w9 wx) => sameD_any (.slice xa3 n xc3) (.slice ya3 n3 yc3) (.slice xa1 n xc1) (.slice ya1 n1 yc1) Y.1 q3 q1 wx (HQ3.out.trans HQ1.out.symm) (HR3.out.same hx) (HR1.out.same hx)
    obtain ⟨x0, x1, x2, x3⟩ := HBX.out.all4
    obtain ⟨_, _, t2, t3⟩ := HT2.out.all4
    go_wp2_with fail
    refine k1.mono ?_
    rintro e w10 ⟨rfl, hk10⟩
    clear x0 x1 x2 x3 t2 t3 k1
    obtain ⟨_, _, c2, c3⟩ := (HT3.out.same hk10).all4
    obtain ⟨_, _, o2, o3⟩ := (HT1.out.same hk10).all4
    have k2 := k2 _ hk10
    have HK10 := hid hk10
    clear hk10
    go_wp2_with fail
    refine k2.mono ?_
    rintro e w11 ⟨rfl, hk11⟩
    have HK11 := hid (HK10.out.trans hk11)
    clear c2 c3 o2 o3 k2 hk11
    obtain ⟨c0, c1, _, _⟩ := (HT3.out.same HK11.out).all4
    by_cases hKe : K = no
    · have hb : bb = true := by rw [← HBB.out]; simp [hKe]
      have hKi : ((K : Int) == (no : Int)) = true := by rw [hKe]; simp
      subst hb
      clear hKe
      go_wp2_with fail
      go_meet
      case rel => exact ⟨by first | rfl | rw [hKi], HK11⟩
    · have hb : bb = false := by rw [← HBB.out]; simp [hKe]
      have hKi : ((K : Int) == (no : Int)) = false := by rw [beq_eq_false_iff_ne]; omega
      subst hb
      clear hKe
      go_wp2_with fail
      go_meet
      case rel => exact ⟨by first | rfl | rw [hKi], HK11⟩
  case rest =>
  as_aux_lemma =>
  obtain ⟨w10, rfl⟩ : ∃ x, x = wc := ⟨wc, rfl⟩
  obtain ⟨rfl, HC10⟩ := hcut
  have HB3 := hid (HB3.out.same HC10.out)
  have HBX := hid (HBX.out.same HC10.out)
  have HRX := hid (HRX.out.same HC10.out)
  have HS3 := hid (HS3.out.trans HC10.out)
  have HNX8 := (show Hid (nx ≤ 8192) from by unfold Hid; have h := HXV.out.2.1.2.2.2; rw [← HXQ.out, dataP_length, HNX.out] at h; exact h)
  have k13 := kK w10 (HK1.out.trans HS3.out)
  go_wp2_with fail
  refine k13.mono ?_
  rintro e w11 ⟨ka, kn, kc, ks, rfl, hkn, hkl, hko, _, hk11⟩
  have HB3 := hid (HB3.out.same hk11)
  have HBX := hid (HBX.out.same hk11)
  have HRX := hid (HRX.out.same hk11)
  have HS3 := hid (HS3.out.trans hk11)
  have HKO := hid hko.rd
  have HKL := hid hkl
  rw [hkl] at hkn
  subst hkn
  clear hko hkl hk11 k13 HC10
  obtain ⟨RC, hRC⟩ : ∃ r, settleN (keepS ks) X.1 X.2 X.2.length = r := ⟨_, rfl⟩
  obtain ⟨RY, hRY⟩ : ∃ r, settleN (fun _ => true) X.1 X.2 X.2.length = r := ⟨_, rfl⟩
  have HVX := (show Hid (Valid X.1.length X.2) from by unfold Hid; rw [HXV.out.1]; exact HXV.out.2)
  have HLC := (show Hid (RC.length = n) from by unfold Hid; rw [← hRC, settleN_length _ _ _ HVX.out _ (Nat.le_refl _), HXV.out.1]; exact HN.out)
  have HLY := (show Hid (RY.length = n) from by unfold Hid; rw [← hRY, settleN_length _ _ _ HVX.out _ (Nat.le_refl _), HXV.out.1]; exact HN.out)
  have HRC := hid hRC
  have HRY := hid hRY
  clear hRC hRY
  go_upto_region 14 with fail
  go_cut [14] (fun v wx => Hid (DRes w11 wx RC v))
  case first =>
    have kC := crashAns_any (.slice xa n xc) (.slice ya nx yc) X.1 xq (.slice ka 60 kc) ks X.2 w11 (by rw [HXV.out.1, HN.out]; omega) (by have h := HNX8.out; rw [HNX.out]; omega) HRX.out (by rw [HKL.out]; omega) HKO.out HXQ.out HVX.out
    rw [HRC.out] at kC
    obtain ⟨x0, x1, x2, x3⟩ := HBX.out.all4
    go_wp2_with fail
    refine kC.mono ?_
    rintro e w12 ⟨za, zb, zc, zd, rfl, hr, hk⟩
    have HE := hid (DRes.new (a' := zb) (c' := zd) hr hk)
    clear hr hk
    go_wp2_with fail
    go_meet
    case rel => exact HE
  case rest =>
  obtain ⟨w12, rfl⟩ : ∃ x, x = wc := ⟨wc, rfl⟩
  obtain ⟨C, ca, cb, cc, cd, rfl, hb4, hr4, hk12⟩ := hcut
  have HB3 := hid (HB3.out.same hk12)
  have HBX := hid (HBX.out.same hk12)
  have HRX := hid (HRX.out.same hk12)
  have HKO := hid (HKO.out.same hk12)
  have HS3 := hid (HS3.out.trans hk12)
  rw [HLC.out] at hb4 hr4
  have HBC := hid hb4
  have HRRC := hid hr4
  clear hk12 hb4 hr4
  go_upto_region 15 with fail
  go_cut [15] (fun v wx => Hid (DRes w12 wx RY v))
  case first =>
    have kC := syncAns_any (.slice xa n xc) (.slice ya nx yc) X.1 xq X.2 w12 (by rw [HXV.out.1, HN.out]; omega) (by have h := HNX8.out; rw [HNX.out]; omega) HRX.out HXQ.out HVX.out
    rw [HRY.out] at kC
    obtain ⟨x0, x1, x2, x3⟩ := HBX.out.all4
    go_wp2_with fail
    refine kC.mono ?_
    rintro e w13 ⟨za, zb, zc, zd, rfl, hr, hk⟩
    have HE := hid (DRes.new (a' := zb) (c' := zd) hr hk)
    clear hr hk
    go_wp2_with fail
    go_meet
    case rel => exact HE
  case rest =>
  as_aux_lemma =>
  obtain ⟨w13, rfl⟩ : ∃ x, x = wc := ⟨wc, rfl⟩
  obtain ⟨Z, sa, sb, sc, sd, rfl, hb5, hr5, hk13⟩ := hcut
  have HB3 := hid (HB3.out.same hk13)
  have HBX := hid (HBX.out.same hk13)
  have HRX := hid (HRX.out.same hk13)
  have HKO := hid (HKO.out.same hk13)
  have HBC := hid (HBC.out.same hk13)
  have HRRC := hid (HRRC.out.same hk13)
  have HS3 := hid (HS3.out.trans hk13)
  rw [HLY.out] at hb5 hr5
  have HBY := hid hb5
  have HRRY := hid hr5
  clear hk13 hb5 hr5
  obtain ⟨d0, d1⟩ := HB3.out.all2
  obtain ⟨c0, c1⟩ := HBC.out.all2
  obtain ⟨z0, z1⟩ := HBY.out.all2
  have HLX := (show Hid (X.1.length = n) from by unfold Hid; rw [HXV.out.1]; exact HN.out)
  have HX2 := (show Hid (X.2.length = nx) from by unfold Hid; rw [← HXQ.out, dataP_length]; exact HNX.out)
  obtain ⟨M, hM⟩ : ∃ M, n / 512 = M := ⟨_, rfl⟩
  have HM5 := (show Hid (n = M * 512) from by unfold Hid; have h := HVX.out.1.1; rw [HLX.out] at h; omega)
  have hM1 : 1 ≤ M := by have h := HVX.out.1.2.1; rw [HLX.out] at h; omega
  have hM2 : M ≤ 5 := by omega
  clear hM
  have hn0 : 0 < n := by have := HM5.out; omega
  obtain ⟨bx, ox, rfl, hxc, hx⟩ := Rd.opened HRX.out.dur HLX.out hn0
  obtain ⟨bc, fc, rfl, hcc, hcx⟩ := Rd.opened HRRC.out HLC.out hn0
  obtain ⟨by1, fy, rfl, hsc, hsx⟩ := Rd.opened HRRY.out HLY.out hn0
  obtain ⟨bk, fk, rfl, hkc, hkx⟩ := Rd.opened HKO.out HKL.out (by omega)
  have HCX := hid hx
  have HCC := hid hcx
  have HCY := hid hsx
  have HCK := hid hkx
  clear hx hcx hsx hkx
  go_wp2_with fail
  go_loopw [16] (fun i wr => ∃ (j : Nat), j ≤ M ∧ i = .int .i64 (j : Int) ∧ Hid (Same w13 wr)) (fun i _ => M - (intOf i).toNat)
  case atStart => exact ⟨0, Nat.zero_le _, rfl, hid (Kept.refl _ _)⟩
  case round =>
    as_aux_lemma =>
    obtain ⟨w14, rfl⟩ : ∃ x, x = wr := ⟨wr, rfl⟩
    obtain ⟨j, hj, rfl, HK⟩ := hrel
    clear c0 c1 z0 z1 d0 d1
    obtain ⟨d0, d1⟩ := (HB3.out.same HK.out).all2
    by_cases hlt : j < M
    case neg =>
      have hi : ¬ (j : Int) < (n : Int) / 512 := by have := HM5.out; omega
      go_wp2
      go_ret
      exact ⟨rfl, (HK1.out.trans HS3.out).trans HK.out⟩
    have hi : (j : Int) < (n : Int) / 512 := by have := HM5.out; omega
    have hjn : j * 512 + 512 ≤ n := by have := HM5.out; omega
    have e1 : ((j : Int) * 512).toNat = j * 512 := by omega
    have e2 : (((j : Int) + 1) * 512).toNat = j * 512 + 512 := by omega
    have g1 : ((j : Int) + 1) * 512 ≤ (xc : Int) := by omega
    have g2 : 0 ≤ ((j : Int) + 1) * 512 := by omega
    have g3 : (j : Int) * 512 ≤ ((j : Int) + 1) * 512 := by omega
    have g4 : 0 ≤ (j : Int) * 512 := by omega
    have g5 : ((j : Int) + 1) * 512 ≤ (sc : Int) := by omega
    have g6 : ((j : Int) + 1) * 512 ≤ (cc : Int) := by omega
    have q1 : IntKind.i64.wrap ((j : Int) * 512) = (j : Int) * 512 := by rw [IntKind.wrap_i64]; omega
    have q2 : IntKind.i64.wrap ((j : Int) + 1) = (j : Int) + 1 := by rw [IntKind.wrap_i64]; omega
    have q3 : IntKind.i64.wrap (((j : Int) + 1) * 512) = ((j : Int) + 1) * 512 := by rw [IntKind.wrap_i64]; omega
    have h1e : ¬ xc = j * 512 := by omega
    have h2e : ¬ sc = j * 512 := by omega
    have h3e : ¬ cc = j * 512 := by omega
    obtain ⟨_, _, x2, x3⟩ := (HBX.out.same HK.out).all4
    have HW0 := (show Hid (Rd .u8 w14 (.slice (some ⟨bx, ox + j * 512, none⟩) 512 (xc - j * 512)) (secB X.1 j)) from Rd.part (n := 512) (fun i hi => HK.out.cellOf (HCX.out i hi) id) (j * 512) 512 (by rw [HLX.out]; exact hjn) rfl (by omega) (by simp [maxLen]))
    go_wp2_with fail
    go_loopw [18, 19, 20] (fun s k i wr => ∃ (sv kv : Value) (t : Nat), sv = s ∧ kv = k ∧ t ≤ nx ∧ i = .int .i64 (t : Int) ∧ Hid (Rd .u8 wr sv ((lastN (fun _ => true) (j : Int) X.2 t).getD (secB X.1 j))) ∧ Hid (Rd .u8 wr kv ((lastN (keepS ks) (j : Int) X.2 t).getD (secB X.1 j))) ∧ Hid (Same w13 wr)) (fun _ _ i _ => nx - (intOf i).toNat)
    case atStart => exact ⟨_, _, 0, rfl, rfl, Nat.zero_le _, rfl, HW0, HW0, HK⟩
    case round =>
      as_aux_lemma =>
      obtain ⟨w15, rfl⟩ : ∃ x, x = wr := ⟨wr, rfl⟩
      obtain ⟨sv, kv, t, rfl, rfl, ht, rfl, HSV, HKV, HKI⟩ := hrel
      clear x2 x3 HW0 d0 d1
      obtain ⟨_, _, x2, x3⟩ := (HBX.out.same HKI.out).all4
      by_cases hlt2 : t < nx
      case neg =>
        have htn : t = nx := by omega
        have hi2 : ¬ (t : Int) < (nx : Int) := by omega
        rw [htn] at HSV HKV
        clear htn
        have hE := seeD_lastN j X.1 X.2
        have hY := settle_sec (fun _ => true) X.1 X.2 HVX.out j (by rw [HLX.out]; have := HM5.out; omega) _ (Nat.le_refl _)
        have hC := settle_sec (keepS ks) X.1 X.2 HVX.out j (by rw [HLX.out]; have := HM5.out; omega) _ (Nat.le_refl _)
        rw [HRY.out, HX2.out] at hY
        rw [HRC.out, HX2.out] at hC
        rw [HX2.out, ← hY] at hE
        rw [← hY] at HSV
        rw [← hC] at HKV
        have HE := hid hE
        clear hE hY hC
        have kRd := implRead_any (.slice (some ⟨bx, ox, none⟩) n xc) (.slice ya nx yc) X.1 xq (j : Int) w15 (by rw [HLX.out]; omega) (valid_bs HVX.out HXQ.out) (HRX.out.same HKI.out)
        go_wp2_with fail
        refine kRd.mono ?_
        rintro e w16 ⟨ra, rn, rc, rb, rfl, hrb, hro, _, hk16⟩
        have hrb2 : rb = secB RY j := by
          rw [HXQ.out] at hrb
          rw [← HE.out]
          rcases hrb with ⟨_, _, _, h⟩ | ⟨h, _⟩
          · exact h
          · exact absurd ⟨HVX.out, by omega, by rw [HLX.out]; have := HM5.out; omega⟩ h
        rw [hrb2] at hro
        have kB1 := sameB_any (.slice ra rn rc) sv (secB RY j) w16 hro.rd (HSV.out.same hk16)
        have HK16 := hid (HKI.out.trans hk16)
        have HSV := hid (HSV.out.same hk16)
        have HKV := hid (HKV.out.same hk16)
        clear hrb2 hrb hro hk16 kRd x2 x3
        go_wp2_with fail
        refine kB1.mono ?_
        rintro e w17 ⟨rfl, hk17⟩
        have HK17 := hid (HK16.out.trans hk17)
        have HKV := hid (HKV.out.same hk17)
        have kB2 := sameB_any (.slice (some ⟨by1, fy + j * 512, none⟩) 512 (sc - j * 512)) sv (secB RY j) w17 (Rd.part (n := 512) (fun i hi => HK17.out.cellOf (HCY.out i hi) id) (j * 512) 512 (by rw [HLY.out]; exact hjn) rfl (by omega) (by simp [maxLen])) (HSV.out.same hk17)
        obtain ⟨z0, z1⟩ := (HBY.out.same HK17.out).all2
        clear hk17 kB1
        go_wp2_with fail
        refine kB2.mono ?_
        rintro e w18 ⟨rfl, hk18⟩
        have HK18 := hid (HK17.out.trans hk18)
        have kB3 := sameB_any (.slice (some ⟨bc, fc + j * 512, none⟩) 512 (cc - j * 512)) kv (secB RC j) w18 (Rd.part (n := 512) (fun i hi => HK18.out.cellOf (HCC.out i hi) id) (j * 512) 512 (by rw [HLC.out]; exact hjn) rfl (by omega) (by simp [maxLen])) (HKV.out.same hk18)
        clear z0 z1 hk18 kB2
        obtain ⟨c0, c1⟩ := (HBC.out.same HK18.out).all2
        go_wp2_with fail
        refine kB3.mono ?_
        rintro e w19 ⟨rfl, hk19⟩
        have HK19 := hid (HK18.out.trans hk19)
        clear c0 c1 hk19 kB3
        go_wp2_with fail
        go_roundw
        case rel => exact ⟨j + 1, by omega, by go_num, HK19⟩
        case measure => simp [intOf]; omega
      have hp1 : t < xq.length := by rw [HNX.out]; exact hlt2
      obtain ⟨bp, fp, ey, hcy⟩ : ∃ b off, ya = some ⟨b, off, none⟩ ∧ ∀ i (h : i < xq.length), w13.cell? ⟨b, off + i * 2, none⟩ = some (.int .i64 xq[i].sec) ∧ w13.cell? ⟨b, off + i * 2 + 1, none⟩ = some xq[i].v := by
        rcases HRX.out.pend.row with ⟨h, _⟩ | ⟨b, off, c, h, hc⟩
        · rw [h] at hp1; simp at hp1
        · injection h with h _ _; exact ⟨b, off, h, hc⟩
      subst ey
      have y1 := HKI.out.cellOf (hcy t hp1).1 id
      have y2 := HKI.out.cellOf (hcy t hp1).2 id
      have HDT := (show Hid (Rd .u8 w15 xq[t].v xq[t].bs) from (HRX.out.pend.data _ (List.getElem_mem hp1)).same HKI.out)
      have HG := (show Hid (X.2.getD t (0, []) = (xq[t].sec, xq[t].bs)) from by unfold Hid; rw [← HXQ.out]; simp [dataP, hp1])
      obtain ⟨sec, hsec⟩ : ∃ x, xq[t].sec = x := ⟨_, rfl⟩
      obtain ⟨pv1, hpv⟩ : ∃ x, xq[t].v = x := ⟨_, rfl⟩
      rw [hsec] at y1 HG
      rw [hpv] at y2 HDT
      clear hcy hsec hpv
      have hti : (t : Int) < (nx : Int) := by omega
      have ht0 : (0 : Int) ≤ (t : Int) := by omega
      have hnx8 : nx ≤ 8192 := HNX8.out
      have q4 : IntKind.i64.wrap ((t : Int) + 1) = (t : Int) + 1 := by rw [IntKind.wrap_i64]; omega
      by_cases hs : sec = (j : Int)
      · subst hs
        have HSV2 := (show Hid (Rd .u8 w15 pv1 ((lastN (fun _ => true) (j : Int) X.2 (t + 1)).getD (secB X.1 j))) from by unfold Hid; rw [lastN_hit HG.out rfl]; exact HDT.out)
        by_cases h60 : t < 60
        · have h6i : (t : Int) < 60 := by omega
          have kk := HKI.out.cellOf (HCK.out t (by rw [HKL.out]; exact h60)) id
          obtain ⟨kx, hkx⟩ : ∃ x, ks.getD t 0 = x := ⟨_, rfl⟩
          rw [hkx] at kk
          have HKX := hid hkx
          clear hkx
          by_cases hk0 : kx = 0
          · have HKV2 := (show Hid (Rd .u8 w15 kv ((lastN (keepS ks) (j : Int) X.2 (t + 1)).getD (secB X.1 j))) from by unfold Hid; rw [lastN_miss HG.out (fun h => by have h := h.2; unfold keepS at h; rw [HKX.out, hk0] at h; simp at h)]; exact HKV.out)
            go_wp2_with fail
            go_roundw
            case rel => exact ⟨pv1, kv, t + 1, rfl, rfl, by omega, by go_num, HSV2, HKV2, HKI⟩
            case measure => simp [intOf]; omega
          · have HKV2 := (show Hid (Rd .u8 w15 pv1 ((lastN (keepS ks) (j : Int) X.2 (t + 1)).getD (secB X.1 j))) from by unfold Hid; rw [lastN_hit HG.out (by unfold keepS; rw [HKX.out, HKL.out]; simp [h60, hk0])]; exact HDT.out)
            go_wp2_with fail
            go_roundw
            case rel => exact ⟨pv1, pv1, t + 1, rfl, rfl, by omega, by go_num, HSV2, HKV2, HKI⟩
            case measure => simp [intOf]; omega
        · have h6i : ¬ (t : Int) < 60 := by omega
          have HKV2 := (show Hid (Rd .u8 w15 kv ((lastN (keepS ks) (j : Int) X.2 (t + 1)).getD (secB X.1 j))) from by unfold Hid; rw [lastN_miss HG.out (fun h => by have h := h.2; unfold keepS at h; rw [HKL.out] at h; simp [h60] at h)]; exact HKV.out)
          go_wp2_with fail
          go_roundw
          case rel => exact ⟨pv1, kv, t + 1, rfl, rfl, by omega, by go_num, HSV2, HKV2, HKI⟩
          case measure => simp [intOf]; omega
      · have HSV2 := (show Hid (Rd .u8 w15 sv ((lastN (fun _ => true) (j : Int) X.2 (t + 1)).getD (secB X.1 j))) from by unfold Hid; rw [lastN_miss HG.out (fun h => hs h.1)]; exact HSV.out)
        have HKV2 := (show Hid (Rd .u8 w15 kv ((lastN (keepS ks) (j : Int) X.2 (t + 1)).getD (secB X.1 j))) from by unfold Hid; rw [lastN_miss HG.out (fun h => hs h.1)]; exact HKV.out)
        go_wp2_with fail
        go_roundw
        case rel => exact ⟨sv, kv, t + 1, rfl, rfl, by omega, by go_num, HSV2, HKV2, HKI⟩
        case measure => simp [intOf]; omega
end Go.Proofs.Ytfhdkbibcndmjaa
