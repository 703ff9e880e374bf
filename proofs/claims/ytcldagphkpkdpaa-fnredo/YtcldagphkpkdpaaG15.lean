import Derived.Test.YtcldagphkpkdpaaG03
namespace Go.Proofs.Ytcldagphkpkdpaa
set_option maxRecDepth 100000
set_option maxHeartbeats 16000000
set_option linter.unusedVariables false
set_option linter.unusedSimpArgs false
open Go Go.RowKit
def UndC : Prop := ∀ (x : StLogRecord) (w : World), RcB x → StLogRecord.rd w x → Calls Try.prog 70 #[x.val] w fun e w' => ∃ y : StLogRecord, e = .returned y.val ∧ RcB y ∧ (∀ b, FootL y.rows b → w.heap.size ≤ b) ∧ OwnL w' y.rows ∧ Same w w'
theorem giveup_k {Ok : (Int × Int × Int × Int × List Int) → RcY → Prop} (hA : AppC Ok) (hF : FluC) (hU : UndC) {w0 w : World} {lo B H : Nat} {v : Value} {cs : List Int} {k : Nat} {size : Int} {x : StLog} {fa : Option Addr} {fn fc : Nat} {qs : List StLogFrame} {g1 g2 g3 : Nat} {l1 l2 l3 : List Int} (h : HsS w0 w lo B H v cs k size x fa fn fc qs g1 g2 g3 l1 l2 l3 w) (hq : 1 ≤ qs.length) (hn : qs.length ≤ 10000) (T : Nat) (hT : T < 6) :
  Calls Try.prog 55 #[.pointer (some ⟨B, 0, none⟩), .pointer (some ⟨H, 0, none⟩), .int .i64 (T : Int)] w fun e w' => e = .returned (.tuple #[]) ∧ HsE w0 w lo B H v cs k size (qs.length + 1) g1 g2 g3 w' := by
 have q5 := h.hs.box.cell 5
 have q6 := h.hs.box.cell 6
 have q7 := h.hs.box.cell 7
 have q8 := h.hs.box.cell 8
 dsimp only [List.getElem?_cons_succ, List.getElem?_cons_zero] at q5 q6 q7 q8
 have a1 := six_at h.hs.c1 hT
 have a2 := six_at h.hs.c2 hT
 have a3 := six_at h.hs.c3 hT
 obtain ⟨z1, e1⟩ : ∃ z, l1.getD T 0 = z := ⟨_, rfl⟩
 obtain ⟨z2, e2⟩ : ∃ z, l2.getD T 0 = z := ⟨_, rfl⟩
 obtain ⟨z3, e3⟩ : ∃ z, l3.getD T 0 = z := ⟨_, rfl⟩
 rw [e1] at a1
 rw [e2] at a2
 rw [e3] at a3
 clear e1 e2 e3
 have HS := hid h
 clear h
 by_cases h3 : z3 = 3
 case neg =>
  have h3' : (z3 != 3) = true := by simp [h3]
  go_enter Try.func55, Try.ntmps55
  go_wp2_with fail
  refine (HS.out.small hA hF (by omega) _ _ _ _ _).mono ?_
  rintro e w2 ⟨rfl, ha⟩
  obtain ⟨xm, fam, fm, fcm, qm, hS2, hl1, hl2, _⟩ := HS.out.add ha
  have HS2 := hid hS2
  clear ha hS2 HS q5 q6 q7 q8 a1 a2 a3
  obtain ⟨gF, off, rfl, hfm, hFR⟩ := HS2.out.hs.fr (by omega)
  obtain ⟨mm, hmm⟩ : ∃ m : Nat, m + 1 = fm := ⟨fm - 1, by omega⟩
  have HLM := hid (hFR.lsn mm (by omega))
  obtain ⟨Lm, hLm⟩ : ∃ z, (qm[mm]'(by omega)).lsn = z := ⟨_, rfl⟩
  rw [hLm] at HLM
  have qw : IntKind.i64.wrap ((fm : Int) - 1) = (mm : Int) := by rw [IntKind.wrap_i64]; have := HS2.out.hs.own.own.rd.max; unfold maxLen at this; omega
  have hmf : mm < fm := by omega
  have HFM := hid hfm
  clear hFR hLm hmm hfm
  go_wp2_with fail
  let Y2 : World → Prop := fun wx : World => wx.cell? ⟨H, 6, none⟩ = some (.slice (some ⟨g1, 0, none⟩) 6 6) ∧ wx.cell? ⟨H, 5, none⟩ = some (.slice (some ⟨gF, off, none⟩) fm fcm) ∧ wx.cell? ⟨gF, off + mm * 16, none⟩ = some (.int .i64 Lm)
  refine wp_region_V Y2 19 20 rfl (by kernel_rfl) ?_
  generalize hwd : World.drew w2 = w7
  have hk7 : Same w2 w7 := by rw [← hwd]; exact (Kept.refl _ _).drew
  clear hwd
  have HS7 := hid (HS2.out.same hk7)
  have hS : Y2 w7 := ⟨HS7.out.hs.box.cell 6, HS7.out.hs.box.cell 5, hk7.cellOf HLM.out id⟩
  have u1 := six_at HS7.out.hs.c1 hT
  have fx := HS7.out.hs.c1.1.frozen T
  clear HS2 hk7 HLM
  refine tk 0 27 hS ?_
  refine tk 1 28 hS ?_
  refine tk 2 29 hS ?_
  refine tk 3 30 hS ?_
  refine tk 4 31 hS ?_
  refine tk 5 32 hS ?_
  refine tk 6 33 hS ?_
  refine tk 7 34 hS ?_
  refine tk 8 35 hS ?_
  refine tk 9 36 hS ?_
  refine tk 10 37 hS ?_
  refine tk 11 38 hS ?_
  refine tk 12 39 hS ?_
  refine tk 13 40 hS ?_
  refine tk 14 41 hS ?_
  refine tk 15 42 hS ?_
  refine tk 16 43 hS ?_
  refine tk 17 44 hS ?_
  have hTi : (T : Int) < 6 := by omega
  refine wpAnyV_one (i := 18) (by kernel_rfl) rfl (fun K hK => ?_)
  go_simp
  refine hK.out _ _ (fun _ => hS) ?_
  clear hK K
  try simp only [Act.put, sA, s0, sS]
  refine wpAnyV_one (i := 19) (by kernel_rfl) rfl (fun K hK => ?_)
  go_simp
  refine hK.out _ _ (fun h => absurd rfl h) ?_
  clear hK K
  refine wpAnyV_done (by kernel_rfl) ?_
  try simp only [Act.put, sA, s0, sS]
  clear hS u1 fx hTi
  have HS8 := hid (HS7.out.set1 T Lm)
  clear HS7 qw hmf
  generalize World.setCell w7 ⟨g1, T, none⟩ (.int .i64 Lm) = w8 at HS8 ⊢
  have r8 := HS8.out.hs.box.cell 8
  dsimp only [List.getElem?_cons_succ, List.getElem?_cons_zero] at r8
  have b3 := six_at HS8.out.hs.c3 hT
  have fx := HS8.out.hs.c3.1.frozen T
  have HS9 := hid (HS8.out.set3 T 3)
  clear HS8
  go_wp2
  refine bodyPost_ret (results_none (by rfl) _ _ _) rfl ⟨rfl, _, _, _, _, _, _, _, _, _, HS9.out, by omega, by omega, Nat.le_refl _⟩
 have h3' : (z3 != 3) = false := by simp [h3]
 by_cases h2 : z2 = 0
 case pos =>
  subst h2
  go_enter Try.func55, Try.ntmps55
  go_wp2_with fail
  refine (HS.out.small hA hF (by omega) _ _ _ _ _).mono ?_
  rintro e w2 ⟨rfl, ha⟩
  obtain ⟨xm, fam, fm, fcm, qm, hS2, hl1, hl2, _⟩ := HS.out.add ha
  have HS8 := hid hS2
  clear ha hS2 HS q5 q6 q7 q8 a1 a2 a3
  have r8 := HS8.out.hs.box.cell 8
  dsimp only [List.getElem?_cons_succ, List.getElem?_cons_zero] at r8
  have b3 := six_at HS8.out.hs.c3 hT
  have fx := HS8.out.hs.c3.1.frozen T
  have HS9 := hid (HS8.out.set3 T 9)
  clear HS8
  go_wp2
  refine bodyPost_ret (results_none (by rfl) _ _ _) rfl ⟨rfl, _, _, _, _, _, _, _, _, _, HS9.out, by omega, by omega, Nat.le_refl _⟩
 have h2' : (z2 == 0) = false := by simp [h2]
 obtain ⟨gF, off, rfl, hfn, hFR⟩ := HS.out.hs.fr hq
 clear hFR
 have HN := hid hfn
 clear hfn
 have hfm : fn ≤ 10000 := by have := HN.out; omega
 go_enter Try.func55, Try.ntmps55
 go_wp2_with fail
 go_loopw [6] (fun i wr => ∃ j : Nat, j ≤ fn ∧ i = .int .i64 (j : Int) ∧ Hid (HsS w0 w lo B H v cs k size x (some ⟨gF, off, none⟩) fn fc qs g1 g2 g3 l1 l2 l3 wr) ∧ Hid (Same w wr)) (fun i _ => fn - (intOf i).toNat)
 case atStart => exact ⟨0, Nat.zero_le _, rfl, HS, hid (Kept.refl _ _)⟩
 case round =>
 obtain ⟨j, hj, rfl, HS1, HK1⟩ := hrel
 have r5 := HS1.out.hs.box.cell 5
 dsimp only [List.getElem?_cons_succ, List.getElem?_cons_zero] at r5
 by_cases hlt : j < fn
 case neg =>
  go_wp2
  refine bodyPost_end (results_none (by rfl) _ _ _) rfl ⟨rfl, _, _, _, _, _, _, _, _, _, HS1.out, hq, by omega, Nat.le_refl _⟩
 have hjq : j < qs.length := by have := HN.out; omega
 obtain ⟨_, _, he, _, hFR⟩ := HS1.out.hs.fr hq
 injection he with he
 injection he with he1 he2 _
 subst he1 he2
 obtain ⟨Lj, hLj⟩ : ∃ z, qs[j].lsn = z := ⟨_, rfl⟩
 have HL := hid (hFR.lsn j hjq)
 rw [hLj] at HL
 have HRC := hid (hFR.rec j hjq)
 have HRB := hid (HS1.out.hs.each _ (List.getElem_mem hjq))
 have HRD := hid (StLogFrame.own_rd (HS1.out.hs.own.rows.mem _ (List.getElem_mem hjq)))
 clear hFR hLj q5 q6 q7 q8 a1 a3
 have a2 := hid (HK1.out.cellOf a2 id)
 have hji : (j : Int) < (fn : Int) := by omega
 go_wp2_with fail
 let Y1 : World → Prop := fun wx : World => wx.cell? ⟨H, 5, none⟩ = some (.slice (some ⟨gF, off, none⟩) fn fc) ∧ wx.cell? ⟨gF, off + j * 16, none⟩ = some (.int .i64 Lj) ∧ wx.cell? ⟨H, 7, none⟩ = some (.slice (some ⟨g2, 0, none⟩) 6 6) ∧ wx.cell? ⟨g2, T, none⟩ = some (.int .i64 z2)
 refine wp_region_V Y1 99 16 rfl (by kernel_rfl) ?_
 generalize hwd : World.drew wr = w7
 have hk7 : Same wr w7 := by rw [← hwd]; exact (Kept.refl _ _).drew
 clear hwd
 have HS7 := hid (HS1.out.same hk7)
 have hS : Y1 w7 := ⟨HS7.out.hs.box.cell 5, hk7.cellOf HL.out id, HS7.out.hs.box.cell 7, hk7.cellOf a2.out id⟩
 have HK7 := hid (HK1.out.trans hk7)
 have HRC7 := hid (hk7.ranges HRC.out)
 have HRD7 := hid (HRD.out.same hk7)
 have hTi : (T : Int) < 6 := by omega
 clear HS1 HK1 HL hk7 HRC HRD a2 r5
 refine tk 0 86 hS ?_
 refine tk 1 87 hS ?_
 refine tk 2 88 hS ?_
 refine tk 3 89 hS ?_
 refine tk 4 90 hS ?_
 refine tk 5 91 hS ?_
 refine tk 6 92 hS ?_
 refine tk 7 93 hS ?_
 refine tk 8 94 hS ?_
 refine tk 9 95 hS ?_
 refine tk 10 96 hS ?_
 refine tk 11 97 hS ?_
 refine tk 12 98 hS ?_
 refine tk 13 99 hS ?_
 refine tk 14 100 hS ?_
 refine tk 15 101 hS ?_
 refine wpAnyV_done (by kernel_rfl) ?_
 try simp only [Act.put, sA, s0, sS]
 clear hS
 by_cases hL : Lj = z2
 case neg =>
  have hL' : (Lj == z2) = false := by simp [hL]
  go_wp2_with fail
  go_roundw
  case rel => exact ⟨j + 1, by omega, by go_num, HS7, HK7⟩
  case measure => simp [intOf]; omega
 have hL' : (Lj == z2) = true := by simp [hL]
 clear hL
 have r5 := HS7.out.hs.box.cell 5
 dsimp only [List.getElem?_cons_succ, List.getElem?_cons_zero] at r5
 have kU := hU qs[j].record w7 HRB.out HRD7.out
 obtain ⟨rc, hrc⟩ : ∃ r, rcCells qs[j].record = r := ⟨_, rfl⟩
 have HCL := (show Hid (rc.length = 14) from by unfold Hid; rw [← hrc]; rfl)
 rw [show (qs[j].record).val = .agg (rcCells qs[j].record).toArray from rfl, hrc] at kU
 rw [hrc] at HRC7
 clear hrc
 have HI14 := (show Hid ((Try.prog.info? 48).map (·.size) = some rc.length) from by unfold Hid; rw [HCL.out]; exact infoLR14)
 go_wp2_with (refine wpList_load_mid rfl 48 _ rfl gF (off + j * 16 + 2) rfl rc _ HRC7.out Try.underlying48 rfl HI14.out ?_)
 refine kU.mono ?_
 rintro e w3 ⟨y, rfl, hyB, hyf, hyo, hk3⟩
 have HS3 := hid (HS7.out.same hk3)
 have HYF := (show Hid (∀ b, FootL y.rows b → _) from fun b hb => HS7.out.fresh b (hyf b hb))
 have HYB := hid hyB
 clear kU HRC7 HRD7 HRB HI14 HCL HS7 hyB r5
 obtain ⟨kd, tx, pv, pg, sl, be, af, un, nt, te, de, im⟩ := y
 obtain ⟨yc, hyc⟩ : ∃ c, rcCells ⟨kd, tx, pv, pg, sl, be, af, un, nt, te, de, im⟩ = c := ⟨_, rfl⟩
 have HCY := (show Hid (yc.length = 14) from by unfold Hid; rw [← hyc]; rfl)
 have HON := (show Hid (yc.toArray.all (·.oneCell') = true) from by unfold Hid; rw [← hyc]; exact rcCells_one _)
 have HYC := hid hyc
 rw [show StLogRecord.val ⟨kd, tx, pv, pg, sl, be, af, un, nt, te, de, im⟩ = .agg (rcCells ⟨kd, tx, pv, pg, sl, be, af, un, nt, te, de, im⟩).toArray from rfl, hyc]
 clear hyc
 go_upto_region 12 with (refine wpList_store_mid rfl 48 _ _ rfl w3.heap.size 0 yc.toArray rfl rfl ((Blk.new w3 _ _).there 0 _ (by rw [List.size_toArray, HCY.out]; decide)) (by rw [List.size_toArray, HCY.out]; kernel_rfl) HON.out ?_; rw [List.toList_toArray])
 generalize hW : World.setCells _ w3.heap.size 0 yc = w4
 have hbx : Blk w4 w3.heap.size 48 yc ∧ Same w3 w4 := by rw [← hW]; exact box_fill w3 _ yc _ (by rw [HCY.out]; rfl)
 obtain ⟨hb, hk4⟩ := hbx
 clear hW
 rw [← HYC.out] at hb
 obtain ⟨Z, hZ⟩ : ∃ Z, w3.heap.size = Z := ⟨_, rfl⟩
 rw [hZ] at hb ⊢
 have HZF := (show Hid (¬ Z = H ∧ ¬ Z = g1 ∧ ¬ Z = g2 ∧ ¬ Z = g3) from by have h := HS3.out.fresh Z (by omega); exact ⟨h.2.2.1, h.2.2.2.1, h.2.2.2.2.1, h.2.2.2.2.2.1⟩)
 have HZY := (show Hid (∀ b, FootL (StLogRecord.rows ⟨kd, tx, pv, pg, sl, be, af, un, nt, te, de, im⟩) b → ¬ b = Z) from fun b hb e => by have := hyo.lt b hb; omega)
 have HS4 := hid (HS3.out.same hk4)
 have c2 : w4.cell? ⟨Z, 2, none⟩ = some (.int .i64 pv) := hb.cell 2
 have f2 := hb.frozen 2
 have r6 := HS4.out.hs.box.cell 6
 dsimp only [List.getElem?_cons_succ, List.getElem?_cons_zero] at r6
 have a1 := six_at HS4.out.hs.c1 hT
 obtain ⟨z1, e1⟩ : ∃ z, l1.getD T 0 = z := ⟨_, rfl⟩
 rw [e1] at a1
 clear e1
 have hb5 := hb.stored 2 (.int .i64 z1)
 have hk5 : Same w3 (w4.setCell ⟨Z, 2, none⟩ (.int .i64 z1)) := hk4.next (Kept.setCell (R := fun b => b = Z) (Kept.refl _ _) (.inr (by rfl)) _) (fun i hi e => by have e' : i = Z := e; omega)
 have HS5 := hid (HS3.out.same hk5)
 have HO5 := hid (hyo.same hk5)
 have HB5 := (show Hid (Blk (w4.setCell ⟨Z, 2, none⟩ (.int .i64 z1)) Z 48 (rcCells ⟨kd, tx, z1, pg, sl, be, af, un, nt, te, de, im⟩)) from hb5)
 clear hb hb5 hk4 hk5 HS4 HS3 HCY HON HYC hyo hyf hZ
 go_wp2_with fail
 generalize World.setCell w4 ⟨Z, 2, none⟩ (.int .i64 z1) = w5 at HS5 HO5 HB5 ⊢
 clear c2 f2 r6 a1
 let Y4 : World → Prop := fun wx : World => wx.cell? ⟨H, 7, none⟩ = some (.slice (some ⟨g2, 0, none⟩) 6 6) ∧ wx.cell? ⟨Z, 9, none⟩ = some (.int .i64 un)
 refine wp_region_V Y4 8 9 rfl (by kernel_rfl) ?_
 generalize hwd : World.drew w5 = w6
 have hk6 : Same w5 w6 := by rw [← hwd]; exact (Kept.refl _ _).drew
 clear hwd
 have HS6 := hid (HS5.out.same hk6)
 have HB6 := hid (HB5.out.same hk6)
 have HO6 := hid (HO5.out.same hk6)
 have hS : Y4 w6 := ⟨HS6.out.hs.box.cell 7, HB6.out.cell 9⟩
 have u1 := six_at HS6.out.hs.c2 hT
 have fx := HS6.out.hs.c2.1.frozen T
 clear HS5 HB5 HO5 hk6
 refine tk 0 119 hS ?_
 refine tk 1 120 hS ?_
 refine tk 2 121 hS ?_
 refine tk 3 122 hS ?_
 refine tk 4 123 hS ?_
 refine tk 5 124 hS ?_
 refine tk 6 125 hS ?_
 refine wpAnyV_one (i := 7) (by kernel_rfl) rfl (fun K hK => ?_)
 go_simp
 refine hK.out _ _ (fun _ => hS) ?_
 clear hK K
 try simp only [Act.put, sA, s0, sS]
 refine wpAnyV_one (i := 8) (by kernel_rfl) rfl (fun K hK => ?_)
 go_simp
 refine hK.out _ _ (fun h => absurd rfl h) ?_
 clear hK K
 refine wpAnyV_done (by kernel_rfl) ?_
 try simp only [Act.put, sA, s0, sS]
 clear hS u1 fx
 have hk8 : Kept (fun b => b = g2) w6 (w6.setCell ⟨g2, T, none⟩ (.int .i64 un)) := Kept.setCell (R := fun b => b = g2) (Kept.refl _ _) (.inr (by rfl)) _
 have HS8 := hid (HS6.out.set2 T un)
 have HB8 := hid (HB6.out.kept hk8 HZF.out.2.2.1)
 have HO8 := hid (HO6.out.kept hk8 (fun b hb e => (HYF.out b hb).2.2.2.2.1 e))
 clear HS6 HB6 HO6 hk8
 generalize World.setCell w6 ⟨g2, T, none⟩ (.int .i64 un) = w8 at HS8 HB8 HO8 ⊢
 have kM := HS8.out.more hA hF (by omega) ⟨kd, tx, z1, pg, sl, be, af, un, nt, te, de, im⟩ HYB.out HO8.out HYF.out
 have HRG := hid HB8.out.rangeAll
 obtain ⟨rc, hrc⟩ : ∃ r, rcCells ⟨kd, tx, z1, pg, sl, be, af, un, nt, te, de, im⟩ = r := ⟨_, rfl⟩
 have HI14 := (show Hid ((Try.prog.info? 48).map (·.size) = some rc.length) from by unfold Hid; rw [← hrc]; exact infoLR14)
 rw [hrc] at kM HRG
 clear hrc
 go_wp2_with (refine wpList_load_mid rfl 48 _ rfl Z 0 rfl rc _ HRG.out Try.underlying48 rfl HI14.out ?_)
 refine kM.mono ?_
 rintro e w9 ⟨rfl, ha⟩
 obtain ⟨xm, fam, fm, fcm, qm, hS2, hl1, hl2, _⟩ := HS8.out.add ha
 have HS2 := hid hS2
 have HNN := HN
 clear ha hS2 HS8 kM HRG HI14 HB8 HO8 hTi HK7 HS HN
 obtain ⟨gG, ofG, rfl, hfm, hFR⟩ := HS2.out.hs.fr (by omega)
 obtain ⟨mm, hmm⟩ : ∃ m : Nat, m + 1 = fm := ⟨fm - 1, by omega⟩
 have HLM := hid (hFR.lsn mm (by omega))
 obtain ⟨Lm, hLm⟩ : ∃ z, (qm[mm]'(by omega)).lsn = z := ⟨_, rfl⟩
 rw [hLm] at HLM
 have qw : IntKind.i64.wrap ((fm : Int) - 1) = (mm : Int) := by rw [IntKind.wrap_i64]; have := HS2.out.hs.own.own.rd.max; unfold maxLen at this; omega
 have hmf : mm < fm := by omega
 have HFM := hid hfm
 clear hFR hLm hmm hfm
 go_wp2_with fail
 let Y3 : World → Prop := fun wx : World => wx.cell? ⟨H, 6, none⟩ = some (.slice (some ⟨g1, 0, none⟩) 6 6) ∧ wx.cell? ⟨H, 5, none⟩ = some (.slice (some ⟨gG, ofG, none⟩) fm fcm) ∧ wx.cell? ⟨gG, ofG + mm * 16, none⟩ = some (.int .i64 Lm)
 refine wp_region_V Y3 19 20 rfl (by kernel_rfl) ?_
 generalize hwd : World.drew w9 = w7
 have hk7 : Same w9 w7 := by rw [← hwd]; exact (Kept.refl _ _).drew
 clear hwd
 have HS7 := hid (HS2.out.same hk7)
 have hS : Y3 w7 := ⟨HS7.out.hs.box.cell 6, HS7.out.hs.box.cell 5, hk7.cellOf HLM.out id⟩
 have u1 := six_at HS7.out.hs.c1 hT
 have fx := HS7.out.hs.c1.1.frozen T
 clear HS2 hk7 HLM
 refine tk 0 130 hS ?_
 refine tk 1 131 hS ?_
 refine tk 2 132 hS ?_
 refine tk 3 133 hS ?_
 refine tk 4 134 hS ?_
 refine tk 5 135 hS ?_
 refine tk 6 136 hS ?_
 refine tk 7 137 hS ?_
 refine tk 8 138 hS ?_
 refine tk 9 139 hS ?_
 refine tk 10 140 hS ?_
 refine tk 11 141 hS ?_
 refine tk 12 142 hS ?_
 refine tk 13 143 hS ?_
 refine tk 14 144 hS ?_
 refine tk 15 145 hS ?_
 refine tk 16 146 hS ?_
 refine tk 17 147 hS ?_
 have hTi : (T : Int) < 6 := by omega
 refine wpAnyV_one (i := 18) (by kernel_rfl) rfl (fun K hK => ?_)
 go_simp
 refine hK.out _ _ (fun _ => hS) ?_
 clear hK K
 try simp only [Act.put, sA, s0, sS]
 refine wpAnyV_one (i := 19) (by kernel_rfl) rfl (fun K hK => ?_)
 go_simp
 refine hK.out _ _ (fun h => absurd rfl h) ?_
 clear hK K
 refine wpAnyV_done (by kernel_rfl) ?_
 try simp only [Act.put, sA, s0, sS]
 clear hS u1 fx hTi
 have HSE := hid (HS7.out.set1 T Lm)
 clear HS7 qw hmf
 generalize World.setCell w7 ⟨g1, T, none⟩ (.int .i64 Lm) = wE at HSE ⊢
 go_wp2
 refine bodyPost_ret (results_none (by rfl) _ _ _) rfl ⟨rfl, _, _, _, _, _, _, _, _, _, HSE.out, by omega, by omega, Nat.le_refl _⟩
theorem recS_1 (txn : Int) (prev : Int) (page : Int) (slot : Int) (beforeu : Bool) (beforea : Option Addr) (beforen beforec : Nat) (afteru : Bool) (aftera : Option Addr) (aftern afterc : Nat) (uN : Int) (nT : Int) (txnsa : Option Addr) (txnsn txnsc : Nat) (dirtya : Option Addr) (dirtyn dirtyc : Nat) (imagea : Option Addr) (imagen imagec : Nat) (w : World) (EX b1 b2 b3 b4 b5 b6 : Bool) (PF : Int) (hkind : ∀ wx, Same w wx → Calls Try.prog 74 #[.int .i64 1, .int .i64 1, .int .i64 8] wx fun e w' => e = .returned (.bool true) ∧ Same wx w') (hex : ∀ wx, Same w wx → Calls Try.prog 75 #[.agg #[.int .i64 1, .int .i64 txn, .int .i64 prev, .int .i64 page, .int .i64 slot, .bool beforeu, .slice beforea beforen beforec, .bool afteru, .slice aftera aftern afterc, .int .i64 uN, .int .i64 nT, .slice txnsa txnsn txnsc, .slice dirtya dirtyn dirtyc, .slice imagea imagen imagec]] wx fun e w' => e = .returned (.bool EX) ∧ Same wx w') (htxn : ∀ wx, Same w wx → Calls Try.prog 74 #[.int .i64 txn, .int .i64 1, .int .i64 2147483647] wx fun e w' => e = .returned (.bool b1) ∧ Same wx w') (hprev : ∀ wx, Same w wx → Calls Try.prog 74 #[.int .i64 prev, .int .i64 0, .int .i64 1099511627776] wx fun e w' => e = .returned (.bool b2) ∧ Same wx w') (hpage : ∀ wx, Same w wx → Calls Try.prog 74 #[.int .i64 page, .int .i64 0, .int .i64 15] wx fun e w' => e = .returned (.bool b3) ∧ Same wx w') (hslot : ∀ wx, Same w wx → Calls Try.prog 74 #[.int .i64 slot, .int .i64 0, .int .i64 31] wx fun e w' => e = .returned (.bool b4) ∧ Same wx w') (hbef : ∀ wx, Same w wx → Calls Try.prog 76 #[.agg #[.bool beforeu, .slice beforea beforen beforec]] wx fun e w' => e = .returned (.bool b5) ∧ Same wx w') (haft : ∀ wx, Same w wx → Calls Try.prog 76 #[.agg #[.bool afteru, .slice aftera aftern afterc]] wx fun e w' => e = .returned (.bool b6) ∧ Same wx w') :
  Calls Try.prog 66 #[.agg #[.int .i64 1, .int .i64 txn, .int .i64 prev, .int .i64 page, .int .i64 slot, .bool beforeu, .slice beforea beforen beforec, .bool afteru, .slice aftera aftern afterc, .int .i64 uN, .int .i64 nT, .slice txnsa txnsn txnsc, .slice dirtya dirtyn dirtyc, .slice imagea imagen imagec]] w fun e w' => e = .returned (.int .i64 (if EX = true then 2 else (if b1 = false then 3 else (if b2 = false then 4 else (if b3 = false then 5 else (if b4 = false then 5 else (if b5 = false then 6 else (if b6 = false then 6 else (if (beforeu || afteru) = false then 6 else (0)))))))))) ∧ Same w w' := by
 obtain ⟨HK0, HB0⟩ := new1 w [.int .i64 1, .int .i64 txn, .int .i64 prev, .int .i64 page, .int .i64 slot, .bool beforeu, .slice beforea beforen beforec, .bool afteru, .slice aftera aftern afterc, .int .i64 uN, .int .i64 nT, .slice txnsa txnsn txnsc, .slice dirtya dirtyn dirtyc, .slice imagea imagen imagec] 48
 go_enter Try.func66, Try.ntmps66
 go_wp2_with fail
 refine (hkind _ HK0.out).mono ?_
 rintro e w1 ⟨rfl, hk⟩
 have HK1 := hid (HK0.out.trans hk)
 have HB1 := hid (HB0.out.same hk)
 clear hk HK0 HB0
 obtain ⟨d0, d1, d2, d3, d4, d5, d6, d7, d8, d9, d10, d11, d12, d13⟩ := HB1.out.all14
 go_wp2_with fail
 refine (hex _ HK1.out).mono ?_
 rintro e w2 ⟨rfl, hk⟩
 clear d0 d1 d2 d3 d4 d5 d6 d7 d8 d9 d10 d11 d12 d13
 have HK2 := hid (HK1.out.trans hk)
 have HB2 := hid (HB1.out.same hk)
 clear hk HK1 HB1
 obtain ⟨d0, d1, d2, d3, d4, d5, d6, d7, d8, d9, d10, d11, d12, d13⟩ := HB2.out.all14
 cases EX with
 | true =>
  go_wp2
  go_ret
  exact ⟨by first | rfl | simp, HK2.out⟩
 | false =>
  go_wp2_with fail
  refine (htxn _ HK2.out).mono ?_
  rintro e w3 ⟨rfl, hk⟩
  clear d0 d1 d2 d3 d4 d5 d6 d7 d8 d9 d10 d11 d12 d13
  have HK3 := hid (HK2.out.trans hk)
  have HB3 := hid (HB2.out.same hk)
  clear hk HK2 HB2
  obtain ⟨d0, d1, d2, d3, d4, d5, d6, d7, d8, d9, d10, d11, d12, d13⟩ := HB3.out.all14
  cases b1 with
  | false =>
   go_wp2
   go_ret
   exact ⟨by first | rfl | simp, HK3.out⟩
  | true =>
   go_wp2_with fail
   refine (hprev _ HK3.out).mono ?_
   rintro e w4 ⟨rfl, hk⟩
   clear d0 d1 d2 d3 d4 d5 d6 d7 d8 d9 d10 d11 d12 d13
   have HK4 := hid (HK3.out.trans hk)
   have HB4 := hid (HB3.out.same hk)
   clear hk HK3 HB3
   obtain ⟨d0, d1, d2, d3, d4, d5, d6, d7, d8, d9, d10, d11, d12, d13⟩ := HB4.out.all14
   cases b2 with
   | false =>
    go_wp2
    go_ret
    exact ⟨by first | rfl | simp, HK4.out⟩
   | true =>
    go_wp2_with fail
    refine (hpage _ HK4.out).mono ?_
    rintro e w5 ⟨rfl, hk⟩
    clear d0 d1 d2 d3 d4 d5 d6 d7 d8 d9 d10 d11 d12 d13
    have HK5 := hid (HK4.out.trans hk)
    have HB5 := hid (HB4.out.same hk)
    clear hk HK4 HB4
    obtain ⟨d0, d1, d2, d3, d4, d5, d6, d7, d8, d9, d10, d11, d12, d13⟩ := HB5.out.all14
    cases b3 with
    | false =>
     go_wp2
     go_ret
     exact ⟨by first | rfl | simp, HK5.out⟩
    | true =>
     go_wp2_with fail
     refine (hslot _ HK5.out).mono ?_
     rintro e w6 ⟨rfl, hk⟩
     clear d0 d1 d2 d3 d4 d5 d6 d7 d8 d9 d10 d11 d12 d13
     have HK6 := hid (HK5.out.trans hk)
     have HB6 := hid (HB5.out.same hk)
     clear hk HK5 HB5
     obtain ⟨d0, d1, d2, d3, d4, d5, d6, d7, d8, d9, d10, d11, d12, d13⟩ := HB6.out.all14
     cases b4 with
     | false =>
      go_wp2
      go_ret
      exact ⟨by first | rfl | simp, HK6.out⟩
     | true =>
      go_wp2_with fail
      refine (hbef _ HK6.out).mono ?_
      rintro e w7 ⟨rfl, hk⟩
      clear d0 d1 d2 d3 d4 d5 d6 d7 d8 d9 d10 d11 d12 d13
      have HK7 := hid (HK6.out.trans hk)
      have HB7 := hid (HB6.out.same hk)
      clear hk HK6 HB6
      obtain ⟨d0, d1, d2, d3, d4, d5, d6, d7, d8, d9, d10, d11, d12, d13⟩ := HB7.out.all14
      cases b5 with
      | false =>
       go_wp2
       go_ret
       exact ⟨by first | rfl | simp, HK7.out⟩
      | true =>
       go_wp2_with fail
       refine (haft _ HK7.out).mono ?_
       rintro e w8 ⟨rfl, hk⟩
       clear d0 d1 d2 d3 d4 d5 d6 d7 d8 d9 d10 d11 d12 d13
       have HK8 := hid (HK7.out.trans hk)
       have HB8 := hid (HB7.out.same hk)
       clear hk HK7 HB7
       obtain ⟨d0, d1, d2, d3, d4, d5, d6, d7, d8, d9, d10, d11, d12, d13⟩ := HB8.out.all14
       cases b6 with
       | false =>
        go_wp2
        go_ret
        exact ⟨by first | rfl | simp, HK8.out⟩
       | true =>
        cases beforeu with
        | false =>
         cases afteru with
         | false =>
          go_wp2
          go_ret
          exact ⟨rfl, HK8.out⟩
         | true =>
          go_wp2
          go_ret
          exact ⟨rfl, HK8.out⟩
        | true =>
         go_wp2
         go_ret
         exact ⟨rfl, HK8.out⟩
theorem recS_2 (txn : Int) (prev : Int) (page : Int) (slot : Int) (beforeu : Bool) (beforea : Option Addr) (beforen beforec : Nat) (afteru : Bool) (aftera : Option Addr) (aftern afterc : Nat) (uN : Int) (nT : Int) (txnsa : Option Addr) (txnsn txnsc : Nat) (dirtya : Option Addr) (dirtyn dirtyc : Nat) (imagea : Option Addr) (imagen imagec : Nat) (w : World) (EX b1 b2 b3 b4 b5 b6 b7 : Bool) (PF : Int) (hkind : ∀ wx, Same w wx → Calls Try.prog 74 #[.int .i64 2, .int .i64 1, .int .i64 8] wx fun e w' => e = .returned (.bool true) ∧ Same wx w') (hex : ∀ wx, Same w wx → Calls Try.prog 75 #[.agg #[.int .i64 2, .int .i64 txn, .int .i64 prev, .int .i64 page, .int .i64 slot, .bool beforeu, .slice beforea beforen beforec, .bool afteru, .slice aftera aftern afterc, .int .i64 uN, .int .i64 nT, .slice txnsa txnsn txnsc, .slice dirtya dirtyn dirtyc, .slice imagea imagen imagec]] wx fun e w' => e = .returned (.bool EX) ∧ Same wx w') (htxn : ∀ wx, Same w wx → Calls Try.prog 74 #[.int .i64 txn, .int .i64 1, .int .i64 2147483647] wx fun e w' => e = .returned (.bool b1) ∧ Same wx w') (hprev : ∀ wx, Same w wx → Calls Try.prog 74 #[.int .i64 prev, .int .i64 0, .int .i64 1099511627776] wx fun e w' => e = .returned (.bool b2) ∧ Same wx w') (hpage : ∀ wx, Same w wx → Calls Try.prog 74 #[.int .i64 page, .int .i64 0, .int .i64 15] wx fun e w' => e = .returned (.bool b3) ∧ Same wx w') (hslot : ∀ wx, Same w wx → Calls Try.prog 74 #[.int .i64 slot, .int .i64 0, .int .i64 31] wx fun e w' => e = .returned (.bool b4) ∧ Same wx w') (hbef : ∀ wx, Same w wx → Calls Try.prog 76 #[.agg #[.bool beforeu, .slice beforea beforen beforec]] wx fun e w' => e = .returned (.bool b5) ∧ Same wx w') (haft : ∀ wx, Same w wx → Calls Try.prog 76 #[.agg #[.bool afteru, .slice aftera aftern afterc]] wx fun e w' => e = .returned (.bool b6) ∧ Same wx w') (hund : ∀ wx, Same w wx → Calls Try.prog 74 #[.int .i64 uN, .int .i64 0, .int .i64 1099511627776] wx fun e w' => e = .returned (.bool b7) ∧ Same wx w') :
  Calls Try.prog 66 #[.agg #[.int .i64 2, .int .i64 txn, .int .i64 prev, .int .i64 page, .int .i64 slot, .bool beforeu, .slice beforea beforen beforec, .bool afteru, .slice aftera aftern afterc, .int .i64 uN, .int .i64 nT, .slice txnsa txnsn txnsc, .slice dirtya dirtyn dirtyc, .slice imagea imagen imagec]] w fun e w' => e = .returned (.int .i64 (if EX = true then 2 else (if b1 = false then 3 else (if b2 = false then 4 else (if b3 = false then 5 else (if b4 = false then 5 else (if b5 = false then 6 else (if b6 = false then 6 else (if b7 = false then 7 else (0)))))))))) ∧ Same w w' := by
 obtain ⟨HK0, HB0⟩ := new1 w [.int .i64 2, .int .i64 txn, .int .i64 prev, .int .i64 page, .int .i64 slot, .bool beforeu, .slice beforea beforen beforec, .bool afteru, .slice aftera aftern afterc, .int .i64 uN, .int .i64 nT, .slice txnsa txnsn txnsc, .slice dirtya dirtyn dirtyc, .slice imagea imagen imagec] 48
 go_enter Try.func66, Try.ntmps66
 go_wp2_with fail
 refine (hkind _ HK0.out).mono ?_
 rintro e w1 ⟨rfl, hk⟩
 have HK1 := hid (HK0.out.trans hk)
 have HB1 := hid (HB0.out.same hk)
 clear hk HK0 HB0
 obtain ⟨d0, d1, d2, d3, d4, d5, d6, d7, d8, d9, d10, d11, d12, d13⟩ := HB1.out.all14
 go_wp2_with fail
 refine (hex _ HK1.out).mono ?_
 rintro e w2 ⟨rfl, hk⟩
 clear d0 d1 d2 d3 d4 d5 d6 d7 d8 d9 d10 d11 d12 d13
 have HK2 := hid (HK1.out.trans hk)
 have HB2 := hid (HB1.out.same hk)
 clear hk HK1 HB1
 obtain ⟨d0, d1, d2, d3, d4, d5, d6, d7, d8, d9, d10, d11, d12, d13⟩ := HB2.out.all14
 cases EX with
 | true =>
  go_wp2
  go_ret
  exact ⟨by first | rfl | simp, HK2.out⟩
 | false =>
  go_wp2_with fail
  refine (htxn _ HK2.out).mono ?_
  rintro e w3 ⟨rfl, hk⟩
  clear d0 d1 d2 d3 d4 d5 d6 d7 d8 d9 d10 d11 d12 d13
  have HK3 := hid (HK2.out.trans hk)
  have HB3 := hid (HB2.out.same hk)
  clear hk HK2 HB2
  obtain ⟨d0, d1, d2, d3, d4, d5, d6, d7, d8, d9, d10, d11, d12, d13⟩ := HB3.out.all14
  cases b1 with
  | false =>
   go_wp2
   go_ret
   exact ⟨by first | rfl | simp, HK3.out⟩
  | true =>
   go_wp2_with fail
   refine (hprev _ HK3.out).mono ?_
   rintro e w4 ⟨rfl, hk⟩
   clear d0 d1 d2 d3 d4 d5 d6 d7 d8 d9 d10 d11 d12 d13
   have HK4 := hid (HK3.out.trans hk)
   have HB4 := hid (HB3.out.same hk)
   clear hk HK3 HB3
   obtain ⟨d0, d1, d2, d3, d4, d5, d6, d7, d8, d9, d10, d11, d12, d13⟩ := HB4.out.all14
   cases b2 with
   | false =>
    go_wp2
    go_ret
    exact ⟨by first | rfl | simp, HK4.out⟩
   | true =>
    go_wp2_with fail
    refine (hpage _ HK4.out).mono ?_
    rintro e w5 ⟨rfl, hk⟩
    clear d0 d1 d2 d3 d4 d5 d6 d7 d8 d9 d10 d11 d12 d13
    have HK5 := hid (HK4.out.trans hk)
    have HB5 := hid (HB4.out.same hk)
    clear hk HK4 HB4
    obtain ⟨d0, d1, d2, d3, d4, d5, d6, d7, d8, d9, d10, d11, d12, d13⟩ := HB5.out.all14
    cases b3 with
    | false =>
     go_wp2
     go_ret
     exact ⟨by first | rfl | simp, HK5.out⟩
    | true =>
     go_wp2_with fail
     refine (hslot _ HK5.out).mono ?_
     rintro e w6 ⟨rfl, hk⟩
     clear d0 d1 d2 d3 d4 d5 d6 d7 d8 d9 d10 d11 d12 d13
     have HK6 := hid (HK5.out.trans hk)
     have HB6 := hid (HB5.out.same hk)
     clear hk HK5 HB5
     obtain ⟨d0, d1, d2, d3, d4, d5, d6, d7, d8, d9, d10, d11, d12, d13⟩ := HB6.out.all14
     cases b4 with
     | false =>
      go_wp2
      go_ret
      exact ⟨by first | rfl | simp, HK6.out⟩
     | true =>
      go_wp2_with fail
      refine (hbef _ HK6.out).mono ?_
      rintro e w7 ⟨rfl, hk⟩
      clear d0 d1 d2 d3 d4 d5 d6 d7 d8 d9 d10 d11 d12 d13
      have HK7 := hid (HK6.out.trans hk)
      have HB7 := hid (HB6.out.same hk)
      clear hk HK6 HB6
      obtain ⟨d0, d1, d2, d3, d4, d5, d6, d7, d8, d9, d10, d11, d12, d13⟩ := HB7.out.all14
      cases b5 with
      | false =>
       go_wp2
       go_ret
       exact ⟨by first | rfl | simp, HK7.out⟩
      | true =>
       go_wp2_with fail
       refine (haft _ HK7.out).mono ?_
       rintro e w8 ⟨rfl, hk⟩
       clear d0 d1 d2 d3 d4 d5 d6 d7 d8 d9 d10 d11 d12 d13
       have HK8 := hid (HK7.out.trans hk)
       have HB8 := hid (HB7.out.same hk)
       clear hk HK7 HB7
       obtain ⟨d0, d1, d2, d3, d4, d5, d6, d7, d8, d9, d10, d11, d12, d13⟩ := HB8.out.all14
       cases b6 with
       | false =>
        go_wp2
        go_ret
        exact ⟨by first | rfl | simp, HK8.out⟩
       | true =>
        go_wp2_with fail
        refine (hund _ HK8.out).mono ?_
        rintro e w9 ⟨rfl, hk⟩
        clear d0 d1 d2 d3 d4 d5 d6 d7 d8 d9 d10 d11 d12 d13
        have HK9 := hid (HK8.out.trans hk)
        have HB9 := hid (HB8.out.same hk)
        clear hk HK8 HB8
        obtain ⟨d0, d1, d2, d3, d4, d5, d6, d7, d8, d9, d10, d11, d12, d13⟩ := HB9.out.all14
        cases b7 with
        | false =>
         go_wp2
         go_ret
         exact ⟨by first | rfl | simp, HK9.out⟩
        | true =>
         go_wp2
         go_ret
         exact ⟨by first | rfl | simp, HK9.out⟩
end Go.Proofs.Ytcldagphkpkdpaa
