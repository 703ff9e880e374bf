import Derived.Test.YtkdohacgkjpopaaGreatG33
import Derived.Deep.DeepCutAuto
import Derived.Deep.RegionWith
import Derived.Deep.DeepMust
namespace Go.Proofs.YtkdohacgkjpopaaGreat
set_option maxRecDepth 100000
set_option maxHeartbeats 16000000
set_option linter.unusedVariables false
set_option linter.unusedSimpArgs false
open Go.RowKit
theorem logAppend_law (x0 : StLog) (x1 : StLogRecord) (w : World) (hv0 : StLog.rd w x0) (hB0 : x0.isB) (hv1 : StLogRecord.rd w x1) (hB1 : x1.isB) :
  Calls Tryz.prog 3 #[x0.val, x1.val] w fun e w' => e = .returned (.bool true) ∧ Same w w' := by
 obtain ⟨p0ss, p0se, p0so, p0sf, ⟨p0te, p0ta, p0tc, p0tb⟩⟩ := x0
 have HV0 := (show Hid (StLog.rd w ⟨p0ss, p0se, p0so, p0sf, ⟨p0te, p0ta, p0tc, p0tb⟩⟩) from hv0)
 clear hv0
 have HB0 := (show Hid (StLog.isB ⟨p0ss, p0se, p0so, p0sf, ⟨p0te, p0ta, p0tc, p0tb⟩⟩) from hB0)
 clear hB0
 dsimp only [StLog.val, BS.v]
 obtain ⟨p1k, p1x, p1v, p1g, p1l, ⟨p1bU, ⟨p1bDe, p1bDa, p1bDc, p1bDb⟩⟩, ⟨p1aU, ⟨p1aDe, p1aDa, p1aDc, p1aDb⟩⟩, p1uN, p1nT, ⟨p1tXe, p1tXa, p1tXn, p1tXc, p1tXb⟩, ⟨p1dYe, p1dYa, p1dYn, p1dYc, p1dYb⟩, ⟨p1iMe, p1iMa, p1iMc, p1iMb⟩⟩ := x1
 have HV1 := (show Hid (StLogRecord.rd w ⟨p1k, p1x, p1v, p1g, p1l, ⟨p1bU, ⟨p1bDe, p1bDa, p1bDc, p1bDb⟩⟩, ⟨p1aU, ⟨p1aDe, p1aDa, p1aDc, p1aDb⟩⟩, p1uN, p1nT, ⟨p1tXe, p1tXa, p1tXn, p1tXc, p1tXb⟩, ⟨p1dYe, p1dYa, p1dYn, p1dYc, p1dYb⟩, ⟨p1iMe, p1iMa, p1iMc, p1iMb⟩⟩) from hv1)
 clear hv1
 have HB1 := (show Hid (StLogRecord.isB ⟨p1k, p1x, p1v, p1g, p1l, ⟨p1bU, ⟨p1bDe, p1bDa, p1bDc, p1bDb⟩⟩, ⟨p1aU, ⟨p1aDe, p1aDa, p1aDc, p1aDb⟩⟩, p1uN, p1nT, ⟨p1tXe, p1tXa, p1tXn, p1tXc, p1tXb⟩, ⟨p1dYe, p1dYa, p1dYn, p1dYc, p1dYb⟩, ⟨p1iMe, p1iMa, p1iMc, p1iMb⟩⟩) from hB1)
 clear hB1
 dsimp only [StLogRecord.val, StPageRecord.val, BS.v, FR.v]
 obtain ⟨HKw0, HN1, HN2⟩ := new2 w [.int .i64 p0ss, .int .i64 p0se, .int .i64 p0so, .int .i64 p0sf, .slice p0ta p0tb.length p0tc] 24 [.int .i64 p1k, .int .i64 p1x, .int .i64 p1v, .int .i64 p1g, .int .i64 p1l, .bool p1bU, .slice p1bDa p1bDb.length p1bDc, .bool p1aU, .slice p1aDa p1aDb.length p1aDc, .int .i64 p1uN, .int .i64 p1nT, .slice p1tXa p1tXn p1tXc, .slice p1dYa p1dYn p1dYc, .slice p1iMa p1iMb.length p1iMc] 30
 go_enter Tryz.func3, Tryz.ntmps3
 have HKw : Hid (Same w w) := Kept.refl _ _
 go_wp2_with fail
 obtain ⟨w0, hw0⟩ : ∃ x, (w.alloc (.cells #[.int .i64 p0ss, .int .i64 p0se, .int .i64 p0so, .int .i64 p0sf, .slice p0ta p0tb.length p0tc] 24)).alloc (.cells #[.int .i64 p1k, .int .i64 p1x, .int .i64 p1v, .int .i64 p1g, .int .i64 p1l, .bool p1bU, .slice p1bDa p1bDb.length p1bDc, .bool p1aU, .slice p1aDa p1aDb.length p1aDc, .int .i64 p1uN, .int .i64 p1nT, .slice p1tXa p1tXn p1tXc, .slice p1dYa p1dYn p1dYc, .slice p1iMa p1iMb.length p1iMc] 30) = x := ⟨_, rfl⟩
 rw [hw0] at HKw0 HN1 HN2 ⊢
 clear hw0
 have HA0w0 := HN1
 have HA1w0 := HN2
 clear HN1 HN2
 have hzw0 := HA1w0.out.lt
 refine (szLog_any ⟨p0ss, p0se, p0so, p0sf, ⟨p0te, p0ta, p0tc, p0tb⟩⟩ 1048576 _ (by omega) (by omega) (HV0.out.same HKw0.out)).mono ?_
 rintro e w1 ⟨sz0, rfl, hr, hk⟩
 have hkk : Same w0 w1 := hk
 have hzw1 := hkk.size
 have HA0w1 := hid (HA0w0.out.same hkk)
 have HA1w1 := hid (HA1w0.out.same hkk)
 have HKw1 := hid (HKw0.out.trans hkk)
 clear hkk hk
 rcases hr with rfl | ⟨hr, hr0⟩
 ·go_wp2
  go_ret
  exact ⟨rfl, HKw1.out⟩
 have hz00 := StLog.szs_le ⟨p0ss, p0se, p0so, p0sf, ⟨p0te, p0ta, p0tc, p0tb⟩⟩
 have hsz0 : StLog.szs ⟨p0ss, p0se, p0so, p0sf, ⟨p0te, p0ta, p0tc, p0tb⟩⟩ ≤ 1048576 := by omega
 have hsb0 : sz0 ≤ 1048576 := by omega
 clear hr
 have cA0_0 := HA0w1.out.c0
 have cA0_1 := HA0w1.out.c1
 have cA0_2 := HA0w1.out.c2
 have cA0_3 := HA0w1.out.c3
 have cA0_4 := HA0w1.out.c4
 have lA0 := HA0w1.out.lt
 obtain ⟨cA1_0, cA1_1, cA1_2, cA1_3, cA1_4, cA1_5, cA1_6, cA1_7, cA1_8, cA1_9, cA1_10, cA1_11, cA1_12, cA1_13⟩ := HA1w1.out.all14
 have lA1 := HA1w1.out.lt
 go_wp2_with fail
 refine (szLogRecord_any ⟨p1k, p1x, p1v, p1g, p1l, ⟨p1bU, ⟨p1bDe, p1bDa, p1bDc, p1bDb⟩⟩, ⟨p1aU, ⟨p1aDe, p1aDa, p1aDc, p1aDb⟩⟩, p1uN, p1nT, ⟨p1tXe, p1tXa, p1tXn, p1tXc, p1tXb⟩, ⟨p1dYe, p1dYa, p1dYn, p1dYc, p1dYb⟩, ⟨p1iMe, p1iMa, p1iMc, p1iMb⟩⟩ sz0 _ (by omega) (by omega) (HV1.out.same HKw1.out)).mono ?_
 rintro e w2 ⟨sz1, rfl, hr, hk⟩
 have hkk : Same w1 w2 := hk
 have hzw2 := hkk.size
 have HA0w2 := hid (HA0w1.out.same hkk)
 have HA1w2 := hid (HA1w1.out.same hkk)
 have HKw2 := hid (HKw1.out.trans hkk)
 clear hkk hk
 clear cA0_0 cA0_1 cA0_2 cA0_3 cA0_4 lA0 cA1_0 cA1_1 cA1_2 cA1_3 cA1_4 cA1_5 cA1_6 cA1_7 cA1_8 cA1_9 cA1_10 cA1_11 cA1_12 cA1_13 lA1
 rcases hr with rfl | ⟨hr, hr1⟩
 ·go_wp2
  go_ret
  exact ⟨rfl, HKw2.out⟩
 have hz01 := StLogRecord.szs_le ⟨p1k, p1x, p1v, p1g, p1l, ⟨p1bU, ⟨p1bDe, p1bDa, p1bDc, p1bDb⟩⟩, ⟨p1aU, ⟨p1aDe, p1aDa, p1aDc, p1aDb⟩⟩, p1uN, p1nT, ⟨p1tXe, p1tXa, p1tXn, p1tXc, p1tXb⟩, ⟨p1dYe, p1dYa, p1dYn, p1dYc, p1dYb⟩, ⟨p1iMe, p1iMa, p1iMc, p1iMb⟩⟩
 have hsz1 : StLogRecord.szs ⟨p1k, p1x, p1v, p1g, p1l, ⟨p1bU, ⟨p1bDe, p1bDa, p1bDc, p1bDb⟩⟩, ⟨p1aU, ⟨p1aDe, p1aDa, p1aDc, p1aDb⟩⟩, p1uN, p1nT, ⟨p1tXe, p1tXa, p1tXn, p1tXc, p1tXb⟩, ⟨p1dYe, p1dYa, p1dYn, p1dYc, p1dYb⟩, ⟨p1iMe, p1iMa, p1iMc, p1iMb⟩⟩ ≤ 1048576 := by omega
 have hsb1 : sz1 ≤ 1048576 := by omega
 clear hr
 have cA0_0 := HA0w2.out.c0
 have cA0_1 := HA0w2.out.c1
 have cA0_2 := HA0w2.out.c2
 have cA0_3 := HA0w2.out.c3
 have cA0_4 := HA0w2.out.c4
 have lA0 := HA0w2.out.lt
 obtain ⟨cA1_0, cA1_1, cA1_2, cA1_3, cA1_4, cA1_5, cA1_6, cA1_7, cA1_8, cA1_9, cA1_10, cA1_11, cA1_12, cA1_13⟩ := HA1w2.out.all14
 have lA1 := HA1w2.out.lt
 go_wp2_with fail
 clear cA0_0 cA0_1 cA0_2 cA0_3 cA0_4 lA0 cA1_0 cA1_1 cA1_2 cA1_3 cA1_4 cA1_5 cA1_6 cA1_7 cA1_8 cA1_9 cA1_10 cA1_11 cA1_12 cA1_13 lA1
 go_cut [6] (fun v wc => Hid (ARes w2 wc (appD (StLog.dat ⟨p0ss, p0se, p0so, p0sf, ⟨p0te, p0ta, p0tc, p0tb⟩⟩) (StLogRecord.dat ⟨p1k, p1x, p1v, p1g, p1l, ⟨p1bU, ⟨p1bDe, p1bDa, p1bDc, p1bDb⟩⟩, ⟨p1aU, ⟨p1aDe, p1aDa, p1aDc, p1aDb⟩⟩, p1uN, p1nT, ⟨p1tXe, p1tXa, p1tXn, p1tXc, p1tXb⟩, ⟨p1dYe, p1dYa, p1dYn, p1dYc, p1dYb⟩, ⟨p1iMe, p1iMa, p1iMc, p1iMb⟩⟩)) v))
 case first =>
  as_aux_lemma =>
  have HI := (show Hid (Bx w2 w2 (w.heap.size) (w.heap.size + 1) [.int .i64 p0ss, .int .i64 p0se, .int .i64 p0so, .int .i64 p0sf, .slice p0ta p0tb.length p0tc] [.int .i64 p1k, .int .i64 p1x, .int .i64 p1v, .int .i64 p1g, .int .i64 p1l, .bool p1bU, .slice p1bDa p1bDb.length p1bDc, .bool p1aU, .slice p1aDa p1aDb.length p1aDc, .int .i64 p1uN, .int .i64 p1nT, .slice p1tXa p1tXn p1tXc, .slice p1dYa p1dYn p1dYc, .slice p1iMa p1iMb.length p1iMc]) from ⟨HA0w2.out, HA1w2.out, Kept.refl _ _⟩)
  refine wp_region_V (fun wx : World => wx.cell? ⟨w.heap.size, 0, none⟩ = some (.int .i64 p0ss) ∧ wx.cell? ⟨w.heap.size, 1, none⟩ = some (.int .i64 p0se) ∧ wx.cell? ⟨w.heap.size, 2, none⟩ = some (.int .i64 p0so) ∧ wx.cell? ⟨w.heap.size, 3, none⟩ = some (.int .i64 p0sf) ∧ wx.cell? ⟨w.heap.size, 4, none⟩ = some (.slice p0ta p0tb.length p0tc) ∧ wx.cell? ⟨w.heap.size + 1, 0, none⟩ = some (.int .i64 p1k) ∧ wx.cell? ⟨w.heap.size + 1, 1, none⟩ = some (.int .i64 p1x) ∧ wx.cell? ⟨w.heap.size + 1, 2, none⟩ = some (.int .i64 p1v) ∧ wx.cell? ⟨w.heap.size + 1, 3, none⟩ = some (.int .i64 p1g) ∧ wx.cell? ⟨w.heap.size + 1, 4, none⟩ = some (.int .i64 p1l) ∧ wx.cell? ⟨w.heap.size + 1, 5, none⟩ = some (.bool p1bU) ∧ wx.cell? ⟨w.heap.size + 1, 6, none⟩ = some (.slice p1bDa p1bDb.length p1bDc) ∧ wx.cell? ⟨w.heap.size + 1, 7, none⟩ = some (.bool p1aU) ∧ wx.cell? ⟨w.heap.size + 1, 8, none⟩ = some (.slice p1aDa p1aDb.length p1aDc) ∧ wx.cell? ⟨w.heap.size + 1, 9, none⟩ = some (.int .i64 p1uN) ∧ wx.cell? ⟨w.heap.size + 1, 10, none⟩ = some (.int .i64 p1nT) ∧ wx.cell? ⟨w.heap.size + 1, 11, none⟩ = some (.slice p1tXa p1tXn p1tXc) ∧ wx.cell? ⟨w.heap.size + 1, 12, none⟩ = some (.slice p1dYa p1dYn p1dYc) ∧ wx.cell? ⟨w.heap.size + 1, 13, none⟩ = some (.slice p1iMa p1iMb.length p1iMc)) 6 7 rfl (by kernel_rfl) ?_
  replace HI := hid (HI.out.same (Kept.refl (fun _ => False) _).drew)
  generalize World.drew w2 = u0 at HI ⊢
  have hS := HI.out.s
  refine tk 0 24 hS ?_
  refine tk 2 26 hS ?_
  refine wpAnyV_two (i := 1) (j := 5) (by kernel_rfl) rfl rfl (fun K hK => ?_) (fun K hK => ?_)
  ·
   go_simp
   refine (toLog_any ⟨p0ss, p0se, p0so, p0sf, ⟨p0te, p0ta, p0tc, p0tb⟩⟩ _ (by omega) (HV0.out.same (HKw2.out.trans HI.out.kept))).mono ?_
   rintro e u1 ⟨y0, rfl, hd, hz, hf, ho, hk⟩
   have HC0 := (show Hid (y0.dat = StLog.dat ⟨p0ss, p0se, p0so, p0sf, ⟨p0te, p0ta, p0tc, p0tb⟩⟩ ∧ y0.szs = StLog.szs ⟨p0ss, p0se, p0so, p0sf, ⟨p0te, p0ta, p0tc, p0tb⟩⟩ ∧ OwnL u1 y0.rows) from ⟨hd, hz, ho⟩)
   clear hd hz hf ho
   replace HI := hid (HI.out.same hk)
   clear hk
   go_wp2_with fail
   replace hS := HI.out.s
   refine hK.out _ _ (fun _ => hS) ?_
   clear hK K
   try simp only [Act.put, sA, s0, sS]
   refine wpAnyV_two (i := 3) (j := 5) (by kernel_rfl) rfl rfl (fun K hK => ?_) (fun K hK => ?_)
   ·
    go_simp
    refine (toLogRecord_any ⟨p1k, p1x, p1v, p1g, p1l, ⟨p1bU, ⟨p1bDe, p1bDa, p1bDc, p1bDb⟩⟩, ⟨p1aU, ⟨p1aDe, p1aDa, p1aDc, p1aDb⟩⟩, p1uN, p1nT, ⟨p1tXe, p1tXa, p1tXn, p1tXc, p1tXb⟩, ⟨p1dYe, p1dYa, p1dYn, p1dYc, p1dYb⟩, ⟨p1iMe, p1iMa, p1iMc, p1iMb⟩⟩ _ (by omega) (HV1.out.same (HKw2.out.trans HI.out.kept))).mono ?_
    rintro e u2 ⟨y1, rfl, hd, hz, hf, ho, hk⟩
    have HC1 := (show Hid (y1.dat = StLogRecord.dat ⟨p1k, p1x, p1v, p1g, p1l, ⟨p1bU, ⟨p1bDe, p1bDa, p1bDc, p1bDb⟩⟩, ⟨p1aU, ⟨p1aDe, p1aDa, p1aDc, p1aDb⟩⟩, p1uN, p1nT, ⟨p1tXe, p1tXa, p1tXn, p1tXc, p1tXb⟩, ⟨p1dYe, p1dYa, p1dYn, p1dYc, p1dYb⟩, ⟨p1iMe, p1iMa, p1iMc, p1iMb⟩⟩ ∧ y1.szs = StLogRecord.szs ⟨p1k, p1x, p1v, p1g, p1l, ⟨p1bU, ⟨p1bDe, p1bDa, p1bDc, p1bDb⟩⟩, ⟨p1aU, ⟨p1aDe, p1aDa, p1aDc, p1aDb⟩⟩, p1uN, p1nT, ⟨p1tXe, p1tXa, p1tXn, p1tXc, p1tXb⟩, ⟨p1dYe, p1dYa, p1dYn, p1dYc, p1dYb⟩, ⟨p1iMe, p1iMa, p1iMc, p1iMb⟩⟩ ∧ OwnL u2 y1.rows) from ⟨hd, hz, ho⟩)
    clear hd hz hf ho
    replace HI := hid (HI.out.same hk)
    replace HC0 := hid (Cm HC0.out hk)
    clear hk
    go_wp2_with fail
    replace hS := HI.out.s
    refine hK.out _ _ (fun _ => hS) ?_
    clear hK K
    try simp only [Act.put, sA, s0, sS]
    refine wpAnyV_two (i := 4) (j := 5) (by kernel_rfl) rfl rfl (fun K hK => ?_) (fun K hK => ?_)
    ·
     go_simp
     refine (specApp_any y0 y1 _ (StLog.isB_dat HC0.out.1 HB0.out) (by have := HC0.out.2.1; omega) (StLog.own_rd HC0.out.2.2) (StLogRecord.isB_dat HC1.out.1 HB1.out) (by have := HC1.out.2.1; omega) (StLogRecord.own_rd HC1.out.2.2)).mono ?_
     rintro e u3 ⟨yW, rfl, hd, hf, ho, hk⟩
     rw [HC0.out.1, HC1.out.1] at hd
     have HW := (show Hid (yW.dat = appD (StLog.dat ⟨p0ss, p0se, p0so, p0sf, ⟨p0te, p0ta, p0tc, p0tb⟩⟩) (StLogRecord.dat ⟨p1k, p1x, p1v, p1g, p1l, ⟨p1bU, ⟨p1bDe, p1bDa, p1bDc, p1bDb⟩⟩, ⟨p1aU, ⟨p1aDe, p1aDa, p1aDc, p1aDb⟩⟩, p1uN, p1nT, ⟨p1tXe, p1tXa, p1tXn, p1tXc, p1tXb⟩, ⟨p1dYe, p1dYa, p1dYn, p1dYc, p1dYb⟩, ⟨p1iMe, p1iMa, p1iMc, p1iMb⟩⟩) ∧ OwnL u3 yW.rows ∧ ∀ b, FootL yW.rows b → w2.heap.size ≤ b) from ⟨hd, ho, fun b hb => Nat.le_trans HI.out.kept.size (hf b hb)⟩)
     clear hd hf ho HC0 HC1
     replace HI := hid (HI.out.same hk)
     clear hk
     go_wp2_with fail
     replace hS := HI.out.s
     refine hK.out _ _ (fun _ => hS) ?_
     clear hK K
     try simp only [Act.put, sA, s0, sS]
     refine wpAnyV_one (i := 5) (by kernel_rfl) rfl (fun K hK => ?_)
     go_simp
     have hk := (Kept.refl (fun _ => False) u3).alloc (.cells #[.int .i64 0, .int .i64 0, .int .i64 0, .int .i64 0, .int .i64 0, .int .i64 0, .slice none 0 0] 35)
     have HZ := hid (Blk.newL u3 [.int .i64 0, .int .i64 0, .int .i64 0, .int .i64 0, .int .i64 0, .int .i64 0, .slice none 0 0] 35)
     have HBZ := (show Hid (w2.heap.size ≤ u3.heap.size) from HI.out.kept.size)
     have HNE := (show Hid (∀ b, FootL (StAppendResult.rows yW) b → b ≠ u3.heap.size) from fun b hb e => by have := HW.out.2.1.lt b hb; omega)
     replace HI := hid (HI.out.same hk)
     replace HW := hid (Wm HW.out hk)
     generalize u3.alloc (.cells #[.int .i64 0, .int .i64 0, .int .i64 0, .int .i64 0, .int .i64 0, .int .i64 0, .slice none 0 0] 35) = u4 at HI HZ HW ⊢
     generalize u3.heap.size = B at HZ HBZ HNE ⊢
     clear hk
     replace hS := HI.out.s
     refine hK.out _ _ (fun _ => hS) ?_
     clear hK K
     try simp only [Act.put, sA, s0, sS]
     obtain ⟨Wcode, Wlsn, ⟨Wss, Wse, Wso, Wsf, ⟨Wte, Wta, Wtc, Wtb⟩⟩⟩ := yW
     dsimp only [StAppendResult.val, StLog.val, BS.v]
     refine wpAnyV_one (i := 6) (by kernel_rfl) rfl (fun K hK => ?_)
     refine st7_any (by rfl) 35 (.tmp 6) (.tmp 28) (by rfl) B (.int .i64 Wcode) (.int .i64 Wlsn) (.int .i64 Wss) (.int .i64 Wse) (.int .i64 Wso) (.int .i64 Wsf) (.slice Wta Wtb.length Wtc) HZ.out (by rfl) (by rfl) (by kernel_rfl) (by simp [Value.oneCell']) ?_
     refine hK.out _ _ (fun h => absurd rfl h) ?_
     clear hK K
     refine wpAnyV_done (by kernel_rfl) ?_
     try simp only [Act.put, sA, s0, sS]
     have HZ6 := hid (ARes.put HI.out.kept HZ.out HBZ.out HW.out.1 HW.out.2.1 HW.out.2.2 HNE.out)
     dsimp only at HZ6
     clear hS
     go_wp2_with fail
     go_meet
     case rel => exact HZ6
    ·
     go_simp
     have hk := (Kept.refl (fun _ => False) u2).alloc (.cells #[.int .i64 0, .int .i64 0, .int .i64 0, .int .i64 0, .int .i64 0, .int .i64 0, .slice none 0 0] 35)
     have HZ := hid (Blk.newL u2 [.int .i64 0, .int .i64 0, .int .i64 0, .int .i64 0, .int .i64 0, .int .i64 0, .slice none 0 0] 35)
     have HBZ := (show Hid (w2.heap.size ≤ u2.heap.size) from HI.out.kept.size)
     replace HI := hid (HI.out.same hk)
     replace HC0 := hid (Cm HC0.out hk)
     replace HC1 := hid (Cm HC1.out hk)
     generalize u2.alloc (.cells #[.int .i64 0, .int .i64 0, .int .i64 0, .int .i64 0, .int .i64 0, .int .i64 0, .slice none 0 0] 35) = u5 at HI HZ HC0 HC1 ⊢
     generalize u2.heap.size = B at HZ HBZ ⊢
     clear hk
     replace hS := HI.out.s
     refine hK.out _ _ (fun _ => hS) ?_
     clear hK K
     try simp only [Act.put, sA, s0, sS]
     refine wpAnyV_one (i := 4) (by kernel_rfl) rfl (fun K hK => ?_)
     go_simp
     refine (specApp_any y0 y1 _ (StLog.isB_dat HC0.out.1 HB0.out) (by have := HC0.out.2.1; omega) (StLog.own_rd HC0.out.2.2) (StLogRecord.isB_dat HC1.out.1 HB1.out) (by have := HC1.out.2.1; omega) (StLogRecord.own_rd HC1.out.2.2)).mono ?_
     rintro e u6 ⟨yW, rfl, hd, hf, ho, hk⟩
     rw [HC0.out.1, HC1.out.1] at hd
     have HNE := (show Hid (∀ b, FootL (StAppendResult.rows yW) b → b ≠ B) from fun b hb e => by have h1 := hf b hb; have h2 := HZ.out.lt; omega)
     have HW := (show Hid (yW.dat = appD (StLog.dat ⟨p0ss, p0se, p0so, p0sf, ⟨p0te, p0ta, p0tc, p0tb⟩⟩) (StLogRecord.dat ⟨p1k, p1x, p1v, p1g, p1l, ⟨p1bU, ⟨p1bDe, p1bDa, p1bDc, p1bDb⟩⟩, ⟨p1aU, ⟨p1aDe, p1aDa, p1aDc, p1aDb⟩⟩, p1uN, p1nT, ⟨p1tXe, p1tXa, p1tXn, p1tXc, p1tXb⟩, ⟨p1dYe, p1dYa, p1dYn, p1dYc, p1dYb⟩, ⟨p1iMe, p1iMa, p1iMc, p1iMb⟩⟩) ∧ OwnL u6 yW.rows ∧ ∀ b, FootL yW.rows b → w2.heap.size ≤ b) from ⟨hd, ho, fun b hb => Nat.le_trans HI.out.kept.size (hf b hb)⟩)
     clear hd hf ho HC0 HC1
     replace HI := hid (HI.out.same hk)
     replace HZ := hid (HZ.out.same hk)
     clear hk
     go_wp2_with fail
     replace hS := HI.out.s
     refine hK.out _ _ (fun _ => hS) ?_
     clear hK K
     try simp only [Act.put, sA, s0, sS]
     obtain ⟨Wcode, Wlsn, ⟨Wss, Wse, Wso, Wsf, ⟨Wte, Wta, Wtc, Wtb⟩⟩⟩ := yW
     dsimp only [StAppendResult.val, StLog.val, BS.v]
     refine wpAnyV_one (i := 6) (by kernel_rfl) rfl (fun K hK => ?_)
     refine st7_any (by rfl) 35 (.tmp 6) (.tmp 28) (by rfl) B (.int .i64 Wcode) (.int .i64 Wlsn) (.int .i64 Wss) (.int .i64 Wse) (.int .i64 Wso) (.int .i64 Wsf) (.slice Wta Wtb.length Wtc) HZ.out (by rfl) (by rfl) (by kernel_rfl) (by simp [Value.oneCell']) ?_
     refine hK.out _ _ (fun h => absurd rfl h) ?_
     clear hK K
     refine wpAnyV_done (by kernel_rfl) ?_
     try simp only [Act.put, sA, s0, sS]
     have HZ6 := hid (ARes.put HI.out.kept HZ.out HBZ.out HW.out.1 HW.out.2.1 HW.out.2.2 HNE.out)
     dsimp only at HZ6
     clear hS
     go_wp2_with fail
     go_meet
     case rel => exact HZ6
   ·
    go_simp
    have hk := (Kept.refl (fun _ => False) u1).alloc (.cells #[.int .i64 0, .int .i64 0, .int .i64 0, .int .i64 0, .int .i64 0, .int .i64 0, .slice none 0 0] 35)
    have HZ := hid (Blk.newL u1 [.int .i64 0, .int .i64 0, .int .i64 0, .int .i64 0, .int .i64 0, .int .i64 0, .slice none 0 0] 35)
    have HBZ := (show Hid (w2.heap.size ≤ u1.heap.size) from HI.out.kept.size)
    replace HI := hid (HI.out.same hk)
    replace HC0 := hid (Cm HC0.out hk)
    generalize u1.alloc (.cells #[.int .i64 0, .int .i64 0, .int .i64 0, .int .i64 0, .int .i64 0, .int .i64 0, .slice none 0 0] 35) = u7 at HI HZ HC0 ⊢
    generalize u1.heap.size = B at HZ HBZ ⊢
    clear hk
    replace hS := HI.out.s
    refine hK.out _ _ (fun _ => hS) ?_
    clear hK K
    try simp only [Act.put, sA, s0, sS]
    refine wpAnyV_one (i := 3) (by kernel_rfl) rfl (fun K hK => ?_)
    go_simp
    refine (toLogRecord_any ⟨p1k, p1x, p1v, p1g, p1l, ⟨p1bU, ⟨p1bDe, p1bDa, p1bDc, p1bDb⟩⟩, ⟨p1aU, ⟨p1aDe, p1aDa, p1aDc, p1aDb⟩⟩, p1uN, p1nT, ⟨p1tXe, p1tXa, p1tXn, p1tXc, p1tXb⟩, ⟨p1dYe, p1dYa, p1dYn, p1dYc, p1dYb⟩, ⟨p1iMe, p1iMa, p1iMc, p1iMb⟩⟩ _ (by omega) (HV1.out.same (HKw2.out.trans HI.out.kept))).mono ?_
    rintro e u8 ⟨y1, rfl, hd, hz, hf, ho, hk⟩
    have HC1 := (show Hid (y1.dat = StLogRecord.dat ⟨p1k, p1x, p1v, p1g, p1l, ⟨p1bU, ⟨p1bDe, p1bDa, p1bDc, p1bDb⟩⟩, ⟨p1aU, ⟨p1aDe, p1aDa, p1aDc, p1aDb⟩⟩, p1uN, p1nT, ⟨p1tXe, p1tXa, p1tXn, p1tXc, p1tXb⟩, ⟨p1dYe, p1dYa, p1dYn, p1dYc, p1dYb⟩, ⟨p1iMe, p1iMa, p1iMc, p1iMb⟩⟩ ∧ y1.szs = StLogRecord.szs ⟨p1k, p1x, p1v, p1g, p1l, ⟨p1bU, ⟨p1bDe, p1bDa, p1bDc, p1bDb⟩⟩, ⟨p1aU, ⟨p1aDe, p1aDa, p1aDc, p1aDb⟩⟩, p1uN, p1nT, ⟨p1tXe, p1tXa, p1tXn, p1tXc, p1tXb⟩, ⟨p1dYe, p1dYa, p1dYn, p1dYc, p1dYb⟩, ⟨p1iMe, p1iMa, p1iMc, p1iMb⟩⟩ ∧ OwnL u8 y1.rows) from ⟨hd, hz, ho⟩)
    clear hd hz hf ho
    replace HI := hid (HI.out.same hk)
    replace HC0 := hid (Cm HC0.out hk)
    replace HZ := hid (HZ.out.same hk)
    clear hk
    go_wp2_with fail
    replace hS := HI.out.s
    refine hK.out _ _ (fun _ => hS) ?_
    clear hK K
    try simp only [Act.put, sA, s0, sS]
    refine wpAnyV_one (i := 4) (by kernel_rfl) rfl (fun K hK => ?_)
    go_simp
    refine (specApp_any y0 y1 _ (StLog.isB_dat HC0.out.1 HB0.out) (by have := HC0.out.2.1; omega) (StLog.own_rd HC0.out.2.2) (StLogRecord.isB_dat HC1.out.1 HB1.out) (by have := HC1.out.2.1; omega) (StLogRecord.own_rd HC1.out.2.2)).mono ?_
    rintro e u9 ⟨yW, rfl, hd, hf, ho, hk⟩
    rw [HC0.out.1, HC1.out.1] at hd
    have HNE := (show Hid (∀ b, FootL (StAppendResult.rows yW) b → b ≠ B) from fun b hb e => by have h1 := hf b hb; have h2 := HZ.out.lt; omega)
    have HW := (show Hid (yW.dat = appD (StLog.dat ⟨p0ss, p0se, p0so, p0sf, ⟨p0te, p0ta, p0tc, p0tb⟩⟩) (StLogRecord.dat ⟨p1k, p1x, p1v, p1g, p1l, ⟨p1bU, ⟨p1bDe, p1bDa, p1bDc, p1bDb⟩⟩, ⟨p1aU, ⟨p1aDe, p1aDa, p1aDc, p1aDb⟩⟩, p1uN, p1nT, ⟨p1tXe, p1tXa, p1tXn, p1tXc, p1tXb⟩, ⟨p1dYe, p1dYa, p1dYn, p1dYc, p1dYb⟩, ⟨p1iMe, p1iMa, p1iMc, p1iMb⟩⟩) ∧ OwnL u9 yW.rows ∧ ∀ b, FootL yW.rows b → w2.heap.size ≤ b) from ⟨hd, ho, fun b hb => Nat.le_trans HI.out.kept.size (hf b hb)⟩)
    clear hd hf ho HC0 HC1
    replace HI := hid (HI.out.same hk)
    replace HZ := hid (HZ.out.same hk)
    clear hk
    go_wp2_with fail
    replace hS := HI.out.s
    refine hK.out _ _ (fun _ => hS) ?_
    clear hK K
    try simp only [Act.put, sA, s0, sS]
    obtain ⟨Wcode, Wlsn, ⟨Wss, Wse, Wso, Wsf, ⟨Wte, Wta, Wtc, Wtb⟩⟩⟩ := yW
    dsimp only [StAppendResult.val, StLog.val, BS.v]
    refine wpAnyV_one (i := 6) (by kernel_rfl) rfl (fun K hK => ?_)
    refine st7_any (by rfl) 35 (.tmp 6) (.tmp 28) (by rfl) B (.int .i64 Wcode) (.int .i64 Wlsn) (.int .i64 Wss) (.int .i64 Wse) (.int .i64 Wso) (.int .i64 Wsf) (.slice Wta Wtb.length Wtc) HZ.out (by rfl) (by rfl) (by kernel_rfl) (by simp [Value.oneCell']) ?_
    refine hK.out _ _ (fun h => absurd rfl h) ?_
    clear hK K
    refine wpAnyV_done (by kernel_rfl) ?_
    try simp only [Act.put, sA, s0, sS]
    have HZ6 := hid (ARes.put HI.out.kept HZ.out HBZ.out HW.out.1 HW.out.2.1 HW.out.2.2 HNE.out)
    dsimp only at HZ6
    clear hS
    go_wp2_with fail
    go_meet
    case rel => exact HZ6
  ·
   go_simp
   have hk := (Kept.refl (fun _ => False) u0).alloc (.cells #[.int .i64 0, .int .i64 0, .int .i64 0, .int .i64 0, .int .i64 0, .int .i64 0, .slice none 0 0] 35)
   have HZ := hid (Blk.newL u0 [.int .i64 0, .int .i64 0, .int .i64 0, .int .i64 0, .int .i64 0, .int .i64 0, .slice none 0 0] 35)
   have HBZ := (show Hid (w2.heap.size ≤ u0.heap.size) from HI.out.kept.size)
   replace HI := hid (HI.out.same hk)
   generalize u0.alloc (.cells #[.int .i64 0, .int .i64 0, .int .i64 0, .int .i64 0, .int .i64 0, .int .i64 0, .slice none 0 0] 35) = u10 at HI HZ  ⊢
   generalize u0.heap.size = B at HZ HBZ ⊢
   clear hk
   replace hS := HI.out.s
   refine hK.out _ _ (fun _ => hS) ?_
   clear hK K
   try simp only [Act.put, sA, s0, sS]
   refine wpAnyV_one (i := 1) (by kernel_rfl) rfl (fun K hK => ?_)
   go_simp
   refine (toLog_any ⟨p0ss, p0se, p0so, p0sf, ⟨p0te, p0ta, p0tc, p0tb⟩⟩ _ (by omega) (HV0.out.same (HKw2.out.trans HI.out.kept))).mono ?_
   rintro e u11 ⟨y0, rfl, hd, hz, hf, ho, hk⟩
   have HC0 := (show Hid (y0.dat = StLog.dat ⟨p0ss, p0se, p0so, p0sf, ⟨p0te, p0ta, p0tc, p0tb⟩⟩ ∧ y0.szs = StLog.szs ⟨p0ss, p0se, p0so, p0sf, ⟨p0te, p0ta, p0tc, p0tb⟩⟩ ∧ OwnL u11 y0.rows) from ⟨hd, hz, ho⟩)
   clear hd hz hf ho
   replace HI := hid (HI.out.same hk)
   replace HZ := hid (HZ.out.same hk)
   clear hk
   go_wp2_with fail
   replace hS := HI.out.s
   refine hK.out _ _ (fun _ => hS) ?_
   clear hK K
   try simp only [Act.put, sA, s0, sS]
   refine wpAnyV_one (i := 3) (by kernel_rfl) rfl (fun K hK => ?_)
   go_simp
   refine (toLogRecord_any ⟨p1k, p1x, p1v, p1g, p1l, ⟨p1bU, ⟨p1bDe, p1bDa, p1bDc, p1bDb⟩⟩, ⟨p1aU, ⟨p1aDe, p1aDa, p1aDc, p1aDb⟩⟩, p1uN, p1nT, ⟨p1tXe, p1tXa, p1tXn, p1tXc, p1tXb⟩, ⟨p1dYe, p1dYa, p1dYn, p1dYc, p1dYb⟩, ⟨p1iMe, p1iMa, p1iMc, p1iMb⟩⟩ _ (by omega) (HV1.out.same (HKw2.out.trans HI.out.kept))).mono ?_
   rintro e u12 ⟨y1, rfl, hd, hz, hf, ho, hk⟩
   have HC1 := (show Hid (y1.dat = StLogRecord.dat ⟨p1k, p1x, p1v, p1g, p1l, ⟨p1bU, ⟨p1bDe, p1bDa, p1bDc, p1bDb⟩⟩, ⟨p1aU, ⟨p1aDe, p1aDa, p1aDc, p1aDb⟩⟩, p1uN, p1nT, ⟨p1tXe, p1tXa, p1tXn, p1tXc, p1tXb⟩, ⟨p1dYe, p1dYa, p1dYn, p1dYc, p1dYb⟩, ⟨p1iMe, p1iMa, p1iMc, p1iMb⟩⟩ ∧ y1.szs = StLogRecord.szs ⟨p1k, p1x, p1v, p1g, p1l, ⟨p1bU, ⟨p1bDe, p1bDa, p1bDc, p1bDb⟩⟩, ⟨p1aU, ⟨p1aDe, p1aDa, p1aDc, p1aDb⟩⟩, p1uN, p1nT, ⟨p1tXe, p1tXa, p1tXn, p1tXc, p1tXb⟩, ⟨p1dYe, p1dYa, p1dYn, p1dYc, p1dYb⟩, ⟨p1iMe, p1iMa, p1iMc, p1iMb⟩⟩ ∧ OwnL u12 y1.rows) from ⟨hd, hz, ho⟩)
   clear hd hz hf ho
   replace HI := hid (HI.out.same hk)
   replace HC0 := hid (Cm HC0.out hk)
   replace HZ := hid (HZ.out.same hk)
   clear hk
   go_wp2_with fail
   replace hS := HI.out.s
   refine hK.out _ _ (fun _ => hS) ?_
   clear hK K
   try simp only [Act.put, sA, s0, sS]
   refine wpAnyV_one (i := 4) (by kernel_rfl) rfl (fun K hK => ?_)
   go_simp
   refine (specApp_any y0 y1 _ (StLog.isB_dat HC0.out.1 HB0.out) (by have := HC0.out.2.1; omega) (StLog.own_rd HC0.out.2.2) (StLogRecord.isB_dat HC1.out.1 HB1.out) (by have := HC1.out.2.1; omega) (StLogRecord.own_rd HC1.out.2.2)).mono ?_
   rintro e u13 ⟨yW, rfl, hd, hf, ho, hk⟩
   rw [HC0.out.1, HC1.out.1] at hd
   have HNE := (show Hid (∀ b, FootL (StAppendResult.rows yW) b → b ≠ B) from fun b hb e => by have h1 := hf b hb; have h2 := HZ.out.lt; omega)
   have HW := (show Hid (yW.dat = appD (StLog.dat ⟨p0ss, p0se, p0so, p0sf, ⟨p0te, p0ta, p0tc, p0tb⟩⟩) (StLogRecord.dat ⟨p1k, p1x, p1v, p1g, p1l, ⟨p1bU, ⟨p1bDe, p1bDa, p1bDc, p1bDb⟩⟩, ⟨p1aU, ⟨p1aDe, p1aDa, p1aDc, p1aDb⟩⟩, p1uN, p1nT, ⟨p1tXe, p1tXa, p1tXn, p1tXc, p1tXb⟩, ⟨p1dYe, p1dYa, p1dYn, p1dYc, p1dYb⟩, ⟨p1iMe, p1iMa, p1iMc, p1iMb⟩⟩) ∧ OwnL u13 yW.rows ∧ ∀ b, FootL yW.rows b → w2.heap.size ≤ b) from ⟨hd, ho, fun b hb => Nat.le_trans HI.out.kept.size (hf b hb)⟩)
   clear hd hf ho HC0 HC1
   replace HI := hid (HI.out.same hk)
   replace HZ := hid (HZ.out.same hk)
   clear hk
   go_wp2_with fail
   replace hS := HI.out.s
   refine hK.out _ _ (fun _ => hS) ?_
   clear hK K
   try simp only [Act.put, sA, s0, sS]
   obtain ⟨Wcode, Wlsn, ⟨Wss, Wse, Wso, Wsf, ⟨Wte, Wta, Wtc, Wtb⟩⟩⟩ := yW
   dsimp only [StAppendResult.val, StLog.val, BS.v]
   refine wpAnyV_one (i := 6) (by kernel_rfl) rfl (fun K hK => ?_)
   refine st7_any (by rfl) 35 (.tmp 6) (.tmp 28) (by rfl) B (.int .i64 Wcode) (.int .i64 Wlsn) (.int .i64 Wss) (.int .i64 Wse) (.int .i64 Wso) (.int .i64 Wsf) (.slice Wta Wtb.length Wtc) HZ.out (by rfl) (by rfl) (by kernel_rfl) (by simp [Value.oneCell']) ?_
   refine hK.out _ _ (fun h => absurd rfl h) ?_
   clear hK K
   refine wpAnyV_done (by kernel_rfl) ?_
   try simp only [Act.put, sA, s0, sS]
   have HZ6 := hid (ARes.put HI.out.kept HZ.out HBZ.out HW.out.1 HW.out.2.1 HW.out.2.2 HNE.out)
   dsimp only at HZ6
   clear hS
   go_wp2_with fail
   go_meet
   case rel => exact HZ6
 case rest =>
 obtain ⟨w3, hwc⟩ : ∃ x, x = wc := ⟨_, rfl⟩
 subst hwc
 obtain ⟨⟨Wcode, Wlsn, ⟨Wss, Wse, Wso, Wsf, ⟨Wte, Wta, Wtc, Wtb⟩⟩⟩, BW, rfl, hBaW, hBbW, hb, hd, hf, ho, hk⟩ := hcut.out
 clear hcut
 have hnW : StAppendResult.size ⟨Wcode, Wlsn, ⟨Wss, Wse, Wso, Wsf, ⟨Wte, Wta, Wtc, Wtb⟩⟩⟩ ≤ 1099511627776 := appD_small hd hsz0
 have hnW0 := StAppendResult.size_le ⟨Wcode, Wlsn, ⟨Wss, Wse, Wso, Wsf, ⟨Wte, Wta, Wtc, Wtb⟩⟩⟩
 have HDW := (show Hid (StAppendResult.dat ⟨Wcode, Wlsn, ⟨Wss, Wse, Wso, Wsf, ⟨Wte, Wta, Wtc, Wtb⟩⟩⟩ = appD (StLog.dat ⟨p0ss, p0se, p0so, p0sf, ⟨p0te, p0ta, p0tc, p0tb⟩⟩) (StLogRecord.dat ⟨p1k, p1x, p1v, p1g, p1l, ⟨p1bU, ⟨p1bDe, p1bDa, p1bDc, p1bDb⟩⟩, ⟨p1aU, ⟨p1aDe, p1aDa, p1aDc, p1aDb⟩⟩, p1uN, p1nT, ⟨p1tXe, p1tXa, p1tXn, p1tXc, p1tXb⟩, ⟨p1dYe, p1dYa, p1dYn, p1dYc, p1dYb⟩, ⟨p1iMe, p1iMa, p1iMc, p1iMb⟩⟩)) from hd)
 have HFW := (show Hid (∀ b, FootL (StAppendResult.rows ⟨Wcode, Wlsn, ⟨Wss, Wse, Wso, Wsf, ⟨Wte, Wta, Wtc, Wtb⟩⟩⟩) b → (w2.heap.size ≤ b ∧ b < w3.heap.size) ∧ b ≠ BW) from fun b hb => ⟨⟨(hf b hb).1, ho.lt b hb⟩, (hf b hb).2⟩)
 have HWw3 := (show Hid (OwnL w3 (StAppendResult.rows ⟨Wcode, Wlsn, ⟨Wss, Wse, Wso, Wsf, ⟨Wte, Wta, Wtc, Wtb⟩⟩⟩)) from ho)
 have HZw3 := (show Hid (Blk w3 (BW) 35 [.int .i64 Wcode, .int .i64 Wlsn, .int .i64 Wss, .int .i64 Wse, .int .i64 Wso, .int .i64 Wsf, .slice Wta Wtb.length Wtc]) from hb)
 clear hd hf ho hb
 have hkk : Same w2 w3 := hk
 have hzw3 := hkk.size
 have HA0w3 := hid (HA0w2.out.same hkk)
 have HA1w3 := hid (HA1w2.out.same hkk)
 have HKw3 := hid (HKw2.out.trans hkk)
 clear hkk hk
 have cA0_0 := HA0w3.out.c0
 have cA0_1 := HA0w3.out.c1
 have cA0_2 := HA0w3.out.c2
 have cA0_3 := HA0w3.out.c3
 have cA0_4 := HA0w3.out.c4
 have lA0 := HA0w3.out.lt
 obtain ⟨cA1_0, cA1_1, cA1_2, cA1_3, cA1_4, cA1_5, cA1_6, cA1_7, cA1_8, cA1_9, cA1_10, cA1_11, cA1_12, cA1_13⟩ := HA1w3.out.all14
 have lA1 := HA1w3.out.lt
 have cZ_0 := HZw3.out.c0
 have cZ_1 := HZw3.out.c1
 have cZ_2 := HZw3.out.c2
 have cZ_3 := HZw3.out.c3
 have cZ_4 := HZw3.out.c4
 have cZ_5 := HZw3.out.c5
 have cZ_6 := HZw3.out.c6
 have lZ := HZw3.out.lt
 go_wp2_with fail
 refine (toLog_any ⟨p0ss, p0se, p0so, p0sf, ⟨p0te, p0ta, p0tc, p0tb⟩⟩ _ (by omega) (HV0.out.same HKw3.out)).mono ?_
 rintro e w4 ⟨⟨X0ss, X0se, X0so, X0sf, ⟨X0te, X0ta, X0tc, X0tb⟩⟩, rfl, hd, hz, hf, ho, hk⟩
 have HCX0 := (show Hid (StLog.dat ⟨X0ss, X0se, X0so, X0sf, ⟨X0te, X0ta, X0tc, X0tb⟩⟩ = StLog.dat ⟨p0ss, p0se, p0so, p0sf, ⟨p0te, p0ta, p0tc, p0tb⟩⟩) from hd)
 have HZX0 := (show Hid (StLog.szs ⟨X0ss, X0se, X0so, X0sf, ⟨X0te, X0ta, X0tc, X0tb⟩⟩ = StLog.szs ⟨p0ss, p0se, p0so, p0sf, ⟨p0te, p0ta, p0tc, p0tb⟩⟩) from hz)
 clear hd hz
 dsimp only [StLog.val, BS.v]
 have HFX0 := (show Hid (∀ b, FootL (StLog.rows ⟨X0ss, X0se, X0so, X0sf, ⟨X0te, X0ta, X0tc, X0tb⟩⟩) b → w3.heap.size ≤ b ∧ b < w4.heap.size) from fun b hb => ⟨hf b hb, ho.lt b hb⟩)
 have HX0w4 := (show Hid (OwnL w4 (StLog.rows ⟨X0ss, X0se, X0so, X0sf, ⟨X0te, X0ta, X0tc, X0tb⟩⟩)) from ho)
 clear hf ho
 have hkk : Same w3 w4 := hk
 have hzw4 := hkk.size
 have HA0w4 := hid (HA0w3.out.same hkk)
 have HA1w4 := hid (HA1w3.out.same hkk)
 have HWw4 := hid (HWw3.out.same hkk)
 have HZw4 := hid (HZw3.out.same hkk)
 have HKw4 := hid (HKw3.out.trans hkk)
 clear hkk hk
 clear cA0_0 cA0_1 cA0_2 cA0_3 cA0_4 lA0 cA1_0 cA1_1 cA1_2 cA1_3 cA1_4 cA1_5 cA1_6 cA1_7 cA1_8 cA1_9 cA1_10 cA1_11 cA1_12 cA1_13 lA1 cZ_0 cZ_1 cZ_2 cZ_3 cZ_4 cZ_5 cZ_6 lZ
 as_aux_lemma =>
 have cA0_0 := HA0w4.out.c0
 have cA0_1 := HA0w4.out.c1
 have cA0_2 := HA0w4.out.c2
 have cA0_3 := HA0w4.out.c3
 have cA0_4 := HA0w4.out.c4
 have lA0 := HA0w4.out.lt
 obtain ⟨cA1_0, cA1_1, cA1_2, cA1_3, cA1_4, cA1_5, cA1_6, cA1_7, cA1_8, cA1_9, cA1_10, cA1_11, cA1_12, cA1_13⟩ := HA1w4.out.all14
 have lA1 := HA1w4.out.lt
 have cZ_0 := HZw4.out.c0
 have cZ_1 := HZw4.out.c1
 have cZ_2 := HZw4.out.c2
 have cZ_3 := HZw4.out.c3
 have cZ_4 := HZw4.out.c4
 have cZ_5 := HZw4.out.c5
 have cZ_6 := HZw4.out.c6
 have lZ := HZw4.out.lt
 go_wp2_with fail
 refine (toLogRecord_any ⟨p1k, p1x, p1v, p1g, p1l, ⟨p1bU, ⟨p1bDe, p1bDa, p1bDc, p1bDb⟩⟩, ⟨p1aU, ⟨p1aDe, p1aDa, p1aDc, p1aDb⟩⟩, p1uN, p1nT, ⟨p1tXe, p1tXa, p1tXn, p1tXc, p1tXb⟩, ⟨p1dYe, p1dYa, p1dYn, p1dYc, p1dYb⟩, ⟨p1iMe, p1iMa, p1iMc, p1iMb⟩⟩ _ (by omega) (HV1.out.same (HKw4.out.alloc _))).mono ?_
 rintro e w5 ⟨⟨X1k, X1x, X1v, X1g, X1l, ⟨X1bU, ⟨X1bDe, X1bDa, X1bDc, X1bDb⟩⟩, ⟨X1aU, ⟨X1aDe, X1aDa, X1aDc, X1aDb⟩⟩, X1uN, X1nT, ⟨X1tXe, X1tXa, X1tXn, X1tXc, X1tXb⟩, ⟨X1dYe, X1dYa, X1dYn, X1dYc, X1dYb⟩, ⟨X1iMe, X1iMa, X1iMc, X1iMb⟩⟩, rfl, hd, hz, hf, ho, hk⟩
 have HCX1 := (show Hid (StLogRecord.dat ⟨X1k, X1x, X1v, X1g, X1l, ⟨X1bU, ⟨X1bDe, X1bDa, X1bDc, X1bDb⟩⟩, ⟨X1aU, ⟨X1aDe, X1aDa, X1aDc, X1aDb⟩⟩, X1uN, X1nT, ⟨X1tXe, X1tXa, X1tXn, X1tXc, X1tXb⟩, ⟨X1dYe, X1dYa, X1dYn, X1dYc, X1dYb⟩, ⟨X1iMe, X1iMa, X1iMc, X1iMb⟩⟩ = StLogRecord.dat ⟨p1k, p1x, p1v, p1g, p1l, ⟨p1bU, ⟨p1bDe, p1bDa, p1bDc, p1bDb⟩⟩, ⟨p1aU, ⟨p1aDe, p1aDa, p1aDc, p1aDb⟩⟩, p1uN, p1nT, ⟨p1tXe, p1tXa, p1tXn, p1tXc, p1tXb⟩, ⟨p1dYe, p1dYa, p1dYn, p1dYc, p1dYb⟩, ⟨p1iMe, p1iMa, p1iMc, p1iMb⟩⟩) from hd)
 have HZX1 := (show Hid (StLogRecord.szs ⟨X1k, X1x, X1v, X1g, X1l, ⟨X1bU, ⟨X1bDe, X1bDa, X1bDc, X1bDb⟩⟩, ⟨X1aU, ⟨X1aDe, X1aDa, X1aDc, X1aDb⟩⟩, X1uN, X1nT, ⟨X1tXe, X1tXa, X1tXn, X1tXc, X1tXb⟩, ⟨X1dYe, X1dYa, X1dYn, X1dYc, X1dYb⟩, ⟨X1iMe, X1iMa, X1iMc, X1iMb⟩⟩ = StLogRecord.szs ⟨p1k, p1x, p1v, p1g, p1l, ⟨p1bU, ⟨p1bDe, p1bDa, p1bDc, p1bDb⟩⟩, ⟨p1aU, ⟨p1aDe, p1aDa, p1aDc, p1aDb⟩⟩, p1uN, p1nT, ⟨p1tXe, p1tXa, p1tXn, p1tXc, p1tXb⟩, ⟨p1dYe, p1dYa, p1dYn, p1dYc, p1dYb⟩, ⟨p1iMe, p1iMa, p1iMc, p1iMb⟩⟩) from hz)
 clear hd hz
 dsimp only [StLogRecord.val, StPageRecord.val, BS.v, FR.v]
 simp only [World.size_alloc] at hf
 have HFX1 := (show Hid (∀ b, FootL (StLogRecord.rows ⟨X1k, X1x, X1v, X1g, X1l, ⟨X1bU, ⟨X1bDe, X1bDa, X1bDc, X1bDb⟩⟩, ⟨X1aU, ⟨X1aDe, X1aDa, X1aDc, X1aDb⟩⟩, X1uN, X1nT, ⟨X1tXe, X1tXa, X1tXn, X1tXc, X1tXb⟩, ⟨X1dYe, X1dYa, X1dYn, X1dYc, X1dYb⟩, ⟨X1iMe, X1iMa, X1iMc, X1iMb⟩⟩) b → w4.heap.size < b ∧ b < w5.heap.size) from fun b hb => ⟨by have := hf b hb; omega, ho.lt b hb⟩)
 have HX1w5 := (show Hid (OwnL w5 (StLogRecord.rows ⟨X1k, X1x, X1v, X1g, X1l, ⟨X1bU, ⟨X1bDe, X1bDa, X1bDc, X1bDb⟩⟩, ⟨X1aU, ⟨X1aDe, X1aDa, X1aDc, X1aDb⟩⟩, X1uN, X1nT, ⟨X1tXe, X1tXa, X1tXn, X1tXc, X1tXb⟩, ⟨X1dYe, X1dYa, X1dYn, X1dYc, X1dYb⟩, ⟨X1iMe, X1iMa, X1iMc, X1iMb⟩⟩)) from ho)
 clear hf ho
 have hkk : Same w4 w5 := ((Kept.refl _ _).alloc _).trans hk
 have hzw5 := hk.size
 rw [World.size_alloc] at hzw5
 have HA0w5 := hid (HA0w4.out.same hkk)
 have HA1w5 := hid (HA1w4.out.same hkk)
 have HWw5 := hid (HWw4.out.same hkk)
 have HZw5 := hid (HZw4.out.same hkk)
 have HX0w5 := hid (HX0w4.out.same hkk)
 have HT0w5 := (show Hid (Blk w5 (w4.heap.size) 33 [.int .i64 X0ss, .int .i64 X0se, .int .i64 X0so, .int .i64 X0sf, .slice X0ta X0tb.length X0tc]) from (Blk.new w4 #[.int .i64 X0ss, .int .i64 X0se, .int .i64 X0so, .int .i64 X0sf, .slice X0ta X0tb.length X0tc] 33).same hk)
 have HKw5 := hid (HKw4.out.trans hkk)
 clear hkk hk
 clear cA0_0 cA0_1 cA0_2 cA0_3 cA0_4 lA0 cA1_0 cA1_1 cA1_2 cA1_3 cA1_4 cA1_5 cA1_6 cA1_7 cA1_8 cA1_9 cA1_10 cA1_11 cA1_12 cA1_13 lA1 cZ_0 cZ_1 cZ_2 cZ_3 cZ_4 cZ_5 cZ_6 lZ
 have cA0_0 := HA0w5.out.c0
 have cA0_1 := HA0w5.out.c1
 have cA0_2 := HA0w5.out.c2
 have cA0_3 := HA0w5.out.c3
 have cA0_4 := HA0w5.out.c4
 have lA0 := HA0w5.out.lt
 obtain ⟨cA1_0, cA1_1, cA1_2, cA1_3, cA1_4, cA1_5, cA1_6, cA1_7, cA1_8, cA1_9, cA1_10, cA1_11, cA1_12, cA1_13⟩ := HA1w5.out.all14
 have lA1 := HA1w5.out.lt
 have cZ_0 := HZw5.out.c0
 have cZ_1 := HZw5.out.c1
 have cZ_2 := HZw5.out.c2
 have cZ_3 := HZw5.out.c3
 have cZ_4 := HZw5.out.c4
 have cZ_5 := HZw5.out.c5
 have cZ_6 := HZw5.out.c6
 have lZ := HZw5.out.lt
 have cT0_0 := HT0w5.out.c0
 have cT0_1 := HT0w5.out.c1
 have cT0_2 := HT0w5.out.c2
 have cT0_3 := HT0w5.out.c3
 have cT0_4 := HT0w5.out.c4
 have lT0 := HT0w5.out.lt
 go_wp2_with fail
 refine (implApp_any ⟨X0ss, X0se, X0so, X0sf, ⟨X0te, X0ta, X0tc, X0tb⟩⟩ ⟨X1k, X1x, X1v, X1g, X1l, ⟨X1bU, ⟨X1bDe, X1bDa, X1bDc, X1bDb⟩⟩, ⟨X1aU, ⟨X1aDe, X1aDa, X1aDc, X1aDb⟩⟩, X1uN, X1nT, ⟨X1tXe, X1tXa, X1tXn, X1tXc, X1tXb⟩, ⟨X1dYe, X1dYa, X1dYn, X1dYc, X1dYb⟩, ⟨X1iMe, X1iMa, X1iMc, X1iMb⟩⟩ _ (StLog.isB_dat HCX0.out HB0.out) (by have := HZX0.out; omega) (StLog.own_rd (HX0w5.out.same ((Kept.refl _ _).alloc _))) (StLogRecord.isB_dat HCX1.out HB1.out) (by have := HZX1.out; omega) (StLogRecord.own_rd (HX1w5.out.same ((Kept.refl _ _).alloc _)))).mono ?_
 rintro e w6 ⟨⟨Gcode, Glsn, ⟨Gss, Gse, Gso, Gsf, ⟨Gte, Gta, Gtc, Gtb⟩⟩⟩, rfl, hd, hf, ho, hk⟩
 rw [HCX0.out] at hd
 rw [HCX1.out] at hd
 have hnG : StAppendResult.size ⟨Gcode, Glsn, ⟨Gss, Gse, Gso, Gsf, ⟨Gte, Gta, Gtc, Gtb⟩⟩⟩ ≤ 1099511627776 := appD_small hd hsz0
 have hnG0 := StAppendResult.size_le ⟨Gcode, Glsn, ⟨Gss, Gse, Gso, Gsf, ⟨Gte, Gta, Gtc, Gtb⟩⟩⟩
 have HDG := (show Hid (StAppendResult.dat ⟨Gcode, Glsn, ⟨Gss, Gse, Gso, Gsf, ⟨Gte, Gta, Gtc, Gtb⟩⟩⟩ = appD (StLog.dat ⟨p0ss, p0se, p0so, p0sf, ⟨p0te, p0ta, p0tc, p0tb⟩⟩) (StLogRecord.dat ⟨p1k, p1x, p1v, p1g, p1l, ⟨p1bU, ⟨p1bDe, p1bDa, p1bDc, p1bDb⟩⟩, ⟨p1aU, ⟨p1aDe, p1aDa, p1aDc, p1aDb⟩⟩, p1uN, p1nT, ⟨p1tXe, p1tXa, p1tXn, p1tXc, p1tXb⟩, ⟨p1dYe, p1dYa, p1dYn, p1dYc, p1dYb⟩, ⟨p1iMe, p1iMa, p1iMc, p1iMb⟩⟩)) from hd)
 dsimp only [StAppendResult.val, StLog.val, BS.v]
 simp only [World.size_alloc] at hf
 have HFG := (show Hid (∀ b, FootL (StAppendResult.rows ⟨Gcode, Glsn, ⟨Gss, Gse, Gso, Gsf, ⟨Gte, Gta, Gtc, Gtb⟩⟩⟩) b → w5.heap.size < b ∧ b < w6.heap.size) from fun b hb => ⟨by have := hf b hb; omega, ho.lt b hb⟩)
 have HGw6 := (show Hid (OwnL w6 (StAppendResult.rows ⟨Gcode, Glsn, ⟨Gss, Gse, Gso, Gsf, ⟨Gte, Gta, Gtc, Gtb⟩⟩⟩)) from ho)
 clear hd hf ho
 have hkk : Same w5 w6 := ((Kept.refl _ _).alloc _).trans hk
 have hzw6 := hk.size
 rw [World.size_alloc] at hzw6
 have HA0w6 := hid (HA0w5.out.same hkk)
 have HA1w6 := hid (HA1w5.out.same hkk)
 have HWw6 := hid (HWw5.out.same hkk)
 have HZw6 := hid (HZw5.out.same hkk)
 have HX0w6 := hid (HX0w5.out.same hkk)
 have HT0w6 := hid (HT0w5.out.same hkk)
 have HX1w6 := hid (HX1w5.out.same hkk)
 have HT1w6 := (show Hid (Blk w6 (w5.heap.size) 42 [.int .i64 X1k, .int .i64 X1x, .int .i64 X1v, .int .i64 X1g, .int .i64 X1l, .bool X1bU, .slice X1bDa X1bDb.length X1bDc, .bool X1aU, .slice X1aDa X1aDb.length X1aDc, .int .i64 X1uN, .int .i64 X1nT, .slice X1tXa X1tXn X1tXc, .slice X1dYa X1dYn X1dYc, .slice X1iMa X1iMb.length X1iMc]) from (Blk.new w5 #[.int .i64 X1k, .int .i64 X1x, .int .i64 X1v, .int .i64 X1g, .int .i64 X1l, .bool X1bU, .slice X1bDa X1bDb.length X1bDc, .bool X1aU, .slice X1aDa X1aDb.length X1aDc, .int .i64 X1uN, .int .i64 X1nT, .slice X1tXa X1tXn X1tXc, .slice X1dYa X1dYn X1dYc, .slice X1iMa X1iMb.length X1iMc] 42).same hk)
 have HKw6 := hid (HKw5.out.trans hkk)
 clear hkk hk
 clear cA0_0 cA0_1 cA0_2 cA0_3 cA0_4 lA0 cA1_0 cA1_1 cA1_2 cA1_3 cA1_4 cA1_5 cA1_6 cA1_7 cA1_8 cA1_9 cA1_10 cA1_11 cA1_12 cA1_13 lA1 cZ_0 cZ_1 cZ_2 cZ_3 cZ_4 cZ_5 cZ_6 lZ cT0_0 cT0_1 cT0_2 cT0_3 cT0_4 lT0
 have cA0_0 := HA0w6.out.c0
 have cA0_1 := HA0w6.out.c1
 have cA0_2 := HA0w6.out.c2
 have cA0_3 := HA0w6.out.c3
 have cA0_4 := HA0w6.out.c4
 have lA0 := HA0w6.out.lt
 obtain ⟨cA1_0, cA1_1, cA1_2, cA1_3, cA1_4, cA1_5, cA1_6, cA1_7, cA1_8, cA1_9, cA1_10, cA1_11, cA1_12, cA1_13⟩ := HA1w6.out.all14
 have lA1 := HA1w6.out.lt
 have cZ_0 := HZw6.out.c0
 have cZ_1 := HZw6.out.c1
 have cZ_2 := HZw6.out.c2
 have cZ_3 := HZw6.out.c3
 have cZ_4 := HZw6.out.c4
 have cZ_5 := HZw6.out.c5
 have cZ_6 := HZw6.out.c6
 have lZ := HZw6.out.lt
 have cT0_0 := HT0w6.out.c0
 have cT0_1 := HT0w6.out.c1
 have cT0_2 := HT0w6.out.c2
 have cT0_3 := HT0w6.out.c3
 have cT0_4 := HT0w6.out.c4
 have lT0 := HT0w6.out.lt
 obtain ⟨cT1_0, cT1_1, cT1_2, cT1_3, cT1_4, cT1_5, cT1_6, cT1_7, cT1_8, cT1_9, cT1_10, cT1_11, cT1_12, cT1_13⟩ := HT1w6.out.all14
 have lT1 := HT1w6.out.lt
 go_wp2_with fail
 refine (eqAppendResult_own ⟨Gcode, Glsn, ⟨Gss, Gse, Gso, Gsf, ⟨Gte, Gta, Gtc, Gtb⟩⟩⟩ ⟨Wcode, Wlsn, ⟨Wss, Wse, Wso, Wsf, ⟨Wte, Wta, Wtc, Wtb⟩⟩⟩ _ (by omega) (HDG.out.trans HDW.out.symm) (HGw6.out.same ((Kept.refl _ _).alloc _)) (HWw6.out.same ((Kept.refl _ _).alloc _))).mono ?_
 rintro e w7 ⟨rfl, hk⟩
 have hkk : Same w6 w7 := ((Kept.refl _ _).alloc _).trans hk
 have hzw7 := hk.size
 rw [World.size_alloc] at hzw7
 have HA0w7 := hid (HA0w6.out.same hkk)
 have HA1w7 := hid (HA1w6.out.same hkk)
 have HWw7 := hid (HWw6.out.same hkk)
 have HZw7 := hid (HZw6.out.same hkk)
 have HX0w7 := hid (HX0w6.out.same hkk)
 have HT0w7 := hid (HT0w6.out.same hkk)
 have HX1w7 := hid (HX1w6.out.same hkk)
 have HT1w7 := hid (HT1w6.out.same hkk)
 have HGw7 := hid (HGw6.out.same hkk)
 have HYw7 := (show Hid (Blk w7 (w6.heap.size) 35 [.int .i64 Gcode, .int .i64 Glsn, .int .i64 Gss, .int .i64 Gse, .int .i64 Gso, .int .i64 Gsf, .slice Gta Gtb.length Gtc]) from (Blk.new w6 #[.int .i64 Gcode, .int .i64 Glsn, .int .i64 Gss, .int .i64 Gse, .int .i64 Gso, .int .i64 Gsf, .slice Gta Gtb.length Gtc] 35).same hk)
 have HKw7 := hid (HKw6.out.trans hkk)
 clear hkk hk
 clear cA0_0 cA0_1 cA0_2 cA0_3 cA0_4 lA0 cA1_0 cA1_1 cA1_2 cA1_3 cA1_4 cA1_5 cA1_6 cA1_7 cA1_8 cA1_9 cA1_10 cA1_11 cA1_12 cA1_13 lA1 cZ_0 cZ_1 cZ_2 cZ_3 cZ_4 cZ_5 cZ_6 lZ cT0_0 cT0_1 cT0_2 cT0_3 cT0_4 lT0 cT1_0 cT1_1 cT1_2 cT1_3 cT1_4 cT1_5 cT1_6 cT1_7 cT1_8 cT1_9 cT1_10 cT1_11 cT1_12 cT1_13 lT1
 have cA0_0 := HA0w7.out.c0
 have cA0_1 := HA0w7.out.c1
 have cA0_2 := HA0w7.out.c2
 have cA0_3 := HA0w7.out.c3
 have cA0_4 := HA0w7.out.c4
 have lA0 := HA0w7.out.lt
 obtain ⟨cA1_0, cA1_1, cA1_2, cA1_3, cA1_4, cA1_5, cA1_6, cA1_7, cA1_8, cA1_9, cA1_10, cA1_11, cA1_12, cA1_13⟩ := HA1w7.out.all14
 have lA1 := HA1w7.out.lt
 have cZ_0 := HZw7.out.c0
 have cZ_1 := HZw7.out.c1
 have cZ_2 := HZw7.out.c2
 have cZ_3 := HZw7.out.c3
 have cZ_4 := HZw7.out.c4
 have cZ_5 := HZw7.out.c5
 have cZ_6 := HZw7.out.c6
 have lZ := HZw7.out.lt
 have cT0_0 := HT0w7.out.c0
 have cT0_1 := HT0w7.out.c1
 have cT0_2 := HT0w7.out.c2
 have cT0_3 := HT0w7.out.c3
 have cT0_4 := HT0w7.out.c4
 have lT0 := HT0w7.out.lt
 obtain ⟨cT1_0, cT1_1, cT1_2, cT1_3, cT1_4, cT1_5, cT1_6, cT1_7, cT1_8, cT1_9, cT1_10, cT1_11, cT1_12, cT1_13⟩ := HT1w7.out.all14
 have lT1 := HT1w7.out.lt
 have cY_0 := HYw7.out.c0
 have cY_1 := HYw7.out.c1
 have cY_2 := HYw7.out.c2
 have cY_3 := HYw7.out.c3
 have cY_4 := HYw7.out.c4
 have cY_5 := HYw7.out.c5
 have cY_6 := HYw7.out.c6
 have lY := HYw7.out.lt
 go_wp2_with fail
 go_cut [44] (fun v wc => v = .bool false ∧ Hid (Same w7 wc))
 case first =>
  have HD1 : Hid (Same w w7.drew) := HKw7.out.drew
  have HD2 : Hid (Same w7 w7.drew) := (Kept.refl _ _).drew
  go_region_with (first | (go_at_call 7; refine (toLog_any ⟨p0ss, p0se, p0so, p0sf, ⟨p0te, p0ta, p0tc, p0tb⟩⟩ _ (by omega) (by exact HV0.out.same HD1.out)).mono ?_; rintro e wx7 ⟨⟨zsectors, zepoch, zstop, zflushed, ⟨ztail_e, ztail_a, ztail_c, ztail_b⟩⟩, rfl, hd7, _, hf7, ho7, hk7⟩; have HO7 := (show Hid (OwnL wx7 (StLog.rows ⟨zsectors, zepoch, zstop, zflushed, ⟨ztail_e, ztail_a, ztail_c, ztail_b⟩⟩)) from ho7); have HQ7 := (show Hid (StLog.dat ⟨zsectors, zepoch, zstop, zflushed, ⟨ztail_e, ztail_a, ztail_c, ztail_b⟩⟩ = StLog.dat ⟨p0ss, p0se, p0so, p0sf, ⟨p0te, p0ta, p0tc, p0tb⟩⟩) from hd7); have HK7 : Hid (Same w7 wx7) := HD2.out.trans hk7; clear ho7 hd7 hf7 hk7; dsimp only [StLog.val, BS.v]; have y0 : wx7.cell? ⟨w4.heap.size, 0, none⟩ = some (.int .i64 X0ss) := (HT0w7.out.same HK7.out).cell 0; have y1 : wx7.cell? ⟨w4.heap.size, 1, none⟩ = some (.int .i64 X0se) := (HT0w7.out.same HK7.out).cell 1; have y2 : wx7.cell? ⟨w4.heap.size, 2, none⟩ = some (.int .i64 X0so) := (HT0w7.out.same HK7.out).cell 2; have y3 : wx7.cell? ⟨w4.heap.size, 3, none⟩ = some (.int .i64 X0sf) := (HT0w7.out.same HK7.out).cell 3; have y4 : wx7.cell? ⟨w4.heap.size, 4, none⟩ = some (.slice X0ta X0tb.length X0tc) := (HT0w7.out.same HK7.out).cell 4) | (go_at_call 11; refine (eqLog_own ⟨X0ss, X0se, X0so, X0sf, ⟨X0te, X0ta, X0tc, X0tb⟩⟩ ⟨zsectors, zepoch, zstop, zflushed, ⟨ztail_e, ztail_a, ztail_c, ztail_b⟩⟩ _ (by have h1 := StLog.size_rd (StLog.own_rd HX0w7.out); have h2 := HZX0.out; omega) (HCX0.out.trans HQ7.out.symm) (HX0w7.out.same HK7.out) HO7.out).mono ?_; rintro e wx8 ⟨rfl, hk8⟩))
  all_goals
   have HK8 : Hid (Same w7 wx8) := HK7.out.trans hk8
   clear hk8
   go_wp2_with fail
   go_meet
   case rel => exact ⟨rfl, HK8⟩
 case rest =>
 obtain ⟨rfl, HKC⟩ := hcut
 obtain ⟨w8, hwc⟩ : ∃ x, x = wc := ⟨_, rfl⟩
 subst hwc
 clear cA0_0 cA0_1 cA0_2 cA0_3 cA0_4 lA0 cA1_0 cA1_1 cA1_2 cA1_3 cA1_4 cA1_5 cA1_6 cA1_7 cA1_8 cA1_9 cA1_10 cA1_11 cA1_12 cA1_13 lA1 cZ_0 cZ_1 cZ_2 cZ_3 cZ_4 cZ_5 cZ_6 lZ cT0_0 cT0_1 cT0_2 cT0_3 cT0_4 lT0 cT1_0 cT1_1 cT1_2 cT1_3 cT1_4 cT1_5 cT1_6 cT1_7 cT1_8 cT1_9 cT1_10 cT1_11 cT1_12 cT1_13 lT1 cY_0 cY_1 cY_2 cY_3 cY_4 cY_5 cY_6 lY
 have hkk : Same w7 w8 := HKC.out
 have hzw8 := hkk.size
 have HA0w8 := hid (HA0w7.out.same hkk)
 have HA1w8 := hid (HA1w7.out.same hkk)
 have HWw8 := hid (HWw7.out.same hkk)
 have HZw8 := hid (HZw7.out.same hkk)
 have HX0w8 := hid (HX0w7.out.same hkk)
 have HT0w8 := hid (HT0w7.out.same hkk)
 have HX1w8 := hid (HX1w7.out.same hkk)
 have HT1w8 := hid (HT1w7.out.same hkk)
 have HGw8 := hid (HGw7.out.same hkk)
 have HYw8 := hid (HYw7.out.same hkk)
 have HKw8 := hid (HKw7.out.trans hkk)
 clear hkk
 have cA0_0 := HA0w8.out.c0
 have cA0_1 := HA0w8.out.c1
 have cA0_2 := HA0w8.out.c2
 have cA0_3 := HA0w8.out.c3
 have cA0_4 := HA0w8.out.c4
 have lA0 := HA0w8.out.lt
 obtain ⟨cA1_0, cA1_1, cA1_2, cA1_3, cA1_4, cA1_5, cA1_6, cA1_7, cA1_8, cA1_9, cA1_10, cA1_11, cA1_12, cA1_13⟩ := HA1w8.out.all14
 have lA1 := HA1w8.out.lt
 have cZ_0 := HZw8.out.c0
 have cZ_1 := HZw8.out.c1
 have cZ_2 := HZw8.out.c2
 have cZ_3 := HZw8.out.c3
 have cZ_4 := HZw8.out.c4
 have cZ_5 := HZw8.out.c5
 have cZ_6 := HZw8.out.c6
 have lZ := HZw8.out.lt
 have cT0_0 := HT0w8.out.c0
 have cT0_1 := HT0w8.out.c1
 have cT0_2 := HT0w8.out.c2
 have cT0_3 := HT0w8.out.c3
 have cT0_4 := HT0w8.out.c4
 have lT0 := HT0w8.out.lt
 obtain ⟨cT1_0, cT1_1, cT1_2, cT1_3, cT1_4, cT1_5, cT1_6, cT1_7, cT1_8, cT1_9, cT1_10, cT1_11, cT1_12, cT1_13⟩ := HT1w8.out.all14
 have lT1 := HT1w8.out.lt
 have cY_0 := HYw8.out.c0
 have cY_1 := HYw8.out.c1
 have cY_2 := HYw8.out.c2
 have cY_3 := HYw8.out.c3
 have cY_4 := HYw8.out.c4
 have cY_5 := HYw8.out.c5
 have cY_6 := HYw8.out.c6
 have lY := HYw8.out.lt
 go_wp2_with fail
 go_cut [49] (fun v wc => v = .bool false ∧ Hid (Same w8 wc))
 case first =>
  have HD1 : Hid (Same w w8.drew) := HKw8.out.drew
  have HD2 : Hid (Same w8 w8.drew) := (Kept.refl _ _).drew
  go_region_with (first | (go_at_call 8; refine (toLogRecord_any ⟨p1k, p1x, p1v, p1g, p1l, ⟨p1bU, ⟨p1bDe, p1bDa, p1bDc, p1bDb⟩⟩, ⟨p1aU, ⟨p1aDe, p1aDa, p1aDc, p1aDb⟩⟩, p1uN, p1nT, ⟨p1tXe, p1tXa, p1tXn, p1tXc, p1tXb⟩, ⟨p1dYe, p1dYa, p1dYn, p1dYc, p1dYb⟩, ⟨p1iMe, p1iMa, p1iMc, p1iMb⟩⟩ _ (by omega) (by exact HV1.out.same HD1.out)).mono ?_; rintro e wx7 ⟨⟨zkind, ztxn, zprev, zpage, zslot, ⟨zbU, ⟨zbDe, zbDa, zbDc, zbDb⟩⟩, ⟨zaU, ⟨zaDe, zaDa, zaDc, zaDb⟩⟩, zuN, znT, ⟨ztXe, ztXa, ztXn, ztXc, ztXb⟩, ⟨zdYe, zdYa, zdYn, zdYc, zdYb⟩, ⟨ziMe, ziMa, ziMc, ziMb⟩⟩, rfl, hd7, _, hf7, ho7, hk7⟩; have HO7 := (show Hid (OwnL wx7 (StLogRecord.rows ⟨zkind, ztxn, zprev, zpage, zslot, ⟨zbU, ⟨zbDe, zbDa, zbDc, zbDb⟩⟩, ⟨zaU, ⟨zaDe, zaDa, zaDc, zaDb⟩⟩, zuN, znT, ⟨ztXe, ztXa, ztXn, ztXc, ztXb⟩, ⟨zdYe, zdYa, zdYn, zdYc, zdYb⟩, ⟨ziMe, ziMa, ziMc, ziMb⟩⟩)) from ho7); have HQ7 := (show Hid (StLogRecord.dat ⟨zkind, ztxn, zprev, zpage, zslot, ⟨zbU, ⟨zbDe, zbDa, zbDc, zbDb⟩⟩, ⟨zaU, ⟨zaDe, zaDa, zaDc, zaDb⟩⟩, zuN, znT, ⟨ztXe, ztXa, ztXn, ztXc, ztXb⟩, ⟨zdYe, zdYa, zdYn, zdYc, zdYb⟩, ⟨ziMe, ziMa, ziMc, ziMb⟩⟩ = StLogRecord.dat ⟨p1k, p1x, p1v, p1g, p1l, ⟨p1bU, ⟨p1bDe, p1bDa, p1bDc, p1bDb⟩⟩, ⟨p1aU, ⟨p1aDe, p1aDa, p1aDc, p1aDb⟩⟩, p1uN, p1nT, ⟨p1tXe, p1tXa, p1tXn, p1tXc, p1tXb⟩, ⟨p1dYe, p1dYa, p1dYn, p1dYc, p1dYb⟩, ⟨p1iMe, p1iMa, p1iMc, p1iMb⟩⟩) from hd7); have HK7 : Hid (Same w8 wx7) := HD2.out.trans hk7; clear ho7 hd7 hf7 hk7; dsimp only [StLogRecord.val, StPageRecord.val, BS.v, FR.v]; have y0 : wx7.cell? ⟨w5.heap.size, 0, none⟩ = some (.int .i64 X1k) := (HT1w8.out.same HK7.out).cell 0; have y1 : wx7.cell? ⟨w5.heap.size, 1, none⟩ = some (.int .i64 X1x) := (HT1w8.out.same HK7.out).cell 1; have y2 : wx7.cell? ⟨w5.heap.size, 2, none⟩ = some (.int .i64 X1v) := (HT1w8.out.same HK7.out).cell 2; have y3 : wx7.cell? ⟨w5.heap.size, 3, none⟩ = some (.int .i64 X1g) := (HT1w8.out.same HK7.out).cell 3; have y4 : wx7.cell? ⟨w5.heap.size, 4, none⟩ = some (.int .i64 X1l) := (HT1w8.out.same HK7.out).cell 4; have y5 : wx7.cell? ⟨w5.heap.size, 5, none⟩ = some (.bool X1bU) := (HT1w8.out.same HK7.out).cell 5; have y6 : wx7.cell? ⟨w5.heap.size, 6, none⟩ = some (.slice X1bDa X1bDb.length X1bDc) := (HT1w8.out.same HK7.out).cell 6; have y7 : wx7.cell? ⟨w5.heap.size, 7, none⟩ = some (.bool X1aU) := (HT1w8.out.same HK7.out).cell 7; have y8 : wx7.cell? ⟨w5.heap.size, 8, none⟩ = some (.slice X1aDa X1aDb.length X1aDc) := (HT1w8.out.same HK7.out).cell 8; have y9 : wx7.cell? ⟨w5.heap.size, 9, none⟩ = some (.int .i64 X1uN) := (HT1w8.out.same HK7.out).cell 9; have y10 : wx7.cell? ⟨w5.heap.size, 10, none⟩ = some (.int .i64 X1nT) := (HT1w8.out.same HK7.out).cell 10; have y11 : wx7.cell? ⟨w5.heap.size, 11, none⟩ = some (.slice X1tXa X1tXn X1tXc) := (HT1w8.out.same HK7.out).cell 11; have y12 : wx7.cell? ⟨w5.heap.size, 12, none⟩ = some (.slice X1dYa X1dYn X1dYc) := (HT1w8.out.same HK7.out).cell 12; have y13 : wx7.cell? ⟨w5.heap.size, 13, none⟩ = some (.slice X1iMa X1iMb.length X1iMc) := (HT1w8.out.same HK7.out).cell 13) | (go_at_call 12; refine (eqLogRecord_own ⟨X1k, X1x, X1v, X1g, X1l, ⟨X1bU, ⟨X1bDe, X1bDa, X1bDc, X1bDb⟩⟩, ⟨X1aU, ⟨X1aDe, X1aDa, X1aDc, X1aDb⟩⟩, X1uN, X1nT, ⟨X1tXe, X1tXa, X1tXn, X1tXc, X1tXb⟩, ⟨X1dYe, X1dYa, X1dYn, X1dYc, X1dYb⟩, ⟨X1iMe, X1iMa, X1iMc, X1iMb⟩⟩ ⟨zkind, ztxn, zprev, zpage, zslot, ⟨zbU, ⟨zbDe, zbDa, zbDc, zbDb⟩⟩, ⟨zaU, ⟨zaDe, zaDa, zaDc, zaDb⟩⟩, zuN, znT, ⟨ztXe, ztXa, ztXn, ztXc, ztXb⟩, ⟨zdYe, zdYa, zdYn, zdYc, zdYb⟩, ⟨ziMe, ziMa, ziMc, ziMb⟩⟩ _ (by have h1 := StLogRecord.size_rd (StLogRecord.own_rd HX1w8.out); have h2 := HZX1.out; omega) (HCX1.out.trans HQ7.out.symm) (HX1w8.out.same HK7.out) HO7.out).mono ?_; rintro e wx8 ⟨rfl, hk8⟩))
  all_goals
   have HK8 : Hid (Same w8 wx8) := HK7.out.trans hk8
   clear hk8
   go_wp2_with fail
   go_meet
   case rel => exact ⟨rfl, HK8⟩
 case rest =>
 obtain ⟨rfl, HKC⟩ := hcut
 obtain ⟨w9, hwc⟩ : ∃ x, x = wc := ⟨_, rfl⟩
 subst hwc
 clear cA0_0 cA0_1 cA0_2 cA0_3 cA0_4 lA0 cA1_0 cA1_1 cA1_2 cA1_3 cA1_4 cA1_5 cA1_6 cA1_7 cA1_8 cA1_9 cA1_10 cA1_11 cA1_12 cA1_13 lA1 cZ_0 cZ_1 cZ_2 cZ_3 cZ_4 cZ_5 cZ_6 lZ cT0_0 cT0_1 cT0_2 cT0_3 cT0_4 lT0 cT1_0 cT1_1 cT1_2 cT1_3 cT1_4 cT1_5 cT1_6 cT1_7 cT1_8 cT1_9 cT1_10 cT1_11 cT1_12 cT1_13 lT1 cY_0 cY_1 cY_2 cY_3 cY_4 cY_5 cY_6 lY
 have hkk : Same w8 w9 := HKC.out
 have hzw9 := hkk.size
 have HA0w9 := hid (HA0w8.out.same hkk)
 have HA1w9 := hid (HA1w8.out.same hkk)
 have HWw9 := hid (HWw8.out.same hkk)
 have HZw9 := hid (HZw8.out.same hkk)
 have HX0w9 := hid (HX0w8.out.same hkk)
 have HT0w9 := hid (HT0w8.out.same hkk)
 have HX1w9 := hid (HX1w8.out.same hkk)
 have HT1w9 := hid (HT1w8.out.same hkk)
 have HGw9 := hid (HGw8.out.same hkk)
 have HYw9 := hid (HYw8.out.same hkk)
 have HKw9 := hid (HKw8.out.trans hkk)
 clear hkk
 have hE0 : (0 : Int) ≤ 1 := by omega
 have hE0b : (1 : Int) ≤ 1 := by omega
 have hxz0 := StLog.size_rd (StLog.own_rd HX0w9.out)
 have hxy0 := HZX0.out
 have hxx0 := StLog.size_le ⟨X0ss, X0se, X0so, X0sf, ⟨X0te, X0ta, X0tc, X0tb⟩⟩
 obtain ⟨E1, hE⟩ : ∃ E, 1 + StLog.size ⟨X0ss, X0se, X0so, X0sf, ⟨X0te, X0ta, X0tc, X0tb⟩⟩ = E := ⟨_, rfl⟩
 have hE1 : 0 ≤ E1 := by omega
 have hE1b : E1 ≤ 7000001 := by omega
 have HE1 := (show Hid (1 + StLog.size ⟨X0ss, X0se, X0so, X0sf, ⟨X0te, X0ta, X0tc, X0tb⟩⟩ = E1) from hE)
 clear hE hxz0 hxy0 hxx0
 as_aux_lemma =>
 have cA0_0 := HA0w9.out.c0
 have cA0_1 := HA0w9.out.c1
 have cA0_2 := HA0w9.out.c2
 have cA0_3 := HA0w9.out.c3
 have cA0_4 := HA0w9.out.c4
 have lA0 := HA0w9.out.lt
 obtain ⟨cA1_0, cA1_1, cA1_2, cA1_3, cA1_4, cA1_5, cA1_6, cA1_7, cA1_8, cA1_9, cA1_10, cA1_11, cA1_12, cA1_13⟩ := HA1w9.out.all14
 have lA1 := HA1w9.out.lt
 have cZ_0 := HZw9.out.c0
 have cZ_1 := HZw9.out.c1
 have cZ_2 := HZw9.out.c2
 have cZ_3 := HZw9.out.c3
 have cZ_4 := HZw9.out.c4
 have cZ_5 := HZw9.out.c5
 have cZ_6 := HZw9.out.c6
 have lZ := HZw9.out.lt
 have cT0_0 := HT0w9.out.c0
 have cT0_1 := HT0w9.out.c1
 have cT0_2 := HT0w9.out.c2
 have cT0_3 := HT0w9.out.c3
 have cT0_4 := HT0w9.out.c4
 have lT0 := HT0w9.out.lt
 obtain ⟨cT1_0, cT1_1, cT1_2, cT1_3, cT1_4, cT1_5, cT1_6, cT1_7, cT1_8, cT1_9, cT1_10, cT1_11, cT1_12, cT1_13⟩ := HT1w9.out.all14
 have lT1 := HT1w9.out.lt
 have cY_0 := HYw9.out.c0
 have cY_1 := HYw9.out.c1
 have cY_2 := HYw9.out.c2
 have cY_3 := HYw9.out.c3
 have cY_4 := HYw9.out.c4
 have cY_5 := HYw9.out.c5
 have cY_6 := HYw9.out.c6
 have lY := HYw9.out.lt
 go_wp2_with fail
 have hm := markLog_own ⟨X0ss, X0se, X0so, X0sf, ⟨X0te, X0ta, X0tc, X0tb⟩⟩ 1 w9 (by omega) (by rw [HE1.out]; omega) HX0w9.out
 rw [HE1.out] at hm
 dsimp only [StLog.val, BS.v] at hm
 refine hm.mono ?_
 clear hm
 rintro e w10 ⟨rfl, _, hk⟩
 have hzw10 := hk.size
 have HA0w10 := (show Hid (Blk w10 (w.heap.size) 24 [.int .i64 p0ss, .int .i64 p0se, .int .i64 p0so, .int .i64 p0sf, .slice p0ta p0tb.length p0tc]) from HA0w9.out.kept hk (fun e => by have h1 := HFX0.out _ e; omega))
 have HA1w10 := (show Hid (Blk w10 (w.heap.size + 1) 30 [.int .i64 p1k, .int .i64 p1x, .int .i64 p1v, .int .i64 p1g, .int .i64 p1l, .bool p1bU, .slice p1bDa p1bDb.length p1bDc, .bool p1aU, .slice p1aDa p1aDb.length p1aDc, .int .i64 p1uN, .int .i64 p1nT, .slice p1tXa p1tXn p1tXc, .slice p1dYa p1dYn p1dYc, .slice p1iMa p1iMb.length p1iMc]) from HA1w9.out.kept hk (fun e => by have h1 := HFX0.out _ e; omega))
 have HWw10 := (show Hid (OwnL w10 (StAppendResult.rows ⟨Wcode, Wlsn, ⟨Wss, Wse, Wso, Wsf, ⟨Wte, Wta, Wtc, Wtb⟩⟩⟩)) from HWw9.out.kept hk (fun b hb e => by have h1 := HFX0.out _ e; have h2 := HFW.out b hb; omega))
 have HZw10 := (show Hid (Blk w10 (BW) 35 [.int .i64 Wcode, .int .i64 Wlsn, .int .i64 Wss, .int .i64 Wse, .int .i64 Wso, .int .i64 Wsf, .slice Wta Wtb.length Wtc]) from HZw9.out.kept hk (fun e => by have h1 := HFX0.out _ e; omega))
 have HT0w10 := (show Hid (Blk w10 (w4.heap.size) 33 [.int .i64 X0ss, .int .i64 X0se, .int .i64 X0so, .int .i64 X0sf, .slice X0ta X0tb.length X0tc]) from HT0w9.out.kept hk (fun e => by have h1 := HFX0.out _ e; omega))
 have HX1w10 := (show Hid (OwnL w10 (StLogRecord.rows ⟨X1k, X1x, X1v, X1g, X1l, ⟨X1bU, ⟨X1bDe, X1bDa, X1bDc, X1bDb⟩⟩, ⟨X1aU, ⟨X1aDe, X1aDa, X1aDc, X1aDb⟩⟩, X1uN, X1nT, ⟨X1tXe, X1tXa, X1tXn, X1tXc, X1tXb⟩, ⟨X1dYe, X1dYa, X1dYn, X1dYc, X1dYb⟩, ⟨X1iMe, X1iMa, X1iMc, X1iMb⟩⟩)) from HX1w9.out.kept hk (fun b hb e => by have h1 := HFX0.out _ e; have h2 := HFX1.out b hb; omega))
 have HT1w10 := (show Hid (Blk w10 (w5.heap.size) 42 [.int .i64 X1k, .int .i64 X1x, .int .i64 X1v, .int .i64 X1g, .int .i64 X1l, .bool X1bU, .slice X1bDa X1bDb.length X1bDc, .bool X1aU, .slice X1aDa X1aDb.length X1aDc, .int .i64 X1uN, .int .i64 X1nT, .slice X1tXa X1tXn X1tXc, .slice X1dYa X1dYn X1dYc, .slice X1iMa X1iMb.length X1iMc]) from HT1w9.out.kept hk (fun e => by have h1 := HFX0.out _ e; omega))
 have HGw10 := (show Hid (OwnL w10 (StAppendResult.rows ⟨Gcode, Glsn, ⟨Gss, Gse, Gso, Gsf, ⟨Gte, Gta, Gtc, Gtb⟩⟩⟩)) from HGw9.out.kept hk (fun b hb e => by have h1 := HFX0.out _ e; have h2 := HFG.out b hb; omega))
 have HYw10 := (show Hid (Blk w10 (w6.heap.size) 35 [.int .i64 Gcode, .int .i64 Glsn, .int .i64 Gss, .int .i64 Gse, .int .i64 Gso, .int .i64 Gsf, .slice Gta Gtb.length Gtc]) from HYw9.out.kept hk (fun e => by have h1 := HFX0.out _ e; omega))
 have HKw10 := (show Hid (Same w w10) from HKw9.out.next hk (fun b hb e => by have h1 := HFX0.out _ e; omega))
 clear cA0_0 cA0_1 cA0_2 cA0_3 cA0_4 lA0 cA1_0 cA1_1 cA1_2 cA1_3 cA1_4 cA1_5 cA1_6 cA1_7 cA1_8 cA1_9 cA1_10 cA1_11 cA1_12 cA1_13 lA1 cZ_0 cZ_1 cZ_2 cZ_3 cZ_4 cZ_5 cZ_6 lZ cT0_0 cT0_1 cT0_2 cT0_3 cT0_4 lT0 cT1_0 cT1_1 cT1_2 cT1_3 cT1_4 cT1_5 cT1_6 cT1_7 cT1_8 cT1_9 cT1_10 cT1_11 cT1_12 cT1_13 lT1 cY_0 cY_1 cY_2 cY_3 cY_4 cY_5 cY_6 lY
 clear hk
 have hxz1 := StLogRecord.size_rd (StLogRecord.own_rd HX1w10.out)
 have hxy1 := HZX1.out
 have hxx1 := StLogRecord.size_le ⟨X1k, X1x, X1v, X1g, X1l, ⟨X1bU, ⟨X1bDe, X1bDa, X1bDc, X1bDb⟩⟩, ⟨X1aU, ⟨X1aDe, X1aDa, X1aDc, X1aDb⟩⟩, X1uN, X1nT, ⟨X1tXe, X1tXa, X1tXn, X1tXc, X1tXb⟩, ⟨X1dYe, X1dYa, X1dYn, X1dYc, X1dYb⟩, ⟨X1iMe, X1iMa, X1iMc, X1iMb⟩⟩
 obtain ⟨E2, hE⟩ : ∃ E, E1 + StLogRecord.size ⟨X1k, X1x, X1v, X1g, X1l, ⟨X1bU, ⟨X1bDe, X1bDa, X1bDc, X1bDb⟩⟩, ⟨X1aU, ⟨X1aDe, X1aDa, X1aDc, X1aDb⟩⟩, X1uN, X1nT, ⟨X1tXe, X1tXa, X1tXn, X1tXc, X1tXb⟩, ⟨X1dYe, X1dYa, X1dYn, X1dYc, X1dYb⟩, ⟨X1iMe, X1iMa, X1iMc, X1iMb⟩⟩ = E := ⟨_, rfl⟩
 have hE2 : 0 ≤ E2 := by omega
 have hE2b : E2 ≤ 14000001 := by omega
 have HE2 := (show Hid (E1 + StLogRecord.size ⟨X1k, X1x, X1v, X1g, X1l, ⟨X1bU, ⟨X1bDe, X1bDa, X1bDc, X1bDb⟩⟩, ⟨X1aU, ⟨X1aDe, X1aDa, X1aDc, X1aDb⟩⟩, X1uN, X1nT, ⟨X1tXe, X1tXa, X1tXn, X1tXc, X1tXb⟩, ⟨X1dYe, X1dYa, X1dYn, X1dYc, X1dYb⟩, ⟨X1iMe, X1iMa, X1iMc, X1iMb⟩⟩ = E2) from hE)
 clear hE hxz1 hxy1 hxx1
 have cA0_0 := HA0w10.out.c0
 have cA0_1 := HA0w10.out.c1
 have cA0_2 := HA0w10.out.c2
 have cA0_3 := HA0w10.out.c3
 have cA0_4 := HA0w10.out.c4
 have lA0 := HA0w10.out.lt
 obtain ⟨cA1_0, cA1_1, cA1_2, cA1_3, cA1_4, cA1_5, cA1_6, cA1_7, cA1_8, cA1_9, cA1_10, cA1_11, cA1_12, cA1_13⟩ := HA1w10.out.all14
 have lA1 := HA1w10.out.lt
 have cZ_0 := HZw10.out.c0
 have cZ_1 := HZw10.out.c1
 have cZ_2 := HZw10.out.c2
 have cZ_3 := HZw10.out.c3
 have cZ_4 := HZw10.out.c4
 have cZ_5 := HZw10.out.c5
 have cZ_6 := HZw10.out.c6
 have lZ := HZw10.out.lt
 have cT0_0 := HT0w10.out.c0
 have cT0_1 := HT0w10.out.c1
 have cT0_2 := HT0w10.out.c2
 have cT0_3 := HT0w10.out.c3
 have cT0_4 := HT0w10.out.c4
 have lT0 := HT0w10.out.lt
 obtain ⟨cT1_0, cT1_1, cT1_2, cT1_3, cT1_4, cT1_5, cT1_6, cT1_7, cT1_8, cT1_9, cT1_10, cT1_11, cT1_12, cT1_13⟩ := HT1w10.out.all14
 have lT1 := HT1w10.out.lt
 have cY_0 := HYw10.out.c0
 have cY_1 := HYw10.out.c1
 have cY_2 := HYw10.out.c2
 have cY_3 := HYw10.out.c3
 have cY_4 := HYw10.out.c4
 have cY_5 := HYw10.out.c5
 have cY_6 := HYw10.out.c6
 have lY := HYw10.out.lt
 go_wp2_with fail
 have hm := markLogRecord_own ⟨X1k, X1x, X1v, X1g, X1l, ⟨X1bU, ⟨X1bDe, X1bDa, X1bDc, X1bDb⟩⟩, ⟨X1aU, ⟨X1aDe, X1aDa, X1aDc, X1aDb⟩⟩, X1uN, X1nT, ⟨X1tXe, X1tXa, X1tXn, X1tXc, X1tXb⟩, ⟨X1dYe, X1dYa, X1dYn, X1dYc, X1dYb⟩, ⟨X1iMe, X1iMa, X1iMc, X1iMb⟩⟩ E1 w10 (by omega) (by rw [HE2.out]; omega) HX1w10.out
 rw [HE2.out] at hm
 dsimp only [StLogRecord.val, StPageRecord.val, BS.v, FR.v] at hm
 refine hm.mono ?_
 clear hm
 rintro e w11 ⟨rfl, _, hk⟩
 have hzw11 := hk.size
 have HA0w11 := (show Hid (Blk w11 (w.heap.size) 24 [.int .i64 p0ss, .int .i64 p0se, .int .i64 p0so, .int .i64 p0sf, .slice p0ta p0tb.length p0tc]) from HA0w10.out.kept hk (fun e => by have h1 := HFX1.out _ e; omega))
 have HA1w11 := (show Hid (Blk w11 (w.heap.size + 1) 30 [.int .i64 p1k, .int .i64 p1x, .int .i64 p1v, .int .i64 p1g, .int .i64 p1l, .bool p1bU, .slice p1bDa p1bDb.length p1bDc, .bool p1aU, .slice p1aDa p1aDb.length p1aDc, .int .i64 p1uN, .int .i64 p1nT, .slice p1tXa p1tXn p1tXc, .slice p1dYa p1dYn p1dYc, .slice p1iMa p1iMb.length p1iMc]) from HA1w10.out.kept hk (fun e => by have h1 := HFX1.out _ e; omega))
 have HWw11 := (show Hid (OwnL w11 (StAppendResult.rows ⟨Wcode, Wlsn, ⟨Wss, Wse, Wso, Wsf, ⟨Wte, Wta, Wtc, Wtb⟩⟩⟩)) from HWw10.out.kept hk (fun b hb e => by have h1 := HFX1.out _ e; have h2 := HFW.out b hb; omega))
 have HZw11 := (show Hid (Blk w11 (BW) 35 [.int .i64 Wcode, .int .i64 Wlsn, .int .i64 Wss, .int .i64 Wse, .int .i64 Wso, .int .i64 Wsf, .slice Wta Wtb.length Wtc]) from HZw10.out.kept hk (fun e => by have h1 := HFX1.out _ e; omega))
 have HT0w11 := (show Hid (Blk w11 (w4.heap.size) 33 [.int .i64 X0ss, .int .i64 X0se, .int .i64 X0so, .int .i64 X0sf, .slice X0ta X0tb.length X0tc]) from HT0w10.out.kept hk (fun e => by have h1 := HFX1.out _ e; omega))
 have HT1w11 := (show Hid (Blk w11 (w5.heap.size) 42 [.int .i64 X1k, .int .i64 X1x, .int .i64 X1v, .int .i64 X1g, .int .i64 X1l, .bool X1bU, .slice X1bDa X1bDb.length X1bDc, .bool X1aU, .slice X1aDa X1aDb.length X1aDc, .int .i64 X1uN, .int .i64 X1nT, .slice X1tXa X1tXn X1tXc, .slice X1dYa X1dYn X1dYc, .slice X1iMa X1iMb.length X1iMc]) from HT1w10.out.kept hk (fun e => by have h1 := HFX1.out _ e; omega))
 have HGw11 := (show Hid (OwnL w11 (StAppendResult.rows ⟨Gcode, Glsn, ⟨Gss, Gse, Gso, Gsf, ⟨Gte, Gta, Gtc, Gtb⟩⟩⟩)) from HGw10.out.kept hk (fun b hb e => by have h1 := HFX1.out _ e; have h2 := HFG.out b hb; omega))
 have HYw11 := (show Hid (Blk w11 (w6.heap.size) 35 [.int .i64 Gcode, .int .i64 Glsn, .int .i64 Gss, .int .i64 Gse, .int .i64 Gso, .int .i64 Gsf, .slice Gta Gtb.length Gtc]) from HYw10.out.kept hk (fun e => by have h1 := HFX1.out _ e; omega))
 have HKw11 := (show Hid (Same w w11) from HKw10.out.next hk (fun b hb e => by have h1 := HFX1.out _ e; omega))
 clear cA0_0 cA0_1 cA0_2 cA0_3 cA0_4 lA0 cA1_0 cA1_1 cA1_2 cA1_3 cA1_4 cA1_5 cA1_6 cA1_7 cA1_8 cA1_9 cA1_10 cA1_11 cA1_12 cA1_13 lA1 cZ_0 cZ_1 cZ_2 cZ_3 cZ_4 cZ_5 cZ_6 lZ cT0_0 cT0_1 cT0_2 cT0_3 cT0_4 lT0 cT1_0 cT1_1 cT1_2 cT1_3 cT1_4 cT1_5 cT1_6 cT1_7 cT1_8 cT1_9 cT1_10 cT1_11 cT1_12 cT1_13 lT1 cY_0 cY_1 cY_2 cY_3 cY_4 cY_5 cY_6 lY
 clear hk
 have hEn : ¬ E2 < 0 := by omega
 have cA0_0 := HA0w11.out.c0
 have cA0_1 := HA0w11.out.c1
 have cA0_2 := HA0w11.out.c2
 have cA0_3 := HA0w11.out.c3
 have cA0_4 := HA0w11.out.c4
 have lA0 := HA0w11.out.lt
 obtain ⟨cA1_0, cA1_1, cA1_2, cA1_3, cA1_4, cA1_5, cA1_6, cA1_7, cA1_8, cA1_9, cA1_10, cA1_11, cA1_12, cA1_13⟩ := HA1w11.out.all14
 have lA1 := HA1w11.out.lt
 have cZ_0 := HZw11.out.c0
 have cZ_1 := HZw11.out.c1
 have cZ_2 := HZw11.out.c2
 have cZ_3 := HZw11.out.c3
 have cZ_4 := HZw11.out.c4
 have cZ_5 := HZw11.out.c5
 have cZ_6 := HZw11.out.c6
 have lZ := HZw11.out.lt
 have cY_0 := HYw11.out.c0
 have cY_1 := HYw11.out.c1
 have cY_2 := HYw11.out.c2
 have cY_3 := HYw11.out.c3
 have cY_4 := HYw11.out.c4
 have cY_5 := HYw11.out.c5
 have cY_6 := HYw11.out.c6
 have lY := HYw11.out.lt
 go_wp2_with fail
 refine (eqAppendResult_own ⟨Gcode, Glsn, ⟨Gss, Gse, Gso, Gsf, ⟨Gte, Gta, Gtc, Gtb⟩⟩⟩ ⟨Wcode, Wlsn, ⟨Wss, Wse, Wso, Wsf, ⟨Wte, Wta, Wtc, Wtb⟩⟩⟩ _ (by omega) (HDG.out.trans HDW.out.symm) HGw11.out HWw11.out).mono ?_
 rintro e w12 ⟨rfl, hk⟩
 have hkk : Same w11 w12 := hk
 have hzw12 := hkk.size
 have HA0w12 := hid (HA0w11.out.same hkk)
 have HA1w12 := hid (HA1w11.out.same hkk)
 have HWw12 := hid (HWw11.out.same hkk)
 have HZw12 := hid (HZw11.out.same hkk)
 have HGw12 := hid (HGw11.out.same hkk)
 have HYw12 := hid (HYw11.out.same hkk)
 have HKw12 := hid (HKw11.out.trans hkk)
 clear hkk hk
 clear cA0_0 cA0_1 cA0_2 cA0_3 cA0_4 lA0 cA1_0 cA1_1 cA1_2 cA1_3 cA1_4 cA1_5 cA1_6 cA1_7 cA1_8 cA1_9 cA1_10 cA1_11 cA1_12 cA1_13 lA1 cZ_0 cZ_1 cZ_2 cZ_3 cZ_4 cZ_5 cZ_6 lZ cY_0 cY_1 cY_2 cY_3 cY_4 cY_5 cY_6 lY
 have hM2 : ¬ (1 + StAppendResult.size ⟨Gcode, Glsn, ⟨Gss, Gse, Gso, Gsf, ⟨Gte, Gta, Gtc, Gtb⟩⟩⟩) < 0 := by omega
 obtain ⟨M, hM⟩ : ∃ M, 1 + StAppendResult.size ⟨Gcode, Glsn, ⟨Gss, Gse, Gso, Gsf, ⟨Gte, Gta, Gtc, Gtb⟩⟩⟩ = M := ⟨_, rfl⟩
 have HM := (show Hid (1 + StAppendResult.size ⟨Gcode, Glsn, ⟨Gss, Gse, Gso, Gsf, ⟨Gte, Gta, Gtc, Gtb⟩⟩⟩ = M) from hM)
 have hM3 : 0 ≤ M ∧ M ≤ 1125899906842624 := by omega
 rw [hM] at hM2
 clear hM
 as_aux_lemma =>
 have cA0_0 := HA0w12.out.c0
 have cA0_1 := HA0w12.out.c1
 have cA0_2 := HA0w12.out.c2
 have cA0_3 := HA0w12.out.c3
 have cA0_4 := HA0w12.out.c4
 have lA0 := HA0w12.out.lt
 obtain ⟨cA1_0, cA1_1, cA1_2, cA1_3, cA1_4, cA1_5, cA1_6, cA1_7, cA1_8, cA1_9, cA1_10, cA1_11, cA1_12, cA1_13⟩ := HA1w12.out.all14
 have lA1 := HA1w12.out.lt
 have cZ_0 := HZw12.out.c0
 have cZ_1 := HZw12.out.c1
 have cZ_2 := HZw12.out.c2
 have cZ_3 := HZw12.out.c3
 have cZ_4 := HZw12.out.c4
 have cZ_5 := HZw12.out.c5
 have cZ_6 := HZw12.out.c6
 have lZ := HZw12.out.lt
 have cY_0 := HYw12.out.c0
 have cY_1 := HYw12.out.c1
 have cY_2 := HYw12.out.c2
 have cY_3 := HYw12.out.c3
 have cY_4 := HYw12.out.c4
 have cY_5 := HYw12.out.c5
 have cY_6 := HYw12.out.c6
 have lY := HYw12.out.lt
 go_wp2_with fail
 have hm := markAppendResult_own ⟨Gcode, Glsn, ⟨Gss, Gse, Gso, Gsf, ⟨Gte, Gta, Gtc, Gtb⟩⟩⟩ 1 w12 (by omega) (by rw [HM.out]; omega) HGw12.out
 rw [HM.out] at hm
 dsimp only [StAppendResult.val, StLog.val, BS.v] at hm
 refine hm.mono ?_
 clear hm
 rintro e w13 ⟨rfl, ho, hk⟩
 have hzw13 := hk.size
 have HA0w13 := (show Hid (Blk w13 (w.heap.size) 24 [.int .i64 p0ss, .int .i64 p0se, .int .i64 p0so, .int .i64 p0sf, .slice p0ta p0tb.length p0tc]) from HA0w12.out.kept hk (fun e => by have h1 := HFG.out _ e; omega))
 have HA1w13 := (show Hid (Blk w13 (w.heap.size + 1) 30 [.int .i64 p1k, .int .i64 p1x, .int .i64 p1v, .int .i64 p1g, .int .i64 p1l, .bool p1bU, .slice p1bDa p1bDb.length p1bDc, .bool p1aU, .slice p1aDa p1aDb.length p1aDc, .int .i64 p1uN, .int .i64 p1nT, .slice p1tXa p1tXn p1tXc, .slice p1dYa p1dYn p1dYc, .slice p1iMa p1iMb.length p1iMc]) from HA1w12.out.kept hk (fun e => by have h1 := HFG.out _ e; omega))
 have HWw13 := (show Hid (OwnL w13 (StAppendResult.rows ⟨Wcode, Wlsn, ⟨Wss, Wse, Wso, Wsf, ⟨Wte, Wta, Wtc, Wtb⟩⟩⟩)) from HWw12.out.kept hk (fun b hb e => by have h1 := HFG.out _ e; have h2 := HFW.out b hb; omega))
 have HZw13 := (show Hid (Blk w13 (BW) 35 [.int .i64 Wcode, .int .i64 Wlsn, .int .i64 Wss, .int .i64 Wse, .int .i64 Wso, .int .i64 Wsf, .slice Wta Wtb.length Wtc]) from HZw12.out.kept hk (fun e => by have h1 := HFG.out _ e; omega))
 have HYw13 := (show Hid (Blk w13 (w6.heap.size) 35 [.int .i64 Gcode, .int .i64 Glsn, .int .i64 Gss, .int .i64 Gse, .int .i64 Gso, .int .i64 Gsf, .slice Gta Gtb.length Gtc]) from HYw12.out.kept hk (fun e => by have h1 := HFG.out _ e; omega))
 have HKw13 := (show Hid (Same w w13) from HKw12.out.next hk (fun b hb e => by have h1 := HFG.out _ e; omega))
 have HUw13 := (show Hid (OwnL w13 (StAppendResult.marked ⟨Gcode, Glsn, ⟨Gss, Gse, Gso, Gsf, ⟨Gte, Gta, Gtc, Gtb⟩⟩⟩ 1).rows) from ho)
 clear cA0_0 cA0_1 cA0_2 cA0_3 cA0_4 lA0 cA1_0 cA1_1 cA1_2 cA1_3 cA1_4 cA1_5 cA1_6 cA1_7 cA1_8 cA1_9 cA1_10 cA1_11 cA1_12 cA1_13 lA1 cZ_0 cZ_1 cZ_2 cZ_3 cZ_4 cZ_5 cZ_6 lZ cY_0 cY_1 cY_2 cY_3 cY_4 cY_5 cY_6 lY
 clear hk ho
 have HFU := (show Hid (∀ b, FootL (StAppendResult.marked ⟨Gcode, Glsn, ⟨Gss, Gse, Gso, Gsf, ⟨Gte, Gta, Gtc, Gtb⟩⟩⟩ 1).rows b → _ ∧ _) from fun b hb => HFG.out b ((StAppendResult.foot_marked _ _ b).1 hb))
 have cA0_0 := HA0w13.out.c0
 have cA0_1 := HA0w13.out.c1
 have cA0_2 := HA0w13.out.c2
 have cA0_3 := HA0w13.out.c3
 have cA0_4 := HA0w13.out.c4
 have lA0 := HA0w13.out.lt
 obtain ⟨cA1_0, cA1_1, cA1_2, cA1_3, cA1_4, cA1_5, cA1_6, cA1_7, cA1_8, cA1_9, cA1_10, cA1_11, cA1_12, cA1_13⟩ := HA1w13.out.all14
 have lA1 := HA1w13.out.lt
 have cZ_0 := HZw13.out.c0
 have cZ_1 := HZw13.out.c1
 have cZ_2 := HZw13.out.c2
 have cZ_3 := HZw13.out.c3
 have cZ_4 := HZw13.out.c4
 have cZ_5 := HZw13.out.c5
 have cZ_6 := HZw13.out.c6
 have lZ := HZw13.out.lt
 have cY_0 := HYw13.out.c0
 have cY_1 := HYw13.out.c1
 have cY_2 := HYw13.out.c2
 have cY_3 := HYw13.out.c3
 have cY_4 := HYw13.out.c4
 have cY_5 := HYw13.out.c5
 have cY_6 := HYw13.out.c6
 have lY := HYw13.out.lt
 go_wp2_with fail
 have hm := heldAppendResult_own ⟨Gcode, Glsn, ⟨Gss, Gse, Gso, Gsf, ⟨Gte, Gta, Gtc, Gtb⟩⟩⟩ 1 w13 (by omega) (by rw [HM.out]; omega) HUw13.out
 rw [HM.out] at hm
 dsimp only [StAppendResult.val, StLog.val, BS.v] at hm
 refine hm.mono ?_
 clear hm
 rintro e w14 ⟨rfl, hk⟩
 have hkk : Same w13 w14 := hk
 have hzw14 := hkk.size
 have HA0w14 := hid (HA0w13.out.same hkk)
 have HA1w14 := hid (HA1w13.out.same hkk)
 have HWw14 := hid (HWw13.out.same hkk)
 have HZw14 := hid (HZw13.out.same hkk)
 have HYw14 := hid (HYw13.out.same hkk)
 have HUw14 := hid (HUw13.out.same hkk)
 have HKw14 := hid (HKw13.out.trans hkk)
 clear hkk hk
 clear cA0_0 cA0_1 cA0_2 cA0_3 cA0_4 lA0 cA1_0 cA1_1 cA1_2 cA1_3 cA1_4 cA1_5 cA1_6 cA1_7 cA1_8 cA1_9 cA1_10 cA1_11 cA1_12 cA1_13 lA1 cZ_0 cZ_1 cZ_2 cZ_3 cZ_4 cZ_5 cZ_6 lZ cY_0 cY_1 cY_2 cY_3 cY_4 cY_5 cY_6 lY
 have cA0_0 := HA0w14.out.c0
 have cA0_1 := HA0w14.out.c1
 have cA0_2 := HA0w14.out.c2
 have cA0_3 := HA0w14.out.c3
 have cA0_4 := HA0w14.out.c4
 have lA0 := HA0w14.out.lt
 obtain ⟨cA1_0, cA1_1, cA1_2, cA1_3, cA1_4, cA1_5, cA1_6, cA1_7, cA1_8, cA1_9, cA1_10, cA1_11, cA1_12, cA1_13⟩ := HA1w14.out.all14
 have lA1 := HA1w14.out.lt
 have cZ_0 := HZw14.out.c0
 have cZ_1 := HZw14.out.c1
 have cZ_2 := HZw14.out.c2
 have cZ_3 := HZw14.out.c3
 have cZ_4 := HZw14.out.c4
 have cZ_5 := HZw14.out.c5
 have cZ_6 := HZw14.out.c6
 have lZ := HZw14.out.lt
 have cY_0 := HYw14.out.c0
 have cY_1 := HYw14.out.c1
 have cY_2 := HYw14.out.c2
 have cY_3 := HYw14.out.c3
 have cY_4 := HYw14.out.c4
 have cY_5 := HYw14.out.c5
 have cY_6 := HYw14.out.c6
 have lY := HYw14.out.lt
 go_wp2_with fail
 clear cA0_0 cA0_1 cA0_2 cA0_3 cA0_4 lA0 cA1_0 cA1_1 cA1_2 cA1_3 cA1_4 cA1_5 cA1_6 cA1_7 cA1_8 cA1_9 cA1_10 cA1_11 cA1_12 cA1_13 lA1 cZ_0 cZ_1 cZ_2 cZ_3 cZ_4 cZ_5 cZ_6 lZ cY_0 cY_1 cY_2 cY_3 cY_4 cY_5 cY_6 lY
 go_cut [13] (fun v wc => Hid (ARes w14 wc (appD (StLog.dat ⟨p0ss, p0se, p0so, p0sf, ⟨p0te, p0ta, p0tc, p0tb⟩⟩) (StLogRecord.dat ⟨p1k, p1x, p1v, p1g, p1l, ⟨p1bU, ⟨p1bDe, p1bDa, p1bDc, p1bDb⟩⟩, ⟨p1aU, ⟨p1aDe, p1aDa, p1aDc, p1aDb⟩⟩, p1uN, p1nT, ⟨p1tXe, p1tXa, p1tXn, p1tXc, p1tXb⟩, ⟨p1dYe, p1dYa, p1dYn, p1dYc, p1dYb⟩, ⟨p1iMe, p1iMa, p1iMc, p1iMb⟩⟩)) v))
 case first =>
  as_aux_lemma =>
  have HI := (show Hid (Bx w14 w14 (w.heap.size) (w.heap.size + 1) [.int .i64 p0ss, .int .i64 p0se, .int .i64 p0so, .int .i64 p0sf, .slice p0ta p0tb.length p0tc] [.int .i64 p1k, .int .i64 p1x, .int .i64 p1v, .int .i64 p1g, .int .i64 p1l, .bool p1bU, .slice p1bDa p1bDb.length p1bDc, .bool p1aU, .slice p1aDa p1aDb.length p1aDc, .int .i64 p1uN, .int .i64 p1nT, .slice p1tXa p1tXn p1tXc, .slice p1dYa p1dYn p1dYc, .slice p1iMa p1iMb.length p1iMc]) from ⟨HA0w14.out, HA1w14.out, Kept.refl _ _⟩)
  refine wp_region_V (fun wx : World => wx.cell? ⟨w.heap.size, 0, none⟩ = some (.int .i64 p0ss) ∧ wx.cell? ⟨w.heap.size, 1, none⟩ = some (.int .i64 p0se) ∧ wx.cell? ⟨w.heap.size, 2, none⟩ = some (.int .i64 p0so) ∧ wx.cell? ⟨w.heap.size, 3, none⟩ = some (.int .i64 p0sf) ∧ wx.cell? ⟨w.heap.size, 4, none⟩ = some (.slice p0ta p0tb.length p0tc) ∧ wx.cell? ⟨w.heap.size + 1, 0, none⟩ = some (.int .i64 p1k) ∧ wx.cell? ⟨w.heap.size + 1, 1, none⟩ = some (.int .i64 p1x) ∧ wx.cell? ⟨w.heap.size + 1, 2, none⟩ = some (.int .i64 p1v) ∧ wx.cell? ⟨w.heap.size + 1, 3, none⟩ = some (.int .i64 p1g) ∧ wx.cell? ⟨w.heap.size + 1, 4, none⟩ = some (.int .i64 p1l) ∧ wx.cell? ⟨w.heap.size + 1, 5, none⟩ = some (.bool p1bU) ∧ wx.cell? ⟨w.heap.size + 1, 6, none⟩ = some (.slice p1bDa p1bDb.length p1bDc) ∧ wx.cell? ⟨w.heap.size + 1, 7, none⟩ = some (.bool p1aU) ∧ wx.cell? ⟨w.heap.size + 1, 8, none⟩ = some (.slice p1aDa p1aDb.length p1aDc) ∧ wx.cell? ⟨w.heap.size + 1, 9, none⟩ = some (.int .i64 p1uN) ∧ wx.cell? ⟨w.heap.size + 1, 10, none⟩ = some (.int .i64 p1nT) ∧ wx.cell? ⟨w.heap.size + 1, 11, none⟩ = some (.slice p1tXa p1tXn p1tXc) ∧ wx.cell? ⟨w.heap.size + 1, 12, none⟩ = some (.slice p1dYa p1dYn p1dYc) ∧ wx.cell? ⟨w.heap.size + 1, 13, none⟩ = some (.slice p1iMa p1iMb.length p1iMc)) 6 7 rfl (by kernel_rfl) ?_
  replace HI := hid (HI.out.same (Kept.refl (fun _ => False) _).drew)
  generalize World.drew w14 = u0 at HI ⊢
  have hS := HI.out.s
  refine tk 0 75 hS ?_
  refine tk 2 77 hS ?_
  refine wpAnyV_two (i := 1) (j := 5) (by kernel_rfl) rfl rfl (fun K hK => ?_) (fun K hK => ?_)
  ·
   go_simp
   refine (toLog_any ⟨p0ss, p0se, p0so, p0sf, ⟨p0te, p0ta, p0tc, p0tb⟩⟩ _ (by omega) (HV0.out.same (HKw14.out.trans HI.out.kept))).mono ?_
   rintro e u1 ⟨y0, rfl, hd, hz, hf, ho, hk⟩
   have HC0 := (show Hid (y0.dat = StLog.dat ⟨p0ss, p0se, p0so, p0sf, ⟨p0te, p0ta, p0tc, p0tb⟩⟩ ∧ y0.szs = StLog.szs ⟨p0ss, p0se, p0so, p0sf, ⟨p0te, p0ta, p0tc, p0tb⟩⟩ ∧ OwnL u1 y0.rows) from ⟨hd, hz, ho⟩)
   clear hd hz hf ho
   replace HI := hid (HI.out.same hk)
   clear hk
   go_wp2_with fail
   replace hS := HI.out.s
   refine hK.out _ _ (fun _ => hS) ?_
   clear hK K
   try simp only [Act.put, sA, s0, sS]
   refine wpAnyV_two (i := 3) (j := 5) (by kernel_rfl) rfl rfl (fun K hK => ?_) (fun K hK => ?_)
   ·
    go_simp
    refine (toLogRecord_any ⟨p1k, p1x, p1v, p1g, p1l, ⟨p1bU, ⟨p1bDe, p1bDa, p1bDc, p1bDb⟩⟩, ⟨p1aU, ⟨p1aDe, p1aDa, p1aDc, p1aDb⟩⟩, p1uN, p1nT, ⟨p1tXe, p1tXa, p1tXn, p1tXc, p1tXb⟩, ⟨p1dYe, p1dYa, p1dYn, p1dYc, p1dYb⟩, ⟨p1iMe, p1iMa, p1iMc, p1iMb⟩⟩ _ (by omega) (HV1.out.same (HKw14.out.trans HI.out.kept))).mono ?_
    rintro e u2 ⟨y1, rfl, hd, hz, hf, ho, hk⟩
    have HC1 := (show Hid (y1.dat = StLogRecord.dat ⟨p1k, p1x, p1v, p1g, p1l, ⟨p1bU, ⟨p1bDe, p1bDa, p1bDc, p1bDb⟩⟩, ⟨p1aU, ⟨p1aDe, p1aDa, p1aDc, p1aDb⟩⟩, p1uN, p1nT, ⟨p1tXe, p1tXa, p1tXn, p1tXc, p1tXb⟩, ⟨p1dYe, p1dYa, p1dYn, p1dYc, p1dYb⟩, ⟨p1iMe, p1iMa, p1iMc, p1iMb⟩⟩ ∧ y1.szs = StLogRecord.szs ⟨p1k, p1x, p1v, p1g, p1l, ⟨p1bU, ⟨p1bDe, p1bDa, p1bDc, p1bDb⟩⟩, ⟨p1aU, ⟨p1aDe, p1aDa, p1aDc, p1aDb⟩⟩, p1uN, p1nT, ⟨p1tXe, p1tXa, p1tXn, p1tXc, p1tXb⟩, ⟨p1dYe, p1dYa, p1dYn, p1dYc, p1dYb⟩, ⟨p1iMe, p1iMa, p1iMc, p1iMb⟩⟩ ∧ OwnL u2 y1.rows) from ⟨hd, hz, ho⟩)
    clear hd hz hf ho
    replace HI := hid (HI.out.same hk)
    replace HC0 := hid (Cm HC0.out hk)
    clear hk
    go_wp2_with fail
    replace hS := HI.out.s
    refine hK.out _ _ (fun _ => hS) ?_
    clear hK K
    try simp only [Act.put, sA, s0, sS]
    refine wpAnyV_two (i := 4) (j := 5) (by kernel_rfl) rfl rfl (fun K hK => ?_) (fun K hK => ?_)
    ·
     go_simp
     refine (implApp_any y0 y1 _ (StLog.isB_dat HC0.out.1 HB0.out) (by have := HC0.out.2.1; omega) (StLog.own_rd HC0.out.2.2) (StLogRecord.isB_dat HC1.out.1 HB1.out) (by have := HC1.out.2.1; omega) (StLogRecord.own_rd HC1.out.2.2)).mono ?_
     rintro e u3 ⟨yW, rfl, hd, hf, ho, hk⟩
     rw [HC0.out.1, HC1.out.1] at hd
     have HW := (show Hid (yW.dat = appD (StLog.dat ⟨p0ss, p0se, p0so, p0sf, ⟨p0te, p0ta, p0tc, p0tb⟩⟩) (StLogRecord.dat ⟨p1k, p1x, p1v, p1g, p1l, ⟨p1bU, ⟨p1bDe, p1bDa, p1bDc, p1bDb⟩⟩, ⟨p1aU, ⟨p1aDe, p1aDa, p1aDc, p1aDb⟩⟩, p1uN, p1nT, ⟨p1tXe, p1tXa, p1tXn, p1tXc, p1tXb⟩, ⟨p1dYe, p1dYa, p1dYn, p1dYc, p1dYb⟩, ⟨p1iMe, p1iMa, p1iMc, p1iMb⟩⟩) ∧ OwnL u3 yW.rows ∧ ∀ b, FootL yW.rows b → w14.heap.size ≤ b) from ⟨hd, ho, fun b hb => Nat.le_trans HI.out.kept.size (hf b hb)⟩)
     clear hd hf ho HC0 HC1
     replace HI := hid (HI.out.same hk)
     clear hk
     go_wp2_with fail
     replace hS := HI.out.s
     refine hK.out _ _ (fun _ => hS) ?_
     clear hK K
     try simp only [Act.put, sA, s0, sS]
     refine wpAnyV_one (i := 5) (by kernel_rfl) rfl (fun K hK => ?_)
     go_simp
     have hk := (Kept.refl (fun _ => False) u3).alloc (.cells #[.int .i64 0, .int .i64 0, .int .i64 0, .int .i64 0, .int .i64 0, .int .i64 0, .slice none 0 0] 35)
     have HZ := hid (Blk.newL u3 [.int .i64 0, .int .i64 0, .int .i64 0, .int .i64 0, .int .i64 0, .int .i64 0, .slice none 0 0] 35)
     have HBZ := (show Hid (w14.heap.size ≤ u3.heap.size) from HI.out.kept.size)
     have HNE := (show Hid (∀ b, FootL (StAppendResult.rows yW) b → b ≠ u3.heap.size) from fun b hb e => by have := HW.out.2.1.lt b hb; omega)
     replace HI := hid (HI.out.same hk)
     replace HW := hid (Wm HW.out hk)
     generalize u3.alloc (.cells #[.int .i64 0, .int .i64 0, .int .i64 0, .int .i64 0, .int .i64 0, .int .i64 0, .slice none 0 0] 35) = u4 at HI HZ HW ⊢
     generalize u3.heap.size = B at HZ HBZ HNE ⊢
     clear hk
     replace hS := HI.out.s
     refine hK.out _ _ (fun _ => hS) ?_
     clear hK K
     try simp only [Act.put, sA, s0, sS]
     obtain ⟨Lcode, Llsn, ⟨Lss, Lse, Lso, Lsf, ⟨Lte, Lta, Ltc, Ltb⟩⟩⟩ := yW
     dsimp only [StAppendResult.val, StLog.val, BS.v]
     refine wpAnyV_one (i := 6) (by kernel_rfl) rfl (fun K hK => ?_)
     refine st7_any (by rfl) 35 (.tmp 13) (.tmp 79) (by rfl) B (.int .i64 Lcode) (.int .i64 Llsn) (.int .i64 Lss) (.int .i64 Lse) (.int .i64 Lso) (.int .i64 Lsf) (.slice Lta Ltb.length Ltc) HZ.out (by rfl) (by rfl) (by kernel_rfl) (by simp [Value.oneCell']) ?_
     refine hK.out _ _ (fun h => absurd rfl h) ?_
     clear hK K
     refine wpAnyV_done (by kernel_rfl) ?_
     try simp only [Act.put, sA, s0, sS]
     have HZ6 := hid (ARes.put HI.out.kept HZ.out HBZ.out HW.out.1 HW.out.2.1 HW.out.2.2 HNE.out)
     dsimp only at HZ6
     clear hS
     go_wp2_with fail
     go_meet
     case rel => exact HZ6
    ·
     go_simp
     have hk := (Kept.refl (fun _ => False) u2).alloc (.cells #[.int .i64 0, .int .i64 0, .int .i64 0, .int .i64 0, .int .i64 0, .int .i64 0, .slice none 0 0] 35)
     have HZ := hid (Blk.newL u2 [.int .i64 0, .int .i64 0, .int .i64 0, .int .i64 0, .int .i64 0, .int .i64 0, .slice none 0 0] 35)
     have HBZ := (show Hid (w14.heap.size ≤ u2.heap.size) from HI.out.kept.size)
     replace HI := hid (HI.out.same hk)
     replace HC0 := hid (Cm HC0.out hk)
     replace HC1 := hid (Cm HC1.out hk)
     generalize u2.alloc (.cells #[.int .i64 0, .int .i64 0, .int .i64 0, .int .i64 0, .int .i64 0, .int .i64 0, .slice none 0 0] 35) = u5 at HI HZ HC0 HC1 ⊢
     generalize u2.heap.size = B at HZ HBZ ⊢
     clear hk
     replace hS := HI.out.s
     refine hK.out _ _ (fun _ => hS) ?_
     clear hK K
     try simp only [Act.put, sA, s0, sS]
     refine wpAnyV_one (i := 4) (by kernel_rfl) rfl (fun K hK => ?_)
     go_simp
     refine (implApp_any y0 y1 _ (StLog.isB_dat HC0.out.1 HB0.out) (by have := HC0.out.2.1; omega) (StLog.own_rd HC0.out.2.2) (StLogRecord.isB_dat HC1.out.1 HB1.out) (by have := HC1.out.2.1; omega) (StLogRecord.own_rd HC1.out.2.2)).mono ?_
     rintro e u6 ⟨yW, rfl, hd, hf, ho, hk⟩
     rw [HC0.out.1, HC1.out.1] at hd
     have HNE := (show Hid (∀ b, FootL (StAppendResult.rows yW) b → b ≠ B) from fun b hb e => by have h1 := hf b hb; have h2 := HZ.out.lt; omega)
     have HW := (show Hid (yW.dat = appD (StLog.dat ⟨p0ss, p0se, p0so, p0sf, ⟨p0te, p0ta, p0tc, p0tb⟩⟩) (StLogRecord.dat ⟨p1k, p1x, p1v, p1g, p1l, ⟨p1bU, ⟨p1bDe, p1bDa, p1bDc, p1bDb⟩⟩, ⟨p1aU, ⟨p1aDe, p1aDa, p1aDc, p1aDb⟩⟩, p1uN, p1nT, ⟨p1tXe, p1tXa, p1tXn, p1tXc, p1tXb⟩, ⟨p1dYe, p1dYa, p1dYn, p1dYc, p1dYb⟩, ⟨p1iMe, p1iMa, p1iMc, p1iMb⟩⟩) ∧ OwnL u6 yW.rows ∧ ∀ b, FootL yW.rows b → w14.heap.size ≤ b) from ⟨hd, ho, fun b hb => Nat.le_trans HI.out.kept.size (hf b hb)⟩)
     clear hd hf ho HC0 HC1
     replace HI := hid (HI.out.same hk)
     replace HZ := hid (HZ.out.same hk)
     clear hk
     go_wp2_with fail
     replace hS := HI.out.s
     refine hK.out _ _ (fun _ => hS) ?_
     clear hK K
     try simp only [Act.put, sA, s0, sS]
     obtain ⟨Lcode, Llsn, ⟨Lss, Lse, Lso, Lsf, ⟨Lte, Lta, Ltc, Ltb⟩⟩⟩ := yW
     dsimp only [StAppendResult.val, StLog.val, BS.v]
     refine wpAnyV_one (i := 6) (by kernel_rfl) rfl (fun K hK => ?_)
     refine st7_any (by rfl) 35 (.tmp 13) (.tmp 79) (by rfl) B (.int .i64 Lcode) (.int .i64 Llsn) (.int .i64 Lss) (.int .i64 Lse) (.int .i64 Lso) (.int .i64 Lsf) (.slice Lta Ltb.length Ltc) HZ.out (by rfl) (by rfl) (by kernel_rfl) (by simp [Value.oneCell']) ?_
     refine hK.out _ _ (fun h => absurd rfl h) ?_
     clear hK K
     refine wpAnyV_done (by kernel_rfl) ?_
     try simp only [Act.put, sA, s0, sS]
     have HZ6 := hid (ARes.put HI.out.kept HZ.out HBZ.out HW.out.1 HW.out.2.1 HW.out.2.2 HNE.out)
     dsimp only at HZ6
     clear hS
     go_wp2_with fail
     go_meet
     case rel => exact HZ6
   ·
    go_simp
    have hk := (Kept.refl (fun _ => False) u1).alloc (.cells #[.int .i64 0, .int .i64 0, .int .i64 0, .int .i64 0, .int .i64 0, .int .i64 0, .slice none 0 0] 35)
    have HZ := hid (Blk.newL u1 [.int .i64 0, .int .i64 0, .int .i64 0, .int .i64 0, .int .i64 0, .int .i64 0, .slice none 0 0] 35)
    have HBZ := (show Hid (w14.heap.size ≤ u1.heap.size) from HI.out.kept.size)
    replace HI := hid (HI.out.same hk)
    replace HC0 := hid (Cm HC0.out hk)
    generalize u1.alloc (.cells #[.int .i64 0, .int .i64 0, .int .i64 0, .int .i64 0, .int .i64 0, .int .i64 0, .slice none 0 0] 35) = u7 at HI HZ HC0 ⊢
    generalize u1.heap.size = B at HZ HBZ ⊢
    clear hk
    replace hS := HI.out.s
    refine hK.out _ _ (fun _ => hS) ?_
    clear hK K
    try simp only [Act.put, sA, s0, sS]
    refine wpAnyV_one (i := 3) (by kernel_rfl) rfl (fun K hK => ?_)
    go_simp
    refine (toLogRecord_any ⟨p1k, p1x, p1v, p1g, p1l, ⟨p1bU, ⟨p1bDe, p1bDa, p1bDc, p1bDb⟩⟩, ⟨p1aU, ⟨p1aDe, p1aDa, p1aDc, p1aDb⟩⟩, p1uN, p1nT, ⟨p1tXe, p1tXa, p1tXn, p1tXc, p1tXb⟩, ⟨p1dYe, p1dYa, p1dYn, p1dYc, p1dYb⟩, ⟨p1iMe, p1iMa, p1iMc, p1iMb⟩⟩ _ (by omega) (HV1.out.same (HKw14.out.trans HI.out.kept))).mono ?_
    rintro e u8 ⟨y1, rfl, hd, hz, hf, ho, hk⟩
    have HC1 := (show Hid (y1.dat = StLogRecord.dat ⟨p1k, p1x, p1v, p1g, p1l, ⟨p1bU, ⟨p1bDe, p1bDa, p1bDc, p1bDb⟩⟩, ⟨p1aU, ⟨p1aDe, p1aDa, p1aDc, p1aDb⟩⟩, p1uN, p1nT, ⟨p1tXe, p1tXa, p1tXn, p1tXc, p1tXb⟩, ⟨p1dYe, p1dYa, p1dYn, p1dYc, p1dYb⟩, ⟨p1iMe, p1iMa, p1iMc, p1iMb⟩⟩ ∧ y1.szs = StLogRecord.szs ⟨p1k, p1x, p1v, p1g, p1l, ⟨p1bU, ⟨p1bDe, p1bDa, p1bDc, p1bDb⟩⟩, ⟨p1aU, ⟨p1aDe, p1aDa, p1aDc, p1aDb⟩⟩, p1uN, p1nT, ⟨p1tXe, p1tXa, p1tXn, p1tXc, p1tXb⟩, ⟨p1dYe, p1dYa, p1dYn, p1dYc, p1dYb⟩, ⟨p1iMe, p1iMa, p1iMc, p1iMb⟩⟩ ∧ OwnL u8 y1.rows) from ⟨hd, hz, ho⟩)
    clear hd hz hf ho
    replace HI := hid (HI.out.same hk)
    replace HC0 := hid (Cm HC0.out hk)
    replace HZ := hid (HZ.out.same hk)
    clear hk
    go_wp2_with fail
    replace hS := HI.out.s
    refine hK.out _ _ (fun _ => hS) ?_
    clear hK K
    try simp only [Act.put, sA, s0, sS]
    refine wpAnyV_one (i := 4) (by kernel_rfl) rfl (fun K hK => ?_)
    go_simp
    refine (implApp_any y0 y1 _ (StLog.isB_dat HC0.out.1 HB0.out) (by have := HC0.out.2.1; omega) (StLog.own_rd HC0.out.2.2) (StLogRecord.isB_dat HC1.out.1 HB1.out) (by have := HC1.out.2.1; omega) (StLogRecord.own_rd HC1.out.2.2)).mono ?_
    rintro e u9 ⟨yW, rfl, hd, hf, ho, hk⟩
    rw [HC0.out.1, HC1.out.1] at hd
    have HNE := (show Hid (∀ b, FootL (StAppendResult.rows yW) b → b ≠ B) from fun b hb e => by have h1 := hf b hb; have h2 := HZ.out.lt; omega)
    have HW := (show Hid (yW.dat = appD (StLog.dat ⟨p0ss, p0se, p0so, p0sf, ⟨p0te, p0ta, p0tc, p0tb⟩⟩) (StLogRecord.dat ⟨p1k, p1x, p1v, p1g, p1l, ⟨p1bU, ⟨p1bDe, p1bDa, p1bDc, p1bDb⟩⟩, ⟨p1aU, ⟨p1aDe, p1aDa, p1aDc, p1aDb⟩⟩, p1uN, p1nT, ⟨p1tXe, p1tXa, p1tXn, p1tXc, p1tXb⟩, ⟨p1dYe, p1dYa, p1dYn, p1dYc, p1dYb⟩, ⟨p1iMe, p1iMa, p1iMc, p1iMb⟩⟩) ∧ OwnL u9 yW.rows ∧ ∀ b, FootL yW.rows b → w14.heap.size ≤ b) from ⟨hd, ho, fun b hb => Nat.le_trans HI.out.kept.size (hf b hb)⟩)
    clear hd hf ho HC0 HC1
    replace HI := hid (HI.out.same hk)
    replace HZ := hid (HZ.out.same hk)
    clear hk
    go_wp2_with fail
    replace hS := HI.out.s
    refine hK.out _ _ (fun _ => hS) ?_
    clear hK K
    try simp only [Act.put, sA, s0, sS]
    obtain ⟨Lcode, Llsn, ⟨Lss, Lse, Lso, Lsf, ⟨Lte, Lta, Ltc, Ltb⟩⟩⟩ := yW
    dsimp only [StAppendResult.val, StLog.val, BS.v]
    refine wpAnyV_one (i := 6) (by kernel_rfl) rfl (fun K hK => ?_)
    refine st7_any (by rfl) 35 (.tmp 13) (.tmp 79) (by rfl) B (.int .i64 Lcode) (.int .i64 Llsn) (.int .i64 Lss) (.int .i64 Lse) (.int .i64 Lso) (.int .i64 Lsf) (.slice Lta Ltb.length Ltc) HZ.out (by rfl) (by rfl) (by kernel_rfl) (by simp [Value.oneCell']) ?_
    refine hK.out _ _ (fun h => absurd rfl h) ?_
    clear hK K
    refine wpAnyV_done (by kernel_rfl) ?_
    try simp only [Act.put, sA, s0, sS]
    have HZ6 := hid (ARes.put HI.out.kept HZ.out HBZ.out HW.out.1 HW.out.2.1 HW.out.2.2 HNE.out)
    dsimp only at HZ6
    clear hS
    go_wp2_with fail
    go_meet
    case rel => exact HZ6
  ·
   go_simp
   have hk := (Kept.refl (fun _ => False) u0).alloc (.cells #[.int .i64 0, .int .i64 0, .int .i64 0, .int .i64 0, .int .i64 0, .int .i64 0, .slice none 0 0] 35)
   have HZ := hid (Blk.newL u0 [.int .i64 0, .int .i64 0, .int .i64 0, .int .i64 0, .int .i64 0, .int .i64 0, .slice none 0 0] 35)
   have HBZ := (show Hid (w14.heap.size ≤ u0.heap.size) from HI.out.kept.size)
   replace HI := hid (HI.out.same hk)
   generalize u0.alloc (.cells #[.int .i64 0, .int .i64 0, .int .i64 0, .int .i64 0, .int .i64 0, .int .i64 0, .slice none 0 0] 35) = u10 at HI HZ  ⊢
   generalize u0.heap.size = B at HZ HBZ ⊢
   clear hk
   replace hS := HI.out.s
   refine hK.out _ _ (fun _ => hS) ?_
   clear hK K
   try simp only [Act.put, sA, s0, sS]
   refine wpAnyV_one (i := 1) (by kernel_rfl) rfl (fun K hK => ?_)
   go_simp
   refine (toLog_any ⟨p0ss, p0se, p0so, p0sf, ⟨p0te, p0ta, p0tc, p0tb⟩⟩ _ (by omega) (HV0.out.same (HKw14.out.trans HI.out.kept))).mono ?_
   rintro e u11 ⟨y0, rfl, hd, hz, hf, ho, hk⟩
   have HC0 := (show Hid (y0.dat = StLog.dat ⟨p0ss, p0se, p0so, p0sf, ⟨p0te, p0ta, p0tc, p0tb⟩⟩ ∧ y0.szs = StLog.szs ⟨p0ss, p0se, p0so, p0sf, ⟨p0te, p0ta, p0tc, p0tb⟩⟩ ∧ OwnL u11 y0.rows) from ⟨hd, hz, ho⟩)
   clear hd hz hf ho
   replace HI := hid (HI.out.same hk)
   replace HZ := hid (HZ.out.same hk)
   clear hk
   go_wp2_with fail
   replace hS := HI.out.s
   refine hK.out _ _ (fun _ => hS) ?_
   clear hK K
   try simp only [Act.put, sA, s0, sS]
   refine wpAnyV_one (i := 3) (by kernel_rfl) rfl (fun K hK => ?_)
   go_simp
   refine (toLogRecord_any ⟨p1k, p1x, p1v, p1g, p1l, ⟨p1bU, ⟨p1bDe, p1bDa, p1bDc, p1bDb⟩⟩, ⟨p1aU, ⟨p1aDe, p1aDa, p1aDc, p1aDb⟩⟩, p1uN, p1nT, ⟨p1tXe, p1tXa, p1tXn, p1tXc, p1tXb⟩, ⟨p1dYe, p1dYa, p1dYn, p1dYc, p1dYb⟩, ⟨p1iMe, p1iMa, p1iMc, p1iMb⟩⟩ _ (by omega) (HV1.out.same (HKw14.out.trans HI.out.kept))).mono ?_
   rintro e u12 ⟨y1, rfl, hd, hz, hf, ho, hk⟩
   have HC1 := (show Hid (y1.dat = StLogRecord.dat ⟨p1k, p1x, p1v, p1g, p1l, ⟨p1bU, ⟨p1bDe, p1bDa, p1bDc, p1bDb⟩⟩, ⟨p1aU, ⟨p1aDe, p1aDa, p1aDc, p1aDb⟩⟩, p1uN, p1nT, ⟨p1tXe, p1tXa, p1tXn, p1tXc, p1tXb⟩, ⟨p1dYe, p1dYa, p1dYn, p1dYc, p1dYb⟩, ⟨p1iMe, p1iMa, p1iMc, p1iMb⟩⟩ ∧ y1.szs = StLogRecord.szs ⟨p1k, p1x, p1v, p1g, p1l, ⟨p1bU, ⟨p1bDe, p1bDa, p1bDc, p1bDb⟩⟩, ⟨p1aU, ⟨p1aDe, p1aDa, p1aDc, p1aDb⟩⟩, p1uN, p1nT, ⟨p1tXe, p1tXa, p1tXn, p1tXc, p1tXb⟩, ⟨p1dYe, p1dYa, p1dYn, p1dYc, p1dYb⟩, ⟨p1iMe, p1iMa, p1iMc, p1iMb⟩⟩ ∧ OwnL u12 y1.rows) from ⟨hd, hz, ho⟩)
   clear hd hz hf ho
   replace HI := hid (HI.out.same hk)
   replace HC0 := hid (Cm HC0.out hk)
   replace HZ := hid (HZ.out.same hk)
   clear hk
   go_wp2_with fail
   replace hS := HI.out.s
   refine hK.out _ _ (fun _ => hS) ?_
   clear hK K
   try simp only [Act.put, sA, s0, sS]
   refine wpAnyV_one (i := 4) (by kernel_rfl) rfl (fun K hK => ?_)
   go_simp
   refine (implApp_any y0 y1 _ (StLog.isB_dat HC0.out.1 HB0.out) (by have := HC0.out.2.1; omega) (StLog.own_rd HC0.out.2.2) (StLogRecord.isB_dat HC1.out.1 HB1.out) (by have := HC1.out.2.1; omega) (StLogRecord.own_rd HC1.out.2.2)).mono ?_
   rintro e u13 ⟨yW, rfl, hd, hf, ho, hk⟩
   rw [HC0.out.1, HC1.out.1] at hd
   have HNE := (show Hid (∀ b, FootL (StAppendResult.rows yW) b → b ≠ B) from fun b hb e => by have h1 := hf b hb; have h2 := HZ.out.lt; omega)
   have HW := (show Hid (yW.dat = appD (StLog.dat ⟨p0ss, p0se, p0so, p0sf, ⟨p0te, p0ta, p0tc, p0tb⟩⟩) (StLogRecord.dat ⟨p1k, p1x, p1v, p1g, p1l, ⟨p1bU, ⟨p1bDe, p1bDa, p1bDc, p1bDb⟩⟩, ⟨p1aU, ⟨p1aDe, p1aDa, p1aDc, p1aDb⟩⟩, p1uN, p1nT, ⟨p1tXe, p1tXa, p1tXn, p1tXc, p1tXb⟩, ⟨p1dYe, p1dYa, p1dYn, p1dYc, p1dYb⟩, ⟨p1iMe, p1iMa, p1iMc, p1iMb⟩⟩) ∧ OwnL u13 yW.rows ∧ ∀ b, FootL yW.rows b → w14.heap.size ≤ b) from ⟨hd, ho, fun b hb => Nat.le_trans HI.out.kept.size (hf b hb)⟩)
   clear hd hf ho HC0 HC1
   replace HI := hid (HI.out.same hk)
   replace HZ := hid (HZ.out.same hk)
   clear hk
   go_wp2_with fail
   replace hS := HI.out.s
   refine hK.out _ _ (fun _ => hS) ?_
   clear hK K
   try simp only [Act.put, sA, s0, sS]
   obtain ⟨Lcode, Llsn, ⟨Lss, Lse, Lso, Lsf, ⟨Lte, Lta, Ltc, Ltb⟩⟩⟩ := yW
   dsimp only [StAppendResult.val, StLog.val, BS.v]
   refine wpAnyV_one (i := 6) (by kernel_rfl) rfl (fun K hK => ?_)
   refine st7_any (by rfl) 35 (.tmp 13) (.tmp 79) (by rfl) B (.int .i64 Lcode) (.int .i64 Llsn) (.int .i64 Lss) (.int .i64 Lse) (.int .i64 Lso) (.int .i64 Lsf) (.slice Lta Ltb.length Ltc) HZ.out (by rfl) (by rfl) (by kernel_rfl) (by simp [Value.oneCell']) ?_
   refine hK.out _ _ (fun h => absurd rfl h) ?_
   clear hK K
   refine wpAnyV_done (by kernel_rfl) ?_
   try simp only [Act.put, sA, s0, sS]
   have HZ6 := hid (ARes.put HI.out.kept HZ.out HBZ.out HW.out.1 HW.out.2.1 HW.out.2.2 HNE.out)
   dsimp only at HZ6
   clear hS
   go_wp2_with fail
   go_meet
   case rel => exact HZ6
 case rest =>
 obtain ⟨w15, hwc⟩ : ∃ x, x = wc := ⟨_, rfl⟩
 subst hwc
 obtain ⟨⟨Lcode, Llsn, ⟨Lss, Lse, Lso, Lsf, ⟨Lte, Lta, Ltc, Ltb⟩⟩⟩, BL, rfl, hBaL, hBbL, hb, hd, hf, ho, hk⟩ := hcut.out
 clear hcut
 have hnL : StAppendResult.size ⟨Lcode, Llsn, ⟨Lss, Lse, Lso, Lsf, ⟨Lte, Lta, Ltc, Ltb⟩⟩⟩ ≤ 1099511627776 := appD_small hd hsz0
 have hnL0 := StAppendResult.size_le ⟨Lcode, Llsn, ⟨Lss, Lse, Lso, Lsf, ⟨Lte, Lta, Ltc, Ltb⟩⟩⟩
 have HDL := (show Hid (StAppendResult.dat ⟨Lcode, Llsn, ⟨Lss, Lse, Lso, Lsf, ⟨Lte, Lta, Ltc, Ltb⟩⟩⟩ = appD (StLog.dat ⟨p0ss, p0se, p0so, p0sf, ⟨p0te, p0ta, p0tc, p0tb⟩⟩) (StLogRecord.dat ⟨p1k, p1x, p1v, p1g, p1l, ⟨p1bU, ⟨p1bDe, p1bDa, p1bDc, p1bDb⟩⟩, ⟨p1aU, ⟨p1aDe, p1aDa, p1aDc, p1aDb⟩⟩, p1uN, p1nT, ⟨p1tXe, p1tXa, p1tXn, p1tXc, p1tXb⟩, ⟨p1dYe, p1dYa, p1dYn, p1dYc, p1dYb⟩, ⟨p1iMe, p1iMa, p1iMc, p1iMb⟩⟩)) from hd)
 have HFL := (show Hid (∀ b, FootL (StAppendResult.rows ⟨Lcode, Llsn, ⟨Lss, Lse, Lso, Lsf, ⟨Lte, Lta, Ltc, Ltb⟩⟩⟩) b → (w14.heap.size ≤ b ∧ b < w15.heap.size) ∧ b ≠ BL) from fun b hb => ⟨⟨(hf b hb).1, ho.lt b hb⟩, (hf b hb).2⟩)
 have HLw15 := (show Hid (OwnL w15 (StAppendResult.rows ⟨Lcode, Llsn, ⟨Lss, Lse, Lso, Lsf, ⟨Lte, Lta, Ltc, Ltb⟩⟩⟩)) from ho)
 have HVw15 := (show Hid (Blk w15 (BL) 35 [.int .i64 Lcode, .int .i64 Llsn, .int .i64 Lss, .int .i64 Lse, .int .i64 Lso, .int .i64 Lsf, .slice Lta Ltb.length Ltc]) from hb)
 clear hd hf ho hb
 have hkk : Same w14 w15 := hk
 have hzw15 := hkk.size
 have HA0w15 := hid (HA0w14.out.same hkk)
 have HA1w15 := hid (HA1w14.out.same hkk)
 have HWw15 := hid (HWw14.out.same hkk)
 have HZw15 := hid (HZw14.out.same hkk)
 have HYw15 := hid (HYw14.out.same hkk)
 have HUw15 := hid (HUw14.out.same hkk)
 have HKw15 := hid (HKw14.out.trans hkk)
 clear hkk hk
 have cA0_0 := HA0w15.out.c0
 have cA0_1 := HA0w15.out.c1
 have cA0_2 := HA0w15.out.c2
 have cA0_3 := HA0w15.out.c3
 have cA0_4 := HA0w15.out.c4
 have lA0 := HA0w15.out.lt
 obtain ⟨cA1_0, cA1_1, cA1_2, cA1_3, cA1_4, cA1_5, cA1_6, cA1_7, cA1_8, cA1_9, cA1_10, cA1_11, cA1_12, cA1_13⟩ := HA1w15.out.all14
 have lA1 := HA1w15.out.lt
 have cZ_0 := HZw15.out.c0
 have cZ_1 := HZw15.out.c1
 have cZ_2 := HZw15.out.c2
 have cZ_3 := HZw15.out.c3
 have cZ_4 := HZw15.out.c4
 have cZ_5 := HZw15.out.c5
 have cZ_6 := HZw15.out.c6
 have lZ := HZw15.out.lt
 have cY_0 := HYw15.out.c0
 have cY_1 := HYw15.out.c1
 have cY_2 := HYw15.out.c2
 have cY_3 := HYw15.out.c3
 have cY_4 := HYw15.out.c4
 have cY_5 := HYw15.out.c5
 have cY_6 := HYw15.out.c6
 have lY := HYw15.out.lt
 have cV_0 := HVw15.out.c0
 have cV_1 := HVw15.out.c1
 have cV_2 := HVw15.out.c2
 have cV_3 := HVw15.out.c3
 have cV_4 := HVw15.out.c4
 have cV_5 := HVw15.out.c5
 have cV_6 := HVw15.out.c6
 have lV := HVw15.out.lt
 go_wp2_with fail
 refine (eqAppendResult_own ⟨Lcode, Llsn, ⟨Lss, Lse, Lso, Lsf, ⟨Lte, Lta, Ltc, Ltb⟩⟩⟩ ⟨Wcode, Wlsn, ⟨Wss, Wse, Wso, Wsf, ⟨Wte, Wta, Wtc, Wtb⟩⟩⟩ _ (by omega) (HDL.out.trans HDW.out.symm) HLw15.out HWw15.out).mono ?_
 rintro e w16 ⟨rfl, hk⟩
 have hkk : Same w15 w16 := hk
 have hzw16 := hkk.size
 have HA0w16 := hid (HA0w15.out.same hkk)
 have HA1w16 := hid (HA1w15.out.same hkk)
 have HWw16 := hid (HWw15.out.same hkk)
 have HZw16 := hid (HZw15.out.same hkk)
 have HYw16 := hid (HYw15.out.same hkk)
 have HUw16 := hid (HUw15.out.same hkk)
 have HLw16 := hid (HLw15.out.same hkk)
 have HVw16 := hid (HVw15.out.same hkk)
 have HKw16 := hid (HKw15.out.trans hkk)
 clear hkk hk
 clear cA0_0 cA0_1 cA0_2 cA0_3 cA0_4 lA0 cA1_0 cA1_1 cA1_2 cA1_3 cA1_4 cA1_5 cA1_6 cA1_7 cA1_8 cA1_9 cA1_10 cA1_11 cA1_12 cA1_13 lA1 cZ_0 cZ_1 cZ_2 cZ_3 cZ_4 cZ_5 cZ_6 lZ cY_0 cY_1 cY_2 cY_3 cY_4 cY_5 cY_6 lY cV_0 cV_1 cV_2 cV_3 cV_4 cV_5 cV_6 lV
 as_aux_lemma =>
 have cA0_0 := HA0w16.out.c0
 have cA0_1 := HA0w16.out.c1
 have cA0_2 := HA0w16.out.c2
 have cA0_3 := HA0w16.out.c3
 have cA0_4 := HA0w16.out.c4
 have lA0 := HA0w16.out.lt
 obtain ⟨cA1_0, cA1_1, cA1_2, cA1_3, cA1_4, cA1_5, cA1_6, cA1_7, cA1_8, cA1_9, cA1_10, cA1_11, cA1_12, cA1_13⟩ := HA1w16.out.all14
 have lA1 := HA1w16.out.lt
 have cY_0 := HYw16.out.c0
 have cY_1 := HYw16.out.c1
 have cY_2 := HYw16.out.c2
 have cY_3 := HYw16.out.c3
 have cY_4 := HYw16.out.c4
 have cY_5 := HYw16.out.c5
 have cY_6 := HYw16.out.c6
 have lY := HYw16.out.lt
 go_wp2_with fail
 have hm := heldAppendResult_own ⟨Gcode, Glsn, ⟨Gss, Gse, Gso, Gsf, ⟨Gte, Gta, Gtc, Gtb⟩⟩⟩ 1 w16 (by omega) (by rw [HM.out]; omega) HUw16.out
 rw [HM.out] at hm
 dsimp only [StAppendResult.val, StLog.val, BS.v] at hm
 refine hm.mono ?_
 clear hm
 rintro e w17 ⟨rfl, hk⟩
 have hkk : Same w16 w17 := hk
 have hzw17 := hkk.size
 have HA0w17 := hid (HA0w16.out.same hkk)
 have HA1w17 := hid (HA1w16.out.same hkk)
 have HYw17 := hid (HYw16.out.same hkk)
 have HUw17 := hid (HUw16.out.same hkk)
 have HKw17 := hid (HKw16.out.trans hkk)
 clear hkk hk
 clear cA0_0 cA0_1 cA0_2 cA0_3 cA0_4 lA0 cA1_0 cA1_1 cA1_2 cA1_3 cA1_4 cA1_5 cA1_6 cA1_7 cA1_8 cA1_9 cA1_10 cA1_11 cA1_12 cA1_13 lA1 cY_0 cY_1 cY_2 cY_3 cY_4 cY_5 cY_6 lY
 go_wp2
 go_ret
 exact ⟨rfl, HKw17.out⟩
end Go.Proofs.YtkdohacgkjpopaaGreat
