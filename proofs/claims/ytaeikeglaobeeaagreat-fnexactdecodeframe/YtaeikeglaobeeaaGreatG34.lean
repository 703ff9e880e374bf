import Derived.Test.YtaeikeglaobeeaaGreatG33
import Derived.Test.YtaeikeglaobeeaaGreatG08
import Derived.Test.YtaeikeglaobeeaaGreatG00
import Derived.Deep.MidRow
import Derived.Deep.DeepCutAuto
namespace Go.Proofs.YtaeikeglaobeeaaGreat
open Go.RowKit
set_option linter.unusedVariables false
def StFrameResult.cells (x : StFrameResult) : List Value := [.int .i64 x.code, .int .i64 x.fsz, .int .i64 x.epoch, .int .i64 x.record.kind, .int .i64 x.record.txn, .int .i64 x.record.prev, .int .i64 x.record.page, .int .i64 x.record.slot, .bool x.record.before.used, x.record.before.data.v, .bool x.record.after.used, x.record.after.data.v, .int .i64 x.record.uN, .int .i64 x.record.nT, x.record.txns.v, x.record.dirty.v, x.record.image.v]
theorem StFrameResult.val_cells (x : StFrameResult) : x.val = .agg (StFrameResult.cells x).toArray := rfl
theorem StFrameResult.cells_one (x : StFrameResult) : (StFrameResult.cells x).toArray.all (·.oneCell') = true := all_oneCell_toArray (fun v hv => by
  simp only [StFrameResult.cells, List.mem_cons, List.not_mem_nil, or_false] at hv
  rcases hv with rfl | rfl | rfl | rfl | rfl | rfl | rfl | rfl | rfl | rfl | rfl | rfl | rfl | rfl | rfl | rfl | rfl <;> rfl)
theorem box_new (w : World) (zs : Array Value) (cs : List Value) (t : TypeId) (h : zs.size = cs.length) : Blk ((w.alloc (.cells zs t)).setCells w.heap.size 0 cs) w.heap.size t cs ∧ Same w ((w.alloc (.cells zs t)).setCells w.heap.size 0 cs) := by
  refine ⟨?_, Kept.setCells (.inl (Nat.le_refl _)) _ _ ((Kept.refl _ _).alloc _)⟩
  · have h1 := (Blk.new w zs t).setCells cs 0 (by simp [h])
    rwa [lay_all _ _ (by simp [h])] at h1
set_option maxRecDepth 100000 in
set_option maxHeartbeats 16000000 in
theorem decodeFrame_law (v0 : Value) (bs0 : List Int) (s1 : Int) (s2 : Int) (s3 : Int) (w : World) (hv0 : Rd .u8 w v0 bs0) (hB0 : IsB bs0) (hB1 : IsI s1) :
    Calls Tryz.prog 4 #[v0, .int .i64 s1, .int .i64 s2, .int .i64 s3] w fun e w' => e = .returned (.bool true) ∧ Same w w' := by
  obtain ⟨a0a, c0a, rfl⟩ := hv0.form
  have hm0 := hv0.1
  unfold maxLen at hm0
  have HB0 := (show Hid (IsB bs0) from hB0)
  clear hB0
  have HV0 := (show Hid (Rd .u8 w (.slice a0a bs0.length c0a) bs0) from hv0)
  clear hv0
  have HB1 := (show Hid (IsI s1) from hB1)
  clear hB1
  go_enter Tryz.func4, Tryz.ntmps4
  have HKw : Hid (Same w w) := Kept.refl _ _
  by_cases hb0 : (1048576 : Int) < (bs0.length : Int)
  · go_wp2
    go_ret
    exact ⟨rfl, Kept.refl _ _⟩
  as_aux_lemma =>
  go_wp2_with fail
  refine (toByteS_any _ bs0 _ (by omega) (HV0.out.same HKw.out)).mono ?_
  rintro e w1 ⟨gC, rfl, hf, ho, hk⟩
  have HFC := (show Hid (∀ b, (Value.slice (some ⟨gC, 0, none⟩) bs0.length bs0.length).ownBlock = some b → w.heap.size ≤ b ∧ b < w1.heap.size) from fun b hb => ⟨by rw [← (Option.some.inj hb : gC = b)]; exact hf, (ho.lt b hb).2⟩)
  have hzw1 := hk.size
  have HKw1 := (show Hid (Same w w1) from HKw.out.trans hk)
  clear HKw
  have HCw1 := (show Hid (Own 0 5 .u8 w1 (.slice (some ⟨gC, 0, none⟩) bs0.length bs0.length) bs0) from ho)
  clear hf ho hk
  as_aux_lemma =>
  go_wp2_with fail
  refine (specFrL _ bs0 s1 s2 s3 _ HB0.out (by omega) (HCw1.out.rd) HB1.out).mono ?_
  rintro e w2 ⟨yW, rfl, hd, hf, ho, hk⟩
  have hnW : yW.size ≤ 1099511627776 := decF_small HB0.out hd
  have hnW0 := StFrameResult.size_le yW
  have HDW := (show Hid (yW.dat = decF bs0 s1 s2 s3) from hd)
  have HFW := (show Hid (∀ b, FootL yW.rows b → w1.heap.size ≤ b ∧ b < w2.heap.size) from fun b hb => ⟨hf b hb, ho.lt b hb⟩)
  have hzw2 := hk.size
  have HCw2 := (show Hid (Own 0 5 .u8 w2 (.slice (some ⟨gC, 0, none⟩) bs0.length bs0.length) bs0) from HCw1.out.same hk)
  have HKw2 := (show Hid (Same w w2) from HKw1.out.trans hk)
  clear HCw1 HKw1
  have HWw2 := (show Hid (OwnL w2 yW.rows) from ho)
  clear hd hf ho hk
  obtain ⟨cW, HCW⟩ : ∃ cs, Hid (StFrameResult.cells yW = cs) := ⟨_, rfl⟩
  have HNcW : Hid (cW.length = 17) := by unfold Hid; rw [← HCW.out]; rfl
  have HOW : Hid (cW.toArray.all (·.oneCell') = true) := by unfold Hid; rw [← HCW.out]; exact StFrameResult.cells_one _
  have hvW : yW.val = .agg cW.toArray := by rw [← HCW.out]; rfl
  rw [hvW]
  clear hvW
  go_upto_region 4 with (first | (refine wpList_store_mid rfl 39 _ _ rfl w2.heap.size 0 cW.toArray rfl rfl ((Blk.new w2 _ _).there 0 _ (by rw [List.size_toArray, HNcW.out]; decide)) (by rw [List.size_toArray, HNcW.out]; kernel_rfl) HOW.out ?_; rw [List.toList_toArray]))
  generalize hW : World.setCells _ w2.heap.size 0 cW = w3
  have hbx : Blk w3 w2.heap.size 39 cW ∧ Same w2 w3 := by rw [← hW]; exact box_new w2 _ cW _ (by rw [HNcW.out]; rfl)
  obtain ⟨hb, hk⟩ := hbx
  have hzw3 := hb.lt
  clear hW
  have HCw3 := (show Hid (Own 0 5 .u8 w3 (.slice (some ⟨gC, 0, none⟩) bs0.length bs0.length) bs0) from HCw2.out.same hk)
  have HWw3 := (show Hid (OwnL w3 yW.rows) from HWw2.out.same hk)
  have HKw3 := (show Hid (Same w w3) from HKw2.out.trans hk)
  clear HCw2 HWw2 HKw2
  have HBWw3 := (show Hid (Blk w3 w2.heap.size 39 cW) from hb)
  clear hb hk
  as_aux_lemma =>
  go_wp2_with (first | (refine wpList_load_mid rfl 39 _ rfl w2.heap.size 0 rfl cW _ HBWw3.out.rangeAll Tryz.underlying39 rfl (by rw [HNcW.out]; kernel_rfl) ?_))
  refine (toByteS_any _ bs0 _ (by omega) (HV0.out.same HKw3.out)).mono ?_
  rintro e w4 ⟨gX, rfl, hf, ho, hk⟩
  have HFX := (show Hid (∀ b, (Value.slice (some ⟨gX, 0, none⟩) bs0.length bs0.length).ownBlock = some b → w3.heap.size ≤ b ∧ b < w4.heap.size) from fun b hb => ⟨by rw [← (Option.some.inj hb : gX = b)]; exact hf, (ho.lt b hb).2⟩)
  have hzw4 := hk.size
  have HWw4 := (show Hid (OwnL w4 yW.rows) from HWw3.out.same hk)
  have HBWw4 := (show Hid (Blk w4 w2.heap.size 39 cW) from HBWw3.out.same hk)
  have HKw4 := (show Hid (Same w w4) from HKw3.out.trans hk)
  clear HWw3 HBWw3 HKw3
  have HXw4 := (show Hid (Own 0 5 .u8 w4 (.slice (some ⟨gX, 0, none⟩) bs0.length bs0.length) bs0) from ho)
  clear hf ho hk
  as_aux_lemma =>
  go_wp2_with (first | (refine wpList_load_mid rfl 39 _ rfl w2.heap.size 0 rfl cW _ HBWw4.out.rangeAll Tryz.underlying39 rfl (by rw [HNcW.out]; kernel_rfl) ?_))
  refine (implFrL _ bs0 s1 s2 s3 _ HB0.out (by omega) (HXw4.out.rd) HB1.out).mono ?_
  rintro e w5 ⟨yG, rfl, hd, hf, ho, hk⟩
  have hnG : yG.size ≤ 1099511627776 := decF_small HB0.out hd
  have hnG0 := StFrameResult.size_le yG
  have HDG := (show Hid (yG.dat = decF bs0 s1 s2 s3) from hd)
  have HFG := (show Hid (∀ b, FootL yG.rows b → w4.heap.size ≤ b ∧ b < w5.heap.size) from fun b hb => ⟨hf b hb, ho.lt b hb⟩)
  have hzw5 := hk.size
  have HWw5 := (show Hid (OwnL w5 yW.rows) from HWw4.out.same hk)
  have HBWw5 := (show Hid (Blk w5 w2.heap.size 39 cW) from HBWw4.out.same hk)
  have HXw5 := (show Hid (Own 0 5 .u8 w5 (.slice (some ⟨gX, 0, none⟩) bs0.length bs0.length) bs0) from HXw4.out.same hk)
  have HKw5 := (show Hid (Same w w5) from HKw4.out.trans hk)
  clear HWw4 HBWw4 HXw4 HKw4
  have HGw5 := (show Hid (OwnL w5 yG.rows) from ho)
  clear hd hf ho hk
  obtain ⟨cG, HCG⟩ : ∃ cs, Hid (StFrameResult.cells yG = cs) := ⟨_, rfl⟩
  have HNcG : Hid (cG.length = 17) := by unfold Hid; rw [← HCG.out]; rfl
  have HOG : Hid (cG.toArray.all (·.oneCell') = true) := by unfold Hid; rw [← HCG.out]; exact StFrameResult.cells_one _
  have hvG : yG.val = .agg cG.toArray := by rw [← HCG.out]; rfl
  rw [hvG]
  clear hvG
  go_upto_region 6 with (first | (refine wpList_store_mid rfl 39 _ _ rfl w5.heap.size 0 cG.toArray rfl rfl ((Blk.new w5 _ _).there 0 _ (by rw [List.size_toArray, HNcG.out]; decide)) (by rw [List.size_toArray, HNcG.out]; kernel_rfl) HOG.out ?_; rw [List.toList_toArray]))
  generalize hW : World.setCells _ w5.heap.size 0 cG = w6
  have hbx : Blk w6 w5.heap.size 39 cG ∧ Same w5 w6 := by rw [← hW]; exact box_new w5 _ cG _ (by rw [HNcG.out]; rfl)
  obtain ⟨hb, hk⟩ := hbx
  have hzw6 := hb.lt
  clear hW
  have HWw6 := (show Hid (OwnL w6 yW.rows) from HWw5.out.same hk)
  have HBWw6 := (show Hid (Blk w6 w2.heap.size 39 cW) from HBWw5.out.same hk)
  have HXw6 := (show Hid (Own 0 5 .u8 w6 (.slice (some ⟨gX, 0, none⟩) bs0.length bs0.length) bs0) from HXw5.out.same hk)
  have HGw6 := (show Hid (OwnL w6 yG.rows) from HGw5.out.same hk)
  have HKw6 := (show Hid (Same w w6) from HKw5.out.trans hk)
  clear HWw5 HBWw5 HXw5 HGw5 HKw5
  have HBGw6 := (show Hid (Blk w6 w5.heap.size 39 cG) from hb)
  clear hb hk
  as_aux_lemma =>
  go_wp2_with (first | (refine wpList_load_mid rfl 39 _ rfl w2.heap.size 0 rfl cW _ HBWw6.out.rangeAll Tryz.underlying39 rfl (by rw [HNcW.out]; kernel_rfl) ?_) | (refine wpList_load_mid rfl 39 _ rfl w5.heap.size 0 rfl cG _ HBGw6.out.rangeAll Tryz.underlying39 rfl (by rw [HNcG.out]; kernel_rfl) ?_))
  have hq := eqFrameResult_own yG yW w6 (by omega) (HDG.out.trans HDW.out.symm) HGw6.out HWw6.out
  rw [StFrameResult.val_cells, StFrameResult.val_cells, HCG.out, HCW.out] at hq
  refine hq.mono ?_
  clear hq
  rintro e w7 ⟨rfl, hk⟩
  have hzw7 := hk.size
  have HWw7 := (show Hid (OwnL w7 yW.rows) from HWw6.out.same hk)
  have HBWw7 := (show Hid (Blk w7 w2.heap.size 39 cW) from HBWw6.out.same hk)
  have HXw7 := (show Hid (Own 0 5 .u8 w7 (.slice (some ⟨gX, 0, none⟩) bs0.length bs0.length) bs0) from HXw6.out.same hk)
  have HGw7 := (show Hid (OwnL w7 yG.rows) from HGw6.out.same hk)
  have HBGw7 := (show Hid (Blk w7 w5.heap.size 39 cG) from HBGw6.out.same hk)
  have HKw7 := (show Hid (Same w w7) from HKw6.out.trans hk)
  clear HWw6 HBWw6 HXw6 HGw6 HBGw6 HKw6
  clear hk
  as_aux_lemma =>
  go_wp2_with (first | (refine wpList_load_mid rfl 39 _ rfl w2.heap.size 0 rfl cW _ HBWw7.out.rangeAll Tryz.underlying39 rfl (by rw [HNcW.out]; kernel_rfl) ?_) | (refine wpList_load_mid rfl 39 _ rfl w5.heap.size 0 rfl cG _ HBGw7.out.rangeAll Tryz.underlying39 rfl (by rw [HNcG.out]; kernel_rfl) ?_))
  refine (toByteS_any _ bs0 _ (by omega) (HV0.out.same HKw7.out)).mono ?_
  rintro e w8 ⟨gD, rfl, hf, ho, hk⟩
  have HFD := (show Hid (∀ b, (Value.slice (some ⟨gD, 0, none⟩) bs0.length bs0.length).ownBlock = some b → w7.heap.size ≤ b ∧ b < w8.heap.size) from fun b hb => ⟨by rw [← (Option.some.inj hb : gD = b)]; exact hf, (ho.lt b hb).2⟩)
  have hzw8 := hk.size
  have HWw8 := (show Hid (OwnL w8 yW.rows) from HWw7.out.same hk)
  have HBWw8 := (show Hid (Blk w8 w2.heap.size 39 cW) from HBWw7.out.same hk)
  have HXw8 := (show Hid (Own 0 5 .u8 w8 (.slice (some ⟨gX, 0, none⟩) bs0.length bs0.length) bs0) from HXw7.out.same hk)
  have HGw8 := (show Hid (OwnL w8 yG.rows) from HGw7.out.same hk)
  have HBGw8 := (show Hid (Blk w8 w5.heap.size 39 cG) from HBGw7.out.same hk)
  have HKw8 := (show Hid (Same w w8) from HKw7.out.trans hk)
  clear HWw7 HBWw7 HXw7 HGw7 HBGw7 HKw7
  have HDw8 := (show Hid (Own 0 5 .u8 w8 (.slice (some ⟨gD, 0, none⟩) bs0.length bs0.length) bs0) from ho)
  clear hf ho hk
  as_aux_lemma =>
  go_wp2_with (first | (refine wpList_load_mid rfl 39 _ rfl w2.heap.size 0 rfl cW _ HBWw8.out.rangeAll Tryz.underlying39 rfl (by rw [HNcW.out]; kernel_rfl) ?_) | (refine wpList_load_mid rfl 39 _ rfl w5.heap.size 0 rfl cG _ HBGw8.out.rangeAll Tryz.underlying39 rfl (by rw [HNcG.out]; kernel_rfl) ?_))
  refine (eqByteS_own 0 _ _ bs0 _ (by omega) HXw8.out HDw8.out).mono ?_
  rintro e w9 ⟨rfl, nn, hww⟩
  have hk : Same w8 w9 := by rw [hww]; exact (Kept.refl _ _).drewN _
  clear hww
  have hzw9 := hk.size
  have HWw9 := (show Hid (OwnL w9 yW.rows) from HWw8.out.same hk)
  have HBWw9 := (show Hid (Blk w9 w2.heap.size 39 cW) from HBWw8.out.same hk)
  have HXw9 := (show Hid (Own 0 5 .u8 w9 (.slice (some ⟨gX, 0, none⟩) bs0.length bs0.length) bs0) from HXw8.out.same hk)
  have HGw9 := (show Hid (OwnL w9 yG.rows) from HGw8.out.same hk)
  have HBGw9 := (show Hid (Blk w9 w5.heap.size 39 cG) from HBGw8.out.same hk)
  have HDw9 := (show Hid (Own 0 5 .u8 w9 (.slice (some ⟨gD, 0, none⟩) bs0.length bs0.length) bs0) from HDw8.out.same hk)
  have HKw9 := (show Hid (Same w w9) from HKw8.out.trans hk)
  clear HWw8 HBWw8 HXw8 HGw8 HBGw8 HDw8 HKw8
  clear hk
  as_aux_lemma =>
  go_wp2_with (first | (refine wpList_load_mid rfl 39 _ rfl w2.heap.size 0 rfl cW _ HBWw9.out.rangeAll Tryz.underlying39 rfl (by rw [HNcW.out]; kernel_rfl) ?_) | (refine wpList_load_mid rfl 39 _ rfl w5.heap.size 0 rfl cG _ HBGw9.out.rangeAll Tryz.underlying39 rfl (by rw [HNcG.out]; kernel_rfl) ?_))
  refine (markByteS_own 0 _ bs0 1 _ (by omega) (by omega) (by omega) HXw9.out).mono ?_
  rintro e w10 ⟨rfl, _, hk⟩
  obtain ⟨E1, hE⟩ : ∃ E : Int, 1 + (bs0.length : Int) = E := ⟨_, rfl⟩
  have hE1 : 0 ≤ E1 := by omega
  have hEn : ¬ E1 < 0 := by omega
  have HWT : Hid ((some (decide (E1 < 0)) == some false) = true) := by unfold Hid; simp [hEn]
  rw [hE]
  clear hE
  have hzw10 := hk.size
  have HWw10 := (show Hid (OwnL w10 yW.rows) from HWw9.out.kept hk (fun b hb e => by have h1 := HFX.out _ e; have h2 := HFW.out b hb; omega))
  have HBWw10 := (show Hid (Blk w10 w2.heap.size 39 cW) from HBWw9.out.kept hk (fun e => by have h1 := HFX.out _ e; omega))
  have HGw10 := (show Hid (OwnL w10 yG.rows) from HGw9.out.kept hk (fun b hb e => by have h1 := HFX.out _ e; have h2 := HFG.out b hb; omega))
  have HBGw10 := (show Hid (Blk w10 w5.heap.size 39 cG) from HBGw9.out.kept hk (fun e => by have h1 := HFX.out _ e; omega))
  have HKw10 := (show Hid (Same w w10) from HKw9.out.next hk (fun b hb e => by have h1 := HFX.out _ e; omega))
  clear HWw9 HBWw9 HGw9 HBGw9 HKw9
  clear hk
  as_aux_lemma =>
  go_wp2_with (first | (refine BigFrame.wpList_want (by exact HWT.out) (fun K hK => wp_load_mid 39 _ rfl w2.heap.size 0 rfl cW _ HBWw10.out.rangeAll Tryz.underlying39 rfl (by rw [HNcW.out]; kernel_rfl) (hK _ _ ?_))) | (refine BigFrame.wpList_want (by exact HWT.out) (fun K hK => wp_load_mid 39 _ rfl w5.heap.size 0 rfl cG _ HBGw10.out.rangeAll Tryz.underlying39 rfl (by rw [HNcG.out]; kernel_rfl) (hK _ _ ?_))))
  have hq := eqFrameResult_own yG yW w10 (by omega) (HDG.out.trans HDW.out.symm) HGw10.out HWw10.out
  rw [StFrameResult.val_cells, StFrameResult.val_cells, HCG.out, HCW.out] at hq
  refine hq.mono ?_
  clear hq
  rintro e w11 ⟨rfl, hk⟩
  have hzw11 := hk.size
  have HWw11 := (show Hid (OwnL w11 yW.rows) from HWw10.out.same hk)
  have HBWw11 := (show Hid (Blk w11 w2.heap.size 39 cW) from HBWw10.out.same hk)
  have HGw11 := (show Hid (OwnL w11 yG.rows) from HGw10.out.same hk)
  have HBGw11 := (show Hid (Blk w11 w5.heap.size 39 cG) from HBGw10.out.same hk)
  have HKw11 := (show Hid (Same w w11) from HKw10.out.trans hk)
  clear HWw10 HBWw10 HGw10 HBGw10 HKw10
  clear hk
  have hM2 : ¬ (1 + yG.size) < 0 := by omega
  obtain ⟨M, hM⟩ : ∃ M, 1 + yG.size = M := ⟨_, rfl⟩
  have HM := (show Hid (1 + yG.size = M) from hM)
  have hM3 : 0 ≤ M ∧ M ≤ 1125899906842624 := by omega
  rw [hM] at hM2
  clear hM
  as_aux_lemma =>
  go_wp2_with (first | (refine wpList_load_mid rfl 39 _ rfl w2.heap.size 0 rfl cW _ HBWw11.out.rangeAll Tryz.underlying39 rfl (by rw [HNcW.out]; kernel_rfl) ?_) | (refine wpList_load_mid rfl 39 _ rfl w5.heap.size 0 rfl cG _ HBGw11.out.rangeAll Tryz.underlying39 rfl (by rw [HNcG.out]; kernel_rfl) ?_))
  have hm := markFrameResult_own yG 1 w11 (by omega) (by rw [HM.out]; omega) HGw11.out
  rw [HM.out, StFrameResult.val_cells, HCG.out] at hm
  refine hm.mono ?_
  clear hm
  rintro e w12 ⟨rfl, ho, hk⟩
  have hzw12 := hk.size
  have HWw12 := (show Hid (OwnL w12 yW.rows) from HWw11.out.kept hk (fun b hb e => by have h1 := HFG.out _ e; have h2 := HFW.out b hb; omega))
  have HBWw12 := (show Hid (Blk w12 w2.heap.size 39 cW) from HBWw11.out.kept hk (fun e => by have h1 := HFG.out _ e; omega))
  have HBGw12 := (show Hid (Blk w12 w5.heap.size 39 cG) from HBGw11.out.kept hk (fun e => by have h1 := HFG.out _ e; omega))
  have HKw12 := (show Hid (Same w w12) from HKw11.out.next hk (fun b hb e => by have h1 := HFG.out _ e; omega))
  clear HWw11 HBWw11 HBGw11 HKw11
  have HUw12 := (show Hid (OwnL w12 (StFrameResult.marked yG 1).rows) from ho)
  clear hk ho
  have HFU := (show Hid (∀ b, FootL (StFrameResult.marked yG 1).rows b → _ ∧ _) from fun b hb => HFG.out b ((StFrameResult.foot_marked _ _ b).1 hb))
  as_aux_lemma =>
  go_wp2_with (first | (refine wpList_load_mid rfl 39 _ rfl w2.heap.size 0 rfl cW _ HBWw12.out.rangeAll Tryz.underlying39 rfl (by rw [HNcW.out]; kernel_rfl) ?_) | (refine wpList_load_mid rfl 39 _ rfl w5.heap.size 0 rfl cG _ HBGw12.out.rangeAll Tryz.underlying39 rfl (by rw [HNcG.out]; kernel_rfl) ?_))
  have hm := heldFrameResult_own yG 1 w12 (by omega) (by rw [HM.out]; omega) HUw12.out
  rw [HM.out, StFrameResult.val_cells, HCG.out] at hm
  refine hm.mono ?_
  clear hm
  rintro e w13 ⟨rfl, hk⟩
  have hzw13 := hk.size
  have HWw13 := (show Hid (OwnL w13 yW.rows) from HWw12.out.same hk)
  have HBWw13 := (show Hid (Blk w13 w2.heap.size 39 cW) from HBWw12.out.same hk)
  have HBGw13 := (show Hid (Blk w13 w5.heap.size 39 cG) from HBGw12.out.same hk)
  have HUw13 := (show Hid (OwnL w13 (StFrameResult.marked yG 1).rows) from HUw12.out.same hk)
  have HKw13 := (show Hid (Same w w13) from HKw12.out.trans hk)
  clear HWw12 HBWw12 HBGw12 HUw12 HKw12
  clear hk
  as_aux_lemma =>
  go_wp2_with (first | (refine wpList_load_mid rfl 39 _ rfl w2.heap.size 0 rfl cW _ HBWw13.out.rangeAll Tryz.underlying39 rfl (by rw [HNcW.out]; kernel_rfl) ?_) | (refine wpList_load_mid rfl 39 _ rfl w5.heap.size 0 rfl cG _ HBGw13.out.rangeAll Tryz.underlying39 rfl (by rw [HNcG.out]; kernel_rfl) ?_))
  refine (toByteS_any _ bs0 _ (by omega) (HV0.out.same HKw13.out)).mono ?_
  rintro e w14 ⟨gJ, rfl, hf, ho, hk⟩
  have HFJ := (show Hid (∀ b, (Value.slice (some ⟨gJ, 0, none⟩) bs0.length bs0.length).ownBlock = some b → w13.heap.size ≤ b ∧ b < w14.heap.size) from fun b hb => ⟨by rw [← (Option.some.inj hb : gJ = b)]; exact hf, (ho.lt b hb).2⟩)
  have hzw14 := hk.size
  have HWw14 := (show Hid (OwnL w14 yW.rows) from HWw13.out.same hk)
  have HBWw14 := (show Hid (Blk w14 w2.heap.size 39 cW) from HBWw13.out.same hk)
  have HBGw14 := (show Hid (Blk w14 w5.heap.size 39 cG) from HBGw13.out.same hk)
  have HUw14 := (show Hid (OwnL w14 (StFrameResult.marked yG 1).rows) from HUw13.out.same hk)
  have HKw14 := (show Hid (Same w w14) from HKw13.out.trans hk)
  clear HWw13 HBWw13 HBGw13 HUw13 HKw13
  have HJw14 := (show Hid (Own 0 5 .u8 w14 (.slice (some ⟨gJ, 0, none⟩) bs0.length bs0.length) bs0) from ho)
  clear hf ho hk
  as_aux_lemma =>
  go_wp2_with (first | (refine wpList_load_mid rfl 39 _ rfl w2.heap.size 0 rfl cW _ HBWw14.out.rangeAll Tryz.underlying39 rfl (by rw [HNcW.out]; kernel_rfl) ?_) | (refine wpList_load_mid rfl 39 _ rfl w5.heap.size 0 rfl cG _ HBGw14.out.rangeAll Tryz.underlying39 rfl (by rw [HNcG.out]; kernel_rfl) ?_))
  refine (implFrL _ bs0 s1 s2 s3 _ HB0.out (by omega) (HJw14.out.rd) HB1.out).mono ?_
  rintro e w15 ⟨yL, rfl, hd, hf, ho, hk⟩
  have hnL : yL.size ≤ 1099511627776 := decF_small HB0.out hd
  have hnL0 := StFrameResult.size_le yL
  have HDL := (show Hid (yL.dat = decF bs0 s1 s2 s3) from hd)
  have HFL := (show Hid (∀ b, FootL yL.rows b → w14.heap.size ≤ b ∧ b < w15.heap.size) from fun b hb => ⟨hf b hb, ho.lt b hb⟩)
  have hzw15 := hk.size
  have HWw15 := (show Hid (OwnL w15 yW.rows) from HWw14.out.same hk)
  have HBWw15 := (show Hid (Blk w15 w2.heap.size 39 cW) from HBWw14.out.same hk)
  have HBGw15 := (show Hid (Blk w15 w5.heap.size 39 cG) from HBGw14.out.same hk)
  have HUw15 := (show Hid (OwnL w15 (StFrameResult.marked yG 1).rows) from HUw14.out.same hk)
  have HJw15 := (show Hid (Own 0 5 .u8 w15 (.slice (some ⟨gJ, 0, none⟩) bs0.length bs0.length) bs0) from HJw14.out.same hk)
  have HKw15 := (show Hid (Same w w15) from HKw14.out.trans hk)
  clear HWw14 HBWw14 HBGw14 HUw14 HJw14 HKw14
  have HLw15 := (show Hid (OwnL w15 yL.rows) from ho)
  clear hd hf ho hk
  obtain ⟨cL, HCL⟩ : ∃ cs, Hid (StFrameResult.cells yL = cs) := ⟨_, rfl⟩
  have HNcL : Hid (cL.length = 17) := by unfold Hid; rw [← HCL.out]; rfl
  have HOL : Hid (cL.toArray.all (·.oneCell') = true) := by unfold Hid; rw [← HCL.out]; exact StFrameResult.cells_one _
  have hvL : yL.val = .agg cL.toArray := by rw [← HCL.out]; rfl
  rw [hvL]
  clear hvL
  go_upto_region 23 with (first | (refine wpList_store_mid rfl 39 _ _ rfl w15.heap.size 0 cL.toArray rfl rfl ((Blk.new w15 _ _).there 0 _ (by rw [List.size_toArray, HNcL.out]; decide)) (by rw [List.size_toArray, HNcL.out]; kernel_rfl) HOL.out ?_; rw [List.toList_toArray]))
  generalize hW : World.setCells _ w15.heap.size 0 cL = w16
  have hbx : Blk w16 w15.heap.size 39 cL ∧ Same w15 w16 := by rw [← hW]; exact box_new w15 _ cL _ (by rw [HNcL.out]; rfl)
  obtain ⟨hb, hk⟩ := hbx
  have hzw16 := hb.lt
  clear hW
  have HWw16 := (show Hid (OwnL w16 yW.rows) from HWw15.out.same hk)
  have HBWw16 := (show Hid (Blk w16 w2.heap.size 39 cW) from HBWw15.out.same hk)
  have HBGw16 := (show Hid (Blk w16 w5.heap.size 39 cG) from HBGw15.out.same hk)
  have HUw16 := (show Hid (OwnL w16 (StFrameResult.marked yG 1).rows) from HUw15.out.same hk)
  have HJw16 := (show Hid (Own 0 5 .u8 w16 (.slice (some ⟨gJ, 0, none⟩) bs0.length bs0.length) bs0) from HJw15.out.same hk)
  have HLw16 := (show Hid (OwnL w16 yL.rows) from HLw15.out.same hk)
  have HKw16 := (show Hid (Same w w16) from HKw15.out.trans hk)
  clear HWw15 HBWw15 HBGw15 HUw15 HJw15 HLw15 HKw15
  have HBLw16 := (show Hid (Blk w16 w15.heap.size 39 cL) from hb)
  clear hb hk
  as_aux_lemma =>
  go_wp2_with (first | (refine wpList_load_mid rfl 39 _ rfl w2.heap.size 0 rfl cW _ HBWw16.out.rangeAll Tryz.underlying39 rfl (by rw [HNcW.out]; kernel_rfl) ?_) | (refine wpList_load_mid rfl 39 _ rfl w5.heap.size 0 rfl cG _ HBGw16.out.rangeAll Tryz.underlying39 rfl (by rw [HNcG.out]; kernel_rfl) ?_) | (refine wpList_load_mid rfl 39 _ rfl w15.heap.size 0 rfl cL _ HBLw16.out.rangeAll Tryz.underlying39 rfl (by rw [HNcL.out]; kernel_rfl) ?_))
  have hq := eqFrameResult_own yL yW w16 (by omega) (HDL.out.trans HDW.out.symm) HLw16.out HWw16.out
  rw [StFrameResult.val_cells, StFrameResult.val_cells, HCL.out, HCW.out] at hq
  refine hq.mono ?_
  clear hq
  rintro e w17 ⟨rfl, hk⟩
  have hzw17 := hk.size
  have HWw17 := (show Hid (OwnL w17 yW.rows) from HWw16.out.same hk)
  have HBWw17 := (show Hid (Blk w17 w2.heap.size 39 cW) from HBWw16.out.same hk)
  have HBGw17 := (show Hid (Blk w17 w5.heap.size 39 cG) from HBGw16.out.same hk)
  have HUw17 := (show Hid (OwnL w17 (StFrameResult.marked yG 1).rows) from HUw16.out.same hk)
  have HLw17 := (show Hid (OwnL w17 yL.rows) from HLw16.out.same hk)
  have HBLw17 := (show Hid (Blk w17 w15.heap.size 39 cL) from HBLw16.out.same hk)
  have HKw17 := (show Hid (Same w w17) from HKw16.out.trans hk)
  clear HWw16 HBWw16 HBGw16 HUw16 HLw16 HBLw16 HKw16
  clear hk
  as_aux_lemma =>
  go_wp2_with (first | (refine wpList_load_mid rfl 39 _ rfl w5.heap.size 0 rfl cG _ HBGw17.out.rangeAll Tryz.underlying39 rfl (by rw [HNcG.out]; kernel_rfl) ?_))
  have hm := heldFrameResult_own yG 1 w17 (by omega) (by rw [HM.out]; omega) HUw17.out
  rw [HM.out, StFrameResult.val_cells, HCG.out] at hm
  refine hm.mono ?_
  clear hm
  rintro e w18 ⟨rfl, hk⟩
  have hzw18 := hk.size
  have HBGw18 := (show Hid (Blk w18 w5.heap.size 39 cG) from HBGw17.out.same hk)
  have HUw18 := (show Hid (OwnL w18 (StFrameResult.marked yG 1).rows) from HUw17.out.same hk)
  have HKw18 := (show Hid (Same w w18) from HKw17.out.trans hk)
  clear HBGw17 HUw17 HKw17
  clear hk
  go_wp2
  go_ret
  exact ⟨rfl, HKw18.out⟩
end Go.Proofs.YtaeikeglaobeeaaGreat

namespace Go.Proofs.YtaeikeglaobeeaaGreat.fnExactDecodeFrame
open Go.ChangeShapes Go.WideShapes Go.ChangeAt Go.RowKit
set_option linter.unusedVariables false
theorem own : ownKnob Tryz.prog.godebug = none := by kernel_rfl
theorem laidOut : laidOutB Tryz.prog = true := by kernel_rfl
set_option maxRecDepth 100000 in
theorem lifted (os : Os) (started : os.Started) (H : Type) (enc : TypeId × Value → H) :
    ReturnsInHanded {} Tryz.checked os 4 .any (Rows.fnExactDecodeFrameSpec.pre6 enc Tryz.prog Tryz.f4 Rows.fnExactDecodeFrameRow.domain false) (Rows.fnExactDecodeFrameSpec.post enc Tryz.prog Tryz.f4 false true false false) := by
  refine returnsInHanded_of_change (C := Tryz.checked) own started (by kernel_rfl) Tryz.func4
    (ChangeSpec.witness6 (enc := enc) (C := Tryz.checked) false ⟨#[], #[.slice none 0 0, .int .i64 0, .int .i64 0, .int .i64 0], []⟩ 8 (by kernel_rfl) (by kernel_rfl) (by kernel_rfl) (by kernel_rfl)) ?_
  intro W base args ds gs before hval0 hW hcnd _
  have hval : ∀ (j : Nat) t v, Tryz.f4.params[j]? = some t → args[j]? = some v → Value.okWide Tryz.prog W .any base t v := hval0
  have hW' := hW
  obtain ⟨p, q, hA0, hV, rfl, hfz, hnd⟩ := hW
  have hA : DataW.TrodAll enc Tryz.prog W 0 (fun _ => true) true Tryz.f4.params.toList args.toList ds p := hA0
  rw [Tryz.params4] at hA hval
  obtain ⟨v0, vs0, d0, ds0, p0, q0, hargs, rfl, rfl, h0, r0⟩ := trodAll_cons hA
  obtain ⟨v1, vs1, d1, ds1, p1, q1, rfl, rfl, rfl, h1, r1⟩ := trodAll_cons r0
  obtain ⟨v2, vs2, d2, ds2, p2, q2, rfl, rfl, rfl, h2, r2⟩ := trodAll_cons r1
  obtain ⟨v3, vs3, d3, ds3, p3, q3, rfl, rfl, rfl, h3, r3⟩ := trodAll_cons r2
  obtain ⟨rfl, rfl, rfl⟩ := trodAll_nil r3
  obtain rfl : args = #[v0, v1, v2, v3] := by cases args; simp_all
  obtain ⟨rfl, rfl⟩ := trodVars_none hV
  have k0 := h0
  have lt0 : ∀ x ∈ p0, x.block < W.heap.size := by obtain ⟨m, hm⟩ := k0; exact DataW.trod_lt m _ _ _ hm
  obtain ⟨x0, rd0, bd0⟩ := open_bytesB (hval 0 22 v0 rfl rfl) h0
  obtain ⟨a1, rfl, rfl, rfl, w1⟩ := open_int Tryz.underlying2 (hval 1 2 v1 rfl rfl) h1
  obtain ⟨a2, rfl, rfl, rfl, w2⟩ := open_int Tryz.underlying2 (hval 2 2 v2 rfl rfl) h2
  obtain ⟨a3, rfl, rfl, rfl, w3⟩ := open_int Tryz.underlying2 (hval 3 2 v3 rfl rfl) h3
  clear hA0 hval0
  refine (decodeFrame_law v0 x0 a1 a2 a3 W rd0 bd0 (int_bounds w1)).mono fun e W' ⟨he, hk⟩ => ?_
  have bel : Below W.heap.size W W' := hk.below (Nat.le_refl _) (fun _ _ => id)
  subst he
  exact ⟨_, rfl, _, _, _, [], _, [], hW', trodAll_mk1 (shut_bool Tryz.underlying4 _), (trodAll_cons_mk (Below.trod laidOut (by kernel_rfl) (of_decide_eq_true (by kernel_rfl)) k0 bel lt0) (trodAll_cons_mk (shut_int Tryz.underlying2 w1) (trodAll_cons_mk (shut_int Tryz.underlying2 w2) (trodAll_cons_mk (shut_int Tryz.underlying2 w3) trodAll_mk0)))), rfl, bel.frame _, fun h => by cases h⟩
theorem over : Rows.fnExactDecodeFrameRow.holds Tryz.pinned (OpenSpec.ofChange Rows.fnExactDecodeFrameSpec) :=
  OpenClaim.holds_of_wide 4 Tryz.f4 rfl rfl rfl rfl rfl rfl rfl ⟨rfl, rfl, rfl, rfl, rfl⟩ rfl rfl rfl rfl rfl (by kernel_rfl) Tryz.func4 (by kernel_rfl)
    (of_decide_eq_true (by kernel_rfl)) (by unfold Func.isWrapper; first | (rw [if_pos (by decide +kernel)]; kernel_rfl) | (rw [if_neg (by decide +kernel)]; exact ⟨rfl, rfl⟩))
    (fun os started H enc _ => lifted os started H enc)
end Go.Proofs.YtaeikeglaobeeaaGreat.fnExactDecodeFrame
namespace Go.Proofs.YtaeikeglaobeeaaGreat
theorem decodeFrame_proved : Rows.FnExactDecodeFrameSaid := fnExactDecodeFrame.over
#print axioms decodeFrame_proved
end Go.Proofs.YtaeikeglaobeeaaGreat
