import Derived.Test.YtdgmecmkkddpeaaGreatTyLogRecord
import Derived.Test.YtdgmecmkkddpeaaGreatG01
import Derived.Test.YtdgmecmkkddpeaaGreatG25
import Derived.Test.YtdgmecmkkddpeaaGreatG18
import Derived.Deep.DeepCutAuto
import Derived.Deep.RegionWith
import Derived.Deep.DeepMust
namespace Go.Proofs.YtdgmecmkkddpeaaGreat
set_option maxRecDepth 100000
set_option maxHeartbeats 16000000
set_option linter.unusedVariables false
set_option linter.unusedSimpArgs false
open Go.RowKit
theorem markLogRecord_own (x : StLogRecord) (k0 : Int) (w : World) (h0 : 0 ≤ k0) (h1 : k0 + x.size ≤ 1125899906842624) (ha : OwnL w x.rows) :
  Calls Tryz.prog 10 #[x.val, .int .i64 k0] w fun e w' => e = .returned (.int .i64 (k0 + x.size)) ∧ OwnL w' (x.marked k0).rows ∧ Kept (FootL x.rows) w w' := by
 have hlt := ha.lt
 have HLT := (show Hid (∀ b, FootL x.rows b → b < w.heap.size) from hlt)
 have HA := (show Hid (OwnL w x.rows) from ha)
 clear hlt
 obtain ⟨xkind, xtxn, xprev, xpage, xslot, ⟨xbU, ⟨xbDe, xbDa, xbDc, xbDb⟩⟩, ⟨xaU, ⟨xaDe, xaDa, xaDc, xaDb⟩⟩, xuN, xnT, ⟨xtXe, xtXa, xtXn, xtXc, xtXb⟩, ⟨xdYe, xdYa, xdYn, xdYc, xdYb⟩, ⟨xiMe, xiMa, xiMc, xiMb⟩⟩ := x
 have HO0_0 := (show Hid (OwnL w (StPageRecord.rows ⟨xbU, ⟨xbDe, xbDa, xbDc, xbDb⟩⟩)) from ha.left)
 have HO1_0 := (show Hid (OwnL w (StPageRecord.rows ⟨xaU, ⟨xaDe, xaDa, xaDc, xaDb⟩⟩)) from ha.right.left)
 have HO2_0 := (show Hid (OwnL w [⟨xtXe, 4, .slice xtXa xtXn xtXc, xtXn, vals .i64 xtXb⟩]) from ha.right.right.left)
 have HO3_0 := (show Hid (OwnL w [⟨xdYe, 2, .slice xdYa xdYn xdYc, xdYn, vals .i64 xdYb⟩]) from ha.right.right.right.left)
 have HO4_0 := (show Hid (OwnL w [ints xiMe .u8 (.slice xiMa xiMb.length xiMc) xiMb]) from ha.right.right.right.right)
 have HP0_1 := (show Hid (∀ b, FootL (StPageRecord.rows ⟨xbU, ⟨xbDe, xbDa, xbDc, xbDb⟩⟩) b → ¬ FootL (StPageRecord.rows ⟨xaU, ⟨xaDe, xaDa, xaDc, xaDb⟩⟩) b) from fun b hi hj => OwnL.cut (ha) b hi ((FootL_append _ _ _).2 (.inl hj)))
 have HP0_2 := (show Hid (∀ b, FootL (StPageRecord.rows ⟨xbU, ⟨xbDe, xbDa, xbDc, xbDb⟩⟩) b → ¬ FootL [⟨xtXe, 4, .slice xtXa xtXn xtXc, xtXn, vals .i64 xtXb⟩] b) from fun b hi hj => OwnL.cut (ha) b hi ((FootL_append _ _ _).2 (.inr ((FootL_append _ _ _).2 (.inl hj)))))
 have HP0_3 := (show Hid (∀ b, FootL (StPageRecord.rows ⟨xbU, ⟨xbDe, xbDa, xbDc, xbDb⟩⟩) b → ¬ FootL [⟨xdYe, 2, .slice xdYa xdYn xdYc, xdYn, vals .i64 xdYb⟩] b) from fun b hi hj => OwnL.cut (ha) b hi ((FootL_append _ _ _).2 (.inr ((FootL_append _ _ _).2 (.inr ((FootL_append _ _ _).2 (.inl hj)))))))
 have HP0_4 := (show Hid (∀ b, FootL (StPageRecord.rows ⟨xbU, ⟨xbDe, xbDa, xbDc, xbDb⟩⟩) b → ¬ FootL [ints xiMe .u8 (.slice xiMa xiMb.length xiMc) xiMb] b) from fun b hi hj => OwnL.cut (ha) b hi ((FootL_append _ _ _).2 (.inr ((FootL_append _ _ _).2 (.inr ((FootL_append _ _ _).2 (.inr (hj))))))))
 have HP1_2 := (show Hid (∀ b, FootL (StPageRecord.rows ⟨xaU, ⟨xaDe, xaDa, xaDc, xaDb⟩⟩) b → ¬ FootL [⟨xtXe, 4, .slice xtXa xtXn xtXc, xtXn, vals .i64 xtXb⟩] b) from fun b hi hj => OwnL.cut (ha.right) b hi ((FootL_append _ _ _).2 (.inl hj)))
 have HP1_3 := (show Hid (∀ b, FootL (StPageRecord.rows ⟨xaU, ⟨xaDe, xaDa, xaDc, xaDb⟩⟩) b → ¬ FootL [⟨xdYe, 2, .slice xdYa xdYn xdYc, xdYn, vals .i64 xdYb⟩] b) from fun b hi hj => OwnL.cut (ha.right) b hi ((FootL_append _ _ _).2 (.inr ((FootL_append _ _ _).2 (.inl hj)))))
 have HP1_4 := (show Hid (∀ b, FootL (StPageRecord.rows ⟨xaU, ⟨xaDe, xaDa, xaDc, xaDb⟩⟩) b → ¬ FootL [ints xiMe .u8 (.slice xiMa xiMb.length xiMc) xiMb] b) from fun b hi hj => OwnL.cut (ha.right) b hi ((FootL_append _ _ _).2 (.inr ((FootL_append _ _ _).2 (.inr (hj))))))
 have HP2_3 := (show Hid (∀ b, FootL [⟨xtXe, 4, .slice xtXa xtXn xtXc, xtXn, vals .i64 xtXb⟩] b → ¬ FootL [⟨xdYe, 2, .slice xdYa xdYn xdYc, xdYn, vals .i64 xdYb⟩] b) from fun b hi hj => OwnL.cut (ha.right.right) b hi ((FootL_append _ _ _).2 (.inl hj)))
 have HP2_4 := (show Hid (∀ b, FootL [⟨xtXe, 4, .slice xtXa xtXn xtXc, xtXn, vals .i64 xtXb⟩] b → ¬ FootL [ints xiMe .u8 (.slice xiMa xiMb.length xiMc) xiMb] b) from fun b hi hj => OwnL.cut (ha.right.right) b hi ((FootL_append _ _ _).2 (.inr (hj))))
 have HP3_4 := (show Hid (∀ b, FootL [⟨xdYe, 2, .slice xdYa xdYn xdYc, xdYn, vals .i64 xdYb⟩] b → ¬ FootL [ints xiMe .u8 (.slice xiMa xiMb.length xiMc) xiMb] b) from fun b hi hj => OwnL.cut (ha.right.right.right) b hi (hj))
 clear ha
 simp only [StLogRecord.size] at h1
 have hz0 := StPageRecord.size_le ⟨xbU, ⟨xbDe, xbDa, xbDc, xbDb⟩⟩
 have hz1 := StPageRecord.size_le ⟨xaU, ⟨xaDe, xaDa, xaDc, xaDb⟩⟩
 dsimp only [StLogRecord.val, StPageRecord.val, BS.v, FR.v]
 go_enter Tryz.func10, Tryz.ntmps10
 have HK_0 := (show Hid (Kept (FootL (StLogRecord.rows ⟨xkind, xtxn, xprev, xpage, xslot, ⟨xbU, ⟨xbDe, xbDa, xbDc, xbDb⟩⟩, ⟨xaU, ⟨xaDe, xaDa, xaDc, xaDb⟩⟩, xuN, xnT, ⟨xtXe, xtXa, xtXn, xtXc, xtXb⟩, ⟨xdYe, xdYa, xdYn, xdYc, xdYb⟩, ⟨xiMe, xiMa, xiMc, xiMb⟩⟩)) w (w.alloc (.cells #[.int .i64 xkind, .int .i64 xtxn, .int .i64 xprev, .int .i64 xpage, .int .i64 xslot, .bool xbU, .slice xbDa xbDb.length xbDc, .bool xaU, .slice xaDa xaDb.length xaDc, .int .i64 xuN, .int .i64 xnT, .slice xtXa xtXn xtXc, .slice xdYa xdYn xdYc, .slice xiMa xiMb.length xiMc] 35))) from (Kept.refl _ _).alloc _)
 have HB_0 := hid (Blk.newL w [.int .i64 xkind, .int .i64 xtxn, .int .i64 xprev, .int .i64 xpage, .int .i64 xslot, .bool xbU, .slice xbDa xbDb.length xbDc, .bool xaU, .slice xaDa xaDb.length xaDc, .int .i64 xuN, .int .i64 xnT, .slice xtXa xtXn xtXc, .slice xdYa xdYn xdYc, .slice xiMa xiMb.length xiMc] 35)
 go_wp2_with fail
 refine (markPageRecord_own ⟨xbU, ⟨xbDe, xbDa, xbDc, xbDb⟩⟩ (k0) _ (by omega) (by omega) (HO0_0.out.same ((Kept.refl _ _).alloc _))).mono ?_
 rintro e w1 ⟨rfl, ho, hk⟩
 have HB_1 := (show Hid (Blk w1 w.heap.size 35 [.int .i64 xkind, .int .i64 xtxn, .int .i64 xprev, .int .i64 xpage, .int .i64 xslot, .bool xbU, .slice xbDa xbDb.length xbDc, .bool xaU, .slice xaDa xaDb.length xaDc, .int .i64 xuN, .int .i64 xnT, .slice xtXa xtXn xtXc, .slice xdYa xdYn xdYc, .slice xiMa xiMb.length xiMc]) from HB_0.out.kept hk (fun e => by have := HLT.out _ ((FootL_append _ _ _).2 (.inl e)); omega))
 have HK_1 := (show Hid (Kept (FootL (StLogRecord.rows ⟨xkind, xtxn, xprev, xpage, xslot, ⟨xbU, ⟨xbDe, xbDa, xbDc, xbDb⟩⟩, ⟨xaU, ⟨xaDe, xaDa, xaDc, xaDb⟩⟩, xuN, xnT, ⟨xtXe, xtXa, xtXn, xtXc, xtXb⟩, ⟨xdYe, xdYa, xdYn, xdYc, xdYb⟩, ⟨xiMe, xiMa, xiMc, xiMb⟩⟩)) w w1) from HK_0.out.next hk (fun b _ e => (FootL_append _ _ _).2 (.inl e)))
 have HO0_1 := (show Hid (OwnL w1 (StPageRecord.marked ⟨xbU, ⟨xbDe, xbDa, xbDc, xbDb⟩⟩ (k0)).rows) from ho)
 have HO1_1 := (show Hid (OwnL w1 (StPageRecord.rows ⟨xaU, ⟨xaDe, xaDa, xaDc, xaDb⟩⟩)) from (HO1_0.out.same ((Kept.refl _ _).alloc _)).kept hk (fun b hb e => HP0_1.out b e hb))
 have HO2_1 := (show Hid (OwnL w1 [⟨xtXe, 4, .slice xtXa xtXn xtXc, xtXn, vals .i64 xtXb⟩]) from (HO2_0.out.same ((Kept.refl _ _).alloc _)).kept hk (fun b hb e => HP0_2.out b e hb))
 have HO3_1 := (show Hid (OwnL w1 [⟨xdYe, 2, .slice xdYa xdYn xdYc, xdYn, vals .i64 xdYb⟩]) from (HO3_0.out.same ((Kept.refl _ _).alloc _)).kept hk (fun b hb e => HP0_3.out b e hb))
 have HO4_1 := (show Hid (OwnL w1 [ints xiMe .u8 (.slice xiMa xiMb.length xiMc) xiMb]) from (HO4_0.out.same ((Kept.refl _ _).alloc _)).kept hk (fun b hb e => HP0_4.out b e hb))
 clear ho hk HB_0 HK_0 HO0_0 HO1_0 HO2_0 HO3_0 HO4_0
 have hsz0 : StPageRecord.size ⟨xbU, ⟨xbDe, xbDa, xbDc, xbDb⟩⟩ = StPageRecord.size ⟨xbU, ⟨xbDe, xbDa, xbDc, xbDb⟩⟩ := rfl
 have d0_7 := HB_1.out.c7
 have d0_8 := HB_1.out.c8
 have d0_11 := HB_1.out.c11
 have d0_12 := HB_1.out.c12
 have d0_13 := HB_1.out.c13
 go_wp2_with fail
 refine (markPageRecord_own ⟨xaU, ⟨xaDe, xaDa, xaDc, xaDb⟩⟩ (k0 + (StPageRecord.size ⟨xbU, ⟨xbDe, xbDa, xbDc, xbDb⟩⟩)) _ (by omega) (by omega) (HO1_1.out)).mono ?_
 rintro e w2 ⟨rfl, ho, hk⟩
 have HB_2 := (show Hid (Blk w2 w.heap.size 35 [.int .i64 xkind, .int .i64 xtxn, .int .i64 xprev, .int .i64 xpage, .int .i64 xslot, .bool xbU, .slice xbDa xbDb.length xbDc, .bool xaU, .slice xaDa xaDb.length xaDc, .int .i64 xuN, .int .i64 xnT, .slice xtXa xtXn xtXc, .slice xdYa xdYn xdYc, .slice xiMa xiMb.length xiMc]) from HB_1.out.kept hk (fun e => by have := HLT.out _ ((FootL_append _ _ _).2 (.inr ((FootL_append _ _ _).2 (.inl e)))); omega))
 have HK_2 := (show Hid (Kept (FootL (StLogRecord.rows ⟨xkind, xtxn, xprev, xpage, xslot, ⟨xbU, ⟨xbDe, xbDa, xbDc, xbDb⟩⟩, ⟨xaU, ⟨xaDe, xaDa, xaDc, xaDb⟩⟩, xuN, xnT, ⟨xtXe, xtXa, xtXn, xtXc, xtXb⟩, ⟨xdYe, xdYa, xdYn, xdYc, xdYb⟩, ⟨xiMe, xiMa, xiMc, xiMb⟩⟩)) w w2) from HK_1.out.next hk (fun b _ e => (FootL_append _ _ _).2 (.inr ((FootL_append _ _ _).2 (.inl e)))))
 have HO0_2 := (show Hid (OwnL w2 (StPageRecord.marked ⟨xbU, ⟨xbDe, xbDa, xbDc, xbDb⟩⟩ (k0)).rows) from (HO0_1.out).kept hk (fun b hb e => HP0_1.out b ((StPageRecord.foot_marked _ _ b).1 hb) e))
 have HO1_2 := (show Hid (OwnL w2 (StPageRecord.marked ⟨xaU, ⟨xaDe, xaDa, xaDc, xaDb⟩⟩ (k0 + (StPageRecord.size ⟨xbU, ⟨xbDe, xbDa, xbDc, xbDb⟩⟩))).rows) from ho)
 have HO2_2 := (show Hid (OwnL w2 [⟨xtXe, 4, .slice xtXa xtXn xtXc, xtXn, vals .i64 xtXb⟩]) from (HO2_1.out).kept hk (fun b hb e => HP1_2.out b e hb))
 have HO3_2 := (show Hid (OwnL w2 [⟨xdYe, 2, .slice xdYa xdYn xdYc, xdYn, vals .i64 xdYb⟩]) from (HO3_1.out).kept hk (fun b hb e => HP1_3.out b e hb))
 have HO4_2 := (show Hid (OwnL w2 [ints xiMe .u8 (.slice xiMa xiMb.length xiMc) xiMb]) from (HO4_1.out).kept hk (fun b hb e => HP1_4.out b e hb))
 clear ho hk HB_1 HK_1 HO0_1 HO1_1 HO2_1 HO3_1 HO4_1
 have hsz1 : StPageRecord.size ⟨xaU, ⟨xaDe, xaDa, xaDc, xaDb⟩⟩ = StPageRecord.size ⟨xaU, ⟨xaDe, xaDa, xaDc, xaDb⟩⟩ := rfl
 have d1_11 := HB_2.out.c11
 have d1_12 := HB_2.out.c12
 have d1_13 := HB_2.out.c13
 go_wp2_with fail
 refine (markTxnEntryS_own ⟨xtXe, xtXa, xtXn, xtXc, xtXb⟩ (k0 + (StPageRecord.size ⟨xbU, ⟨xbDe, xbDa, xbDc, xbDb⟩⟩) + (StPageRecord.size ⟨xaU, ⟨xaDe, xaDa, xaDc, xaDb⟩⟩)) _ (by omega) (by dsimp only; omega) (HO2_2.out)).mono ?_
 rintro e w3 ⟨rfl, ho, hk⟩
 have HB_3 := (show Hid (Blk w3 w.heap.size 35 [.int .i64 xkind, .int .i64 xtxn, .int .i64 xprev, .int .i64 xpage, .int .i64 xslot, .bool xbU, .slice xbDa xbDb.length xbDc, .bool xaU, .slice xaDa xaDb.length xaDc, .int .i64 xuN, .int .i64 xnT, .slice xtXa xtXn xtXc, .slice xdYa xdYn xdYc, .slice xiMa xiMb.length xiMc]) from HB_2.out.kept hk (fun e => by have := HLT.out _ ((FootL_append _ _ _).2 (.inr ((FootL_append _ _ _).2 (.inr ((FootL_append _ _ _).2 (.inl e)))))); omega))
 have HK_3 := (show Hid (Kept (FootL (StLogRecord.rows ⟨xkind, xtxn, xprev, xpage, xslot, ⟨xbU, ⟨xbDe, xbDa, xbDc, xbDb⟩⟩, ⟨xaU, ⟨xaDe, xaDa, xaDc, xaDb⟩⟩, xuN, xnT, ⟨xtXe, xtXa, xtXn, xtXc, xtXb⟩, ⟨xdYe, xdYa, xdYn, xdYc, xdYb⟩, ⟨xiMe, xiMa, xiMc, xiMb⟩⟩)) w w3) from HK_2.out.next hk (fun b _ e => (FootL_append _ _ _).2 (.inr ((FootL_append _ _ _).2 (.inr ((FootL_append _ _ _).2 (.inl e)))))))
 have HO0_3 := (show Hid (OwnL w3 (StPageRecord.marked ⟨xbU, ⟨xbDe, xbDa, xbDc, xbDb⟩⟩ (k0)).rows) from (HO0_2.out).kept hk (fun b hb e => HP0_2.out b ((StPageRecord.foot_marked _ _ b).1 hb) e))
 have HO1_3 := (show Hid (OwnL w3 (StPageRecord.marked ⟨xaU, ⟨xaDe, xaDa, xaDc, xaDb⟩⟩ (k0 + (StPageRecord.size ⟨xbU, ⟨xbDe, xbDa, xbDc, xbDb⟩⟩))).rows) from (HO1_2.out).kept hk (fun b hb e => HP1_2.out b ((StPageRecord.foot_marked _ _ b).1 hb) e))
 have HO2_3 := (show Hid (OwnL w3 (FR.rows 4 (FR.marked ⟨xtXe, xtXa, xtXn, xtXc, xtXb⟩ (k0 + (StPageRecord.size ⟨xbU, ⟨xbDe, xbDa, xbDc, xbDb⟩⟩) + (StPageRecord.size ⟨xaU, ⟨xaDe, xaDa, xaDc, xaDb⟩⟩))))) from ho)
 have HO3_3 := (show Hid (OwnL w3 [⟨xdYe, 2, .slice xdYa xdYn xdYc, xdYn, vals .i64 xdYb⟩]) from (HO3_2.out).kept hk (fun b hb e => HP2_3.out b e hb))
 have HO4_3 := (show Hid (OwnL w3 [ints xiMe .u8 (.slice xiMa xiMb.length xiMc) xiMb]) from (HO4_2.out).kept hk (fun b hb e => HP2_4.out b e hb))
 clear ho hk HB_2 HK_2 HO0_2 HO1_2 HO2_2 HO3_2 HO4_2
 have d2_12 := HB_3.out.c12
 have d2_13 := HB_3.out.c13
 go_wp2_with fail
 refine (markDirtyEntryS_own ⟨xdYe, xdYa, xdYn, xdYc, xdYb⟩ (k0 + (StPageRecord.size ⟨xbU, ⟨xbDe, xbDa, xbDc, xbDb⟩⟩) + (StPageRecord.size ⟨xaU, ⟨xaDe, xaDa, xaDc, xaDb⟩⟩) + (xtXb.length : Int)) _ (by omega) (by dsimp only; omega) (HO3_3.out)).mono ?_
 rintro e w4 ⟨rfl, ho, hk⟩
 have HB_4 := (show Hid (Blk w4 w.heap.size 35 [.int .i64 xkind, .int .i64 xtxn, .int .i64 xprev, .int .i64 xpage, .int .i64 xslot, .bool xbU, .slice xbDa xbDb.length xbDc, .bool xaU, .slice xaDa xaDb.length xaDc, .int .i64 xuN, .int .i64 xnT, .slice xtXa xtXn xtXc, .slice xdYa xdYn xdYc, .slice xiMa xiMb.length xiMc]) from HB_3.out.kept hk (fun e => by have := HLT.out _ ((FootL_append _ _ _).2 (.inr ((FootL_append _ _ _).2 (.inr ((FootL_append _ _ _).2 (.inr ((FootL_append _ _ _).2 (.inl e)))))))); omega))
 have HK_4 := (show Hid (Kept (FootL (StLogRecord.rows ⟨xkind, xtxn, xprev, xpage, xslot, ⟨xbU, ⟨xbDe, xbDa, xbDc, xbDb⟩⟩, ⟨xaU, ⟨xaDe, xaDa, xaDc, xaDb⟩⟩, xuN, xnT, ⟨xtXe, xtXa, xtXn, xtXc, xtXb⟩, ⟨xdYe, xdYa, xdYn, xdYc, xdYb⟩, ⟨xiMe, xiMa, xiMc, xiMb⟩⟩)) w w4) from HK_3.out.next hk (fun b _ e => (FootL_append _ _ _).2 (.inr ((FootL_append _ _ _).2 (.inr ((FootL_append _ _ _).2 (.inr ((FootL_append _ _ _).2 (.inl e)))))))))
 have HO0_4 := (show Hid (OwnL w4 (StPageRecord.marked ⟨xbU, ⟨xbDe, xbDa, xbDc, xbDb⟩⟩ (k0)).rows) from (HO0_3.out).kept hk (fun b hb e => HP0_3.out b ((StPageRecord.foot_marked _ _ b).1 hb) e))
 have HO1_4 := (show Hid (OwnL w4 (StPageRecord.marked ⟨xaU, ⟨xaDe, xaDa, xaDc, xaDb⟩⟩ (k0 + (StPageRecord.size ⟨xbU, ⟨xbDe, xbDa, xbDc, xbDb⟩⟩))).rows) from (HO1_3.out).kept hk (fun b hb e => HP1_3.out b ((StPageRecord.foot_marked _ _ b).1 hb) e))
 have HO2_4 := (show Hid (OwnL w4 (FR.rows 4 (FR.marked ⟨xtXe, xtXa, xtXn, xtXc, xtXb⟩ (k0 + (StPageRecord.size ⟨xbU, ⟨xbDe, xbDa, xbDc, xbDb⟩⟩) + (StPageRecord.size ⟨xaU, ⟨xaDe, xaDa, xaDc, xaDb⟩⟩))))) from (HO2_3.out).kept hk (fun b hb e => HP2_3.out b ((FR.foot_marked 4 _ _ b).1 hb) e))
 have HO3_4 := (show Hid (OwnL w4 (FR.rows 2 (FR.marked ⟨xdYe, xdYa, xdYn, xdYc, xdYb⟩ (k0 + (StPageRecord.size ⟨xbU, ⟨xbDe, xbDa, xbDc, xbDb⟩⟩) + (StPageRecord.size ⟨xaU, ⟨xaDe, xaDa, xaDc, xaDb⟩⟩) + (xtXb.length : Int))))) from ho)
 have HO4_4 := (show Hid (OwnL w4 [ints xiMe .u8 (.slice xiMa xiMb.length xiMc) xiMb]) from (HO4_3.out).kept hk (fun b hb e => HP3_4.out b e hb))
 clear ho hk HB_3 HK_3 HO0_3 HO1_3 HO2_3 HO3_3 HO4_3
 have d3_13 := HB_4.out.c13
 go_wp2_with fail
 refine (markByteS_own 0 _ xiMb (k0 + (StPageRecord.size ⟨xbU, ⟨xbDe, xbDa, xbDc, xbDb⟩⟩) + (StPageRecord.size ⟨xaU, ⟨xaDe, xaDa, xaDc, xaDb⟩⟩) + (xtXb.length : Int) + (xdYb.length : Int)) _ (by omega) (by omega) (by omega) (OwnL.of_one (HO4_4.out))).mono ?_
 rintro e w5 ⟨rfl, ho, hk⟩
 have ho := (show OwnL w5 (BS.rows (BS.marked ⟨xiMe, xiMa, xiMc, xiMb⟩ (k0 + (StPageRecord.size ⟨xbU, ⟨xbDe, xbDa, xbDc, xbDb⟩⟩) + (StPageRecord.size ⟨xaU, ⟨xaDe, xaDa, xaDc, xaDb⟩⟩) + (xtXb.length : Int) + (xdYb.length : Int)))) from BS.own_marked.2 (OwnL.one ho))
 have hk : Kept (FootL [ints xiMe .u8 (.slice xiMa xiMb.length xiMc) xiMb]) _ w5 := hk.mono (fun b _ e => (footL_ints _ _ _ _ _).2 e)
 have HB_5 := (show Hid (Blk w5 w.heap.size 35 [.int .i64 xkind, .int .i64 xtxn, .int .i64 xprev, .int .i64 xpage, .int .i64 xslot, .bool xbU, .slice xbDa xbDb.length xbDc, .bool xaU, .slice xaDa xaDb.length xaDc, .int .i64 xuN, .int .i64 xnT, .slice xtXa xtXn xtXc, .slice xdYa xdYn xdYc, .slice xiMa xiMb.length xiMc]) from HB_4.out.kept hk (fun e => by have := HLT.out _ ((FootL_append _ _ _).2 (.inr ((FootL_append _ _ _).2 (.inr ((FootL_append _ _ _).2 (.inr ((FootL_append _ _ _).2 (.inr (e))))))))); omega))
 have HK_5 := (show Hid (Kept (FootL (StLogRecord.rows ⟨xkind, xtxn, xprev, xpage, xslot, ⟨xbU, ⟨xbDe, xbDa, xbDc, xbDb⟩⟩, ⟨xaU, ⟨xaDe, xaDa, xaDc, xaDb⟩⟩, xuN, xnT, ⟨xtXe, xtXa, xtXn, xtXc, xtXb⟩, ⟨xdYe, xdYa, xdYn, xdYc, xdYb⟩, ⟨xiMe, xiMa, xiMc, xiMb⟩⟩)) w w5) from HK_4.out.next hk (fun b _ e => (FootL_append _ _ _).2 (.inr ((FootL_append _ _ _).2 (.inr ((FootL_append _ _ _).2 (.inr ((FootL_append _ _ _).2 (.inr (e))))))))))
 have HO0_5 := (show Hid (OwnL w5 (StPageRecord.marked ⟨xbU, ⟨xbDe, xbDa, xbDc, xbDb⟩⟩ (k0)).rows) from (HO0_4.out).kept hk (fun b hb e => HP0_4.out b ((StPageRecord.foot_marked _ _ b).1 hb) e))
 have HO1_5 := (show Hid (OwnL w5 (StPageRecord.marked ⟨xaU, ⟨xaDe, xaDa, xaDc, xaDb⟩⟩ (k0 + (StPageRecord.size ⟨xbU, ⟨xbDe, xbDa, xbDc, xbDb⟩⟩))).rows) from (HO1_4.out).kept hk (fun b hb e => HP1_4.out b ((StPageRecord.foot_marked _ _ b).1 hb) e))
 have HO2_5 := (show Hid (OwnL w5 (FR.rows 4 (FR.marked ⟨xtXe, xtXa, xtXn, xtXc, xtXb⟩ (k0 + (StPageRecord.size ⟨xbU, ⟨xbDe, xbDa, xbDc, xbDb⟩⟩) + (StPageRecord.size ⟨xaU, ⟨xaDe, xaDa, xaDc, xaDb⟩⟩))))) from (HO2_4.out).kept hk (fun b hb e => HP2_4.out b ((FR.foot_marked 4 _ _ b).1 hb) e))
 have HO3_5 := (show Hid (OwnL w5 (FR.rows 2 (FR.marked ⟨xdYe, xdYa, xdYn, xdYc, xdYb⟩ (k0 + (StPageRecord.size ⟨xbU, ⟨xbDe, xbDa, xbDc, xbDb⟩⟩) + (StPageRecord.size ⟨xaU, ⟨xaDe, xaDa, xaDc, xaDb⟩⟩) + (xtXb.length : Int))))) from (HO3_4.out).kept hk (fun b hb e => HP3_4.out b ((FR.foot_marked 2 _ _ b).1 hb) e))
 have HO4_5 := (show Hid (OwnL w5 (BS.rows (BS.marked ⟨xiMe, xiMa, xiMc, xiMb⟩ (k0 + (StPageRecord.size ⟨xbU, ⟨xbDe, xbDa, xbDc, xbDb⟩⟩) + (StPageRecord.size ⟨xaU, ⟨xaDe, xaDa, xaDc, xaDb⟩⟩) + (xtXb.length : Int) + (xdYb.length : Int))))) from ho)
 clear ho hk HB_4 HK_4 HO0_4 HO1_4 HO2_4 HO3_4 HO4_4
 go_wp2
 go_ret
 refine ⟨by first | rfl | (refine ret_int ?_; simp only [StLogRecord.size]; omega), ?_, HK_5.out⟩
 exact (HO0_5.out).append ((HO1_5.out).append ((HO2_5.out).append ((HO3_5.out).append (HO4_5.out) (fun b hb e => HP3_4.out b ((FR.foot_marked 2 _ _ b).1 hb) ((BS.foot_marked _ _ b).1 e))) (fun b hb e => ((FootL_append _ _ _).1 e).elim (fun e3 => HP2_3.out b ((FR.foot_marked 4 _ _ b).1 hb) ((FR.foot_marked 2 _ _ b).1 e3)) (fun e3 => HP2_4.out b ((FR.foot_marked 4 _ _ b).1 hb) ((BS.foot_marked _ _ b).1 e3)))) (fun b hb e => ((FootL_append _ _ _).1 e).elim (fun e2 => HP1_2.out b ((StPageRecord.foot_marked _ _ b).1 hb) ((FR.foot_marked 4 _ _ b).1 e2)) (fun e2 => ((FootL_append _ _ _).1 e2).elim (fun e3 => HP1_3.out b ((StPageRecord.foot_marked _ _ b).1 hb) ((FR.foot_marked 2 _ _ b).1 e3)) (fun e3 => HP1_4.out b ((StPageRecord.foot_marked _ _ b).1 hb) ((BS.foot_marked _ _ b).1 e3))))) (fun b hb e => ((FootL_append _ _ _).1 e).elim (fun e1 => HP0_1.out b ((StPageRecord.foot_marked _ _ b).1 hb) ((StPageRecord.foot_marked _ _ b).1 e1)) (fun e1 => ((FootL_append _ _ _).1 e1).elim (fun e2 => HP0_2.out b ((StPageRecord.foot_marked _ _ b).1 hb) ((FR.foot_marked 4 _ _ b).1 e2)) (fun e2 => ((FootL_append _ _ _).1 e2).elim (fun e3 => HP0_3.out b ((StPageRecord.foot_marked _ _ b).1 hb) ((FR.foot_marked 2 _ _ b).1 e3)) (fun e3 => HP0_4.out b ((StPageRecord.foot_marked _ _ b).1 hb) ((BS.foot_marked _ _ b).1 e3)))))
theorem encodeFrame_law (s0 : Int) (s1 : Int) (x2 : StLogRecord) (w : World) (hB0 : IsI s0) (hB1 : IsI s1) (hv2 : StLogRecord.rd w x2) (hB2 : x2.isB) :
  Calls Tryz.prog 3 #[.int .i64 s0, .int .i64 s1, x2.val] w fun e w' => e = .returned (.bool true) ∧ Same w w' := by
 have HB0 := (show Hid (IsI s0) from hB0)
 clear hB0
 have HB1 := (show Hid (IsI s1) from hB1)
 clear hB1
 obtain ⟨p2kind, p2txn, p2prev, p2page, p2slot, ⟨p2bU, ⟨p2bDe, p2bDa, p2bDc, p2bDb⟩⟩, ⟨p2aU, ⟨p2aDe, p2aDa, p2aDc, p2aDb⟩⟩, p2uN, p2nT, ⟨p2tXe, p2tXa, p2tXn, p2tXc, p2tXb⟩, ⟨p2dYe, p2dYa, p2dYn, p2dYc, p2dYb⟩, ⟨p2iMe, p2iMa, p2iMc, p2iMb⟩⟩ := x2
 have HV2 := (show Hid (StLogRecord.rd w ⟨p2kind, p2txn, p2prev, p2page, p2slot, ⟨p2bU, ⟨p2bDe, p2bDa, p2bDc, p2bDb⟩⟩, ⟨p2aU, ⟨p2aDe, p2aDa, p2aDc, p2aDb⟩⟩, p2uN, p2nT, ⟨p2tXe, p2tXa, p2tXn, p2tXc, p2tXb⟩, ⟨p2dYe, p2dYa, p2dYn, p2dYc, p2dYb⟩, ⟨p2iMe, p2iMa, p2iMc, p2iMb⟩⟩) from hv2)
 clear hv2
 have HB2 := (show Hid (StLogRecord.isB ⟨p2kind, p2txn, p2prev, p2page, p2slot, ⟨p2bU, ⟨p2bDe, p2bDa, p2bDc, p2bDb⟩⟩, ⟨p2aU, ⟨p2aDe, p2aDa, p2aDc, p2aDb⟩⟩, p2uN, p2nT, ⟨p2tXe, p2tXa, p2tXn, p2tXc, p2tXb⟩, ⟨p2dYe, p2dYa, p2dYn, p2dYc, p2dYb⟩, ⟨p2iMe, p2iMa, p2iMc, p2iMb⟩⟩) from hB2)
 clear hB2
 dsimp only [StLogRecord.val, StPageRecord.val, BS.v, FR.v]
 go_enter Tryz.func3, Tryz.ntmps3
 have HKw : Hid (Same w w) := Kept.refl _ _
 go_wp2_with fail
 refine (szLogRecord_any ⟨p2kind, p2txn, p2prev, p2page, p2slot, ⟨p2bU, ⟨p2bDe, p2bDa, p2bDc, p2bDb⟩⟩, ⟨p2aU, ⟨p2aDe, p2aDa, p2aDc, p2aDb⟩⟩, p2uN, p2nT, ⟨p2tXe, p2tXa, p2tXn, p2tXc, p2tXb⟩, ⟨p2dYe, p2dYa, p2dYn, p2dYc, p2dYb⟩, ⟨p2iMe, p2iMa, p2iMc, p2iMb⟩⟩ _ _ (by omega) (by omega) (HV2.out.same ((Kept.refl _ _).alloc _))).mono ?_
 rintro e w1 ⟨sz2, rfl, hr, hk⟩
 have hkk : Same w w1 := ((Kept.refl _ _).alloc _).trans hk
 have hzw1 := hk.size
 rw [World.size_alloc] at hzw1
 have HA2w1 := (show Hid (Blk w1 (w.heap.size) 28 [.int .i64 p2kind, .int .i64 p2txn, .int .i64 p2prev, .int .i64 p2page, .int .i64 p2slot, .bool p2bU, .slice p2bDa p2bDb.length p2bDc, .bool p2aU, .slice p2aDa p2aDb.length p2aDc, .int .i64 p2uN, .int .i64 p2nT, .slice p2tXa p2tXn p2tXc, .slice p2dYa p2dYn p2dYc, .slice p2iMa p2iMb.length p2iMc]) from (Blk.new w #[.int .i64 p2kind, .int .i64 p2txn, .int .i64 p2prev, .int .i64 p2page, .int .i64 p2slot, .bool p2bU, .slice p2bDa p2bDb.length p2bDc, .bool p2aU, .slice p2aDa p2aDb.length p2aDc, .int .i64 p2uN, .int .i64 p2nT, .slice p2tXa p2tXn p2tXc, .slice p2dYa p2dYn p2dYc, .slice p2iMa p2iMb.length p2iMc] 28).same hk)
 have HKw1 := hid (HKw.out.trans hkk)
 clear hkk hk
 rcases hr with rfl | ⟨hr, hr0⟩
 ·go_wp2
  go_ret
  exact ⟨rfl, HKw1.out⟩
 have hsz2 : StLogRecord.szs ⟨p2kind, p2txn, p2prev, p2page, p2slot, ⟨p2bU, ⟨p2bDe, p2bDa, p2bDc, p2bDb⟩⟩, ⟨p2aU, ⟨p2aDe, p2aDa, p2aDc, p2aDb⟩⟩, p2uN, p2nT, ⟨p2tXe, p2tXa, p2tXn, p2tXc, p2tXb⟩, ⟨p2dYe, p2dYa, p2dYn, p2dYc, p2dYb⟩, ⟨p2iMe, p2iMa, p2iMc, p2iMb⟩⟩ ≤ 1048576 := by omega
 clear hr
 obtain ⟨cA2_0, cA2_1, cA2_2, cA2_3, cA2_4, cA2_5, cA2_6, cA2_7, cA2_8, cA2_9, cA2_10, cA2_11, cA2_12, cA2_13⟩ := HA2w1.out.all14
 have lA2 := HA2w1.out.lt
 go_wp2_with fail
 refine (toLogRecord_any ⟨p2kind, p2txn, p2prev, p2page, p2slot, ⟨p2bU, ⟨p2bDe, p2bDa, p2bDc, p2bDb⟩⟩, ⟨p2aU, ⟨p2aDe, p2aDa, p2aDc, p2aDb⟩⟩, p2uN, p2nT, ⟨p2tXe, p2tXa, p2tXn, p2tXc, p2tXb⟩, ⟨p2dYe, p2dYa, p2dYn, p2dYc, p2dYb⟩, ⟨p2iMe, p2iMa, p2iMc, p2iMb⟩⟩ _ (by omega) (HV2.out.same HKw1.out)).mono ?_
 rintro e w2 ⟨⟨C2kind, C2txn, C2prev, C2page, C2slot, ⟨C2bU, ⟨C2bDe, C2bDa, C2bDc, C2bDb⟩⟩, ⟨C2aU, ⟨C2aDe, C2aDa, C2aDc, C2aDb⟩⟩, C2uN, C2nT, ⟨C2tXe, C2tXa, C2tXn, C2tXc, C2tXb⟩, ⟨C2dYe, C2dYa, C2dYn, C2dYc, C2dYb⟩, ⟨C2iMe, C2iMa, C2iMc, C2iMb⟩⟩, rfl, hd, hz, hf, ho, hk⟩
 have HCC2 := (show Hid (StLogRecord.dat ⟨C2kind, C2txn, C2prev, C2page, C2slot, ⟨C2bU, ⟨C2bDe, C2bDa, C2bDc, C2bDb⟩⟩, ⟨C2aU, ⟨C2aDe, C2aDa, C2aDc, C2aDb⟩⟩, C2uN, C2nT, ⟨C2tXe, C2tXa, C2tXn, C2tXc, C2tXb⟩, ⟨C2dYe, C2dYa, C2dYn, C2dYc, C2dYb⟩, ⟨C2iMe, C2iMa, C2iMc, C2iMb⟩⟩ = StLogRecord.dat ⟨p2kind, p2txn, p2prev, p2page, p2slot, ⟨p2bU, ⟨p2bDe, p2bDa, p2bDc, p2bDb⟩⟩, ⟨p2aU, ⟨p2aDe, p2aDa, p2aDc, p2aDb⟩⟩, p2uN, p2nT, ⟨p2tXe, p2tXa, p2tXn, p2tXc, p2tXb⟩, ⟨p2dYe, p2dYa, p2dYn, p2dYc, p2dYb⟩, ⟨p2iMe, p2iMa, p2iMc, p2iMb⟩⟩) from hd)
 have HZC2 := (show Hid (StLogRecord.szs ⟨C2kind, C2txn, C2prev, C2page, C2slot, ⟨C2bU, ⟨C2bDe, C2bDa, C2bDc, C2bDb⟩⟩, ⟨C2aU, ⟨C2aDe, C2aDa, C2aDc, C2aDb⟩⟩, C2uN, C2nT, ⟨C2tXe, C2tXa, C2tXn, C2tXc, C2tXb⟩, ⟨C2dYe, C2dYa, C2dYn, C2dYc, C2dYb⟩, ⟨C2iMe, C2iMa, C2iMc, C2iMb⟩⟩ = StLogRecord.szs ⟨p2kind, p2txn, p2prev, p2page, p2slot, ⟨p2bU, ⟨p2bDe, p2bDa, p2bDc, p2bDb⟩⟩, ⟨p2aU, ⟨p2aDe, p2aDa, p2aDc, p2aDb⟩⟩, p2uN, p2nT, ⟨p2tXe, p2tXa, p2tXn, p2tXc, p2tXb⟩, ⟨p2dYe, p2dYa, p2dYn, p2dYc, p2dYb⟩, ⟨p2iMe, p2iMa, p2iMc, p2iMb⟩⟩) from hz)
 clear hd hz
 dsimp only [StLogRecord.val, StPageRecord.val, BS.v, FR.v]
 have HFC2 := (show Hid (∀ b, FootL (StLogRecord.rows ⟨C2kind, C2txn, C2prev, C2page, C2slot, ⟨C2bU, ⟨C2bDe, C2bDa, C2bDc, C2bDb⟩⟩, ⟨C2aU, ⟨C2aDe, C2aDa, C2aDc, C2aDb⟩⟩, C2uN, C2nT, ⟨C2tXe, C2tXa, C2tXn, C2tXc, C2tXb⟩, ⟨C2dYe, C2dYa, C2dYn, C2dYc, C2dYb⟩, ⟨C2iMe, C2iMa, C2iMc, C2iMb⟩⟩) b → w1.heap.size ≤ b ∧ b < w2.heap.size) from fun b hb => ⟨hf b hb, ho.lt b hb⟩)
 have HC2w2 := (show Hid (OwnL w2 (StLogRecord.rows ⟨C2kind, C2txn, C2prev, C2page, C2slot, ⟨C2bU, ⟨C2bDe, C2bDa, C2bDc, C2bDb⟩⟩, ⟨C2aU, ⟨C2aDe, C2aDa, C2aDc, C2aDb⟩⟩, C2uN, C2nT, ⟨C2tXe, C2tXa, C2tXn, C2tXc, C2tXb⟩, ⟨C2dYe, C2dYa, C2dYn, C2dYc, C2dYb⟩, ⟨C2iMe, C2iMa, C2iMc, C2iMb⟩⟩)) from ho)
 clear hf ho
 have hkk : Same w1 w2 := hk
 have hzw2 := hkk.size
 have HA2w2 := hid (HA2w1.out.same hkk)
 have HKw2 := hid (HKw1.out.trans hkk)
 clear hkk hk
 clear cA2_0 cA2_1 cA2_2 cA2_3 cA2_4 cA2_5 cA2_6 cA2_7 cA2_8 cA2_9 cA2_10 cA2_11 cA2_12 cA2_13 lA2
 obtain ⟨cA2_0, cA2_1, cA2_2, cA2_3, cA2_4, cA2_5, cA2_6, cA2_7, cA2_8, cA2_9, cA2_10, cA2_11, cA2_12, cA2_13⟩ := HA2w2.out.all14
 have lA2 := HA2w2.out.lt
 go_wp2_with fail
 refine (specFrame_any s0 s1 ⟨C2kind, C2txn, C2prev, C2page, C2slot, ⟨C2bU, ⟨C2bDe, C2bDa, C2bDc, C2bDb⟩⟩, ⟨C2aU, ⟨C2aDe, C2aDa, C2aDc, C2aDb⟩⟩, C2uN, C2nT, ⟨C2tXe, C2tXa, C2tXn, C2tXc, C2tXb⟩, ⟨C2dYe, C2dYa, C2dYn, C2dYc, C2dYb⟩, ⟨C2iMe, C2iMa, C2iMc, C2iMb⟩⟩ _ HB0.out HB1.out (StLogRecord.isB_dat HCC2.out HB2.out) (by have := HZC2.out; omega) (StLogRecord.own_rd HC2w2.out)).mono ?_
 rintro e w3 ⟨aW, cW, rfl, hf, ho, hk⟩
 rw [HCC2.out] at hf ho ⊢
 have hrl : (frFd s0 s1 (StLogRecord.dat ⟨p2kind, p2txn, p2prev, p2page, p2slot, ⟨p2bU, ⟨p2bDe, p2bDa, p2bDc, p2bDb⟩⟩, ⟨p2aU, ⟨p2aDe, p2aDa, p2aDc, p2aDb⟩⟩, p2uN, p2nT, ⟨p2tXe, p2tXa, p2tXn, p2tXc, p2tXb⟩, ⟨p2dYe, p2dYa, p2dYn, p2dYc, p2dYb⟩, ⟨p2iMe, p2iMa, p2iMc, p2iMb⟩⟩)).length ≤ 1048576 := Nat.le_trans (frFd_length _ _ _) (by omega)
 obtain ⟨r0, hR⟩ : ∃ r, frFd s0 s1 (StLogRecord.dat ⟨p2kind, p2txn, p2prev, p2page, p2slot, ⟨p2bU, ⟨p2bDe, p2bDa, p2bDc, p2bDb⟩⟩, ⟨p2aU, ⟨p2aDe, p2aDa, p2aDc, p2aDb⟩⟩, p2uN, p2nT, ⟨p2tXe, p2tXa, p2tXn, p2tXc, p2tXb⟩, ⟨p2dYe, p2dYa, p2dYn, p2dYc, p2dYb⟩, ⟨p2iMe, p2iMa, p2iMc, p2iMb⟩⟩) = r := ⟨_, rfl⟩
 have HR : Hid (frFd s0 s1 (StLogRecord.dat ⟨p2kind, p2txn, p2prev, p2page, p2slot, ⟨p2bU, ⟨p2bDe, p2bDa, p2bDc, p2bDb⟩⟩, ⟨p2aU, ⟨p2aDe, p2aDa, p2aDc, p2aDb⟩⟩, p2uN, p2nT, ⟨p2tXe, p2tXa, p2tXn, p2tXc, p2tXb⟩, ⟨p2dYe, p2dYa, p2dYn, p2dYc, p2dYb⟩, ⟨p2iMe, p2iMa, p2iMc, p2iMb⟩⟩) = r0) := hR
 rw [hR] at hrl
 clear hR
 rw [HR.out] at hf ho ⊢
 have HFW := (show Hid (∀ b, (Value.slice aW r0.length cW).ownBlock = some b → w2.heap.size ≤ b ∧ b < w3.heap.size) from fun b hb => ⟨hf b hb, (ho.lt b hb).2⟩)
 have HWw3 := (show Hid (Own 0 5 .u8 w3 (.slice aW r0.length cW) r0) from ho)
 clear hf ho
 have hkk : Same w2 w3 := hk
 have hzw3 := hkk.size
 have HA2w3 := hid (HA2w2.out.same hkk)
 have HC2w3 := hid (HC2w2.out.same hkk)
 have HKw3 := hid (HKw2.out.trans hkk)
 clear hkk hk
 clear cA2_0 cA2_1 cA2_2 cA2_3 cA2_4 cA2_5 cA2_6 cA2_7 cA2_8 cA2_9 cA2_10 cA2_11 cA2_12 cA2_13 lA2
 as_aux_lemma =>
 obtain ⟨cA2_0, cA2_1, cA2_2, cA2_3, cA2_4, cA2_5, cA2_6, cA2_7, cA2_8, cA2_9, cA2_10, cA2_11, cA2_12, cA2_13⟩ := HA2w3.out.all14
 have lA2 := HA2w3.out.lt
 go_wp2_with fail
 refine (toLogRecord_any ⟨p2kind, p2txn, p2prev, p2page, p2slot, ⟨p2bU, ⟨p2bDe, p2bDa, p2bDc, p2bDb⟩⟩, ⟨p2aU, ⟨p2aDe, p2aDa, p2aDc, p2aDb⟩⟩, p2uN, p2nT, ⟨p2tXe, p2tXa, p2tXn, p2tXc, p2tXb⟩, ⟨p2dYe, p2dYa, p2dYn, p2dYc, p2dYb⟩, ⟨p2iMe, p2iMa, p2iMc, p2iMb⟩⟩ _ (by omega) (HV2.out.same HKw3.out)).mono ?_
 rintro e w4 ⟨⟨X2kind, X2txn, X2prev, X2page, X2slot, ⟨X2bU, ⟨X2bDe, X2bDa, X2bDc, X2bDb⟩⟩, ⟨X2aU, ⟨X2aDe, X2aDa, X2aDc, X2aDb⟩⟩, X2uN, X2nT, ⟨X2tXe, X2tXa, X2tXn, X2tXc, X2tXb⟩, ⟨X2dYe, X2dYa, X2dYn, X2dYc, X2dYb⟩, ⟨X2iMe, X2iMa, X2iMc, X2iMb⟩⟩, rfl, hd, hz, hf, ho, hk⟩
 have HCX2 := (show Hid (StLogRecord.dat ⟨X2kind, X2txn, X2prev, X2page, X2slot, ⟨X2bU, ⟨X2bDe, X2bDa, X2bDc, X2bDb⟩⟩, ⟨X2aU, ⟨X2aDe, X2aDa, X2aDc, X2aDb⟩⟩, X2uN, X2nT, ⟨X2tXe, X2tXa, X2tXn, X2tXc, X2tXb⟩, ⟨X2dYe, X2dYa, X2dYn, X2dYc, X2dYb⟩, ⟨X2iMe, X2iMa, X2iMc, X2iMb⟩⟩ = StLogRecord.dat ⟨p2kind, p2txn, p2prev, p2page, p2slot, ⟨p2bU, ⟨p2bDe, p2bDa, p2bDc, p2bDb⟩⟩, ⟨p2aU, ⟨p2aDe, p2aDa, p2aDc, p2aDb⟩⟩, p2uN, p2nT, ⟨p2tXe, p2tXa, p2tXn, p2tXc, p2tXb⟩, ⟨p2dYe, p2dYa, p2dYn, p2dYc, p2dYb⟩, ⟨p2iMe, p2iMa, p2iMc, p2iMb⟩⟩) from hd)
 have HZX2 := (show Hid (StLogRecord.szs ⟨X2kind, X2txn, X2prev, X2page, X2slot, ⟨X2bU, ⟨X2bDe, X2bDa, X2bDc, X2bDb⟩⟩, ⟨X2aU, ⟨X2aDe, X2aDa, X2aDc, X2aDb⟩⟩, X2uN, X2nT, ⟨X2tXe, X2tXa, X2tXn, X2tXc, X2tXb⟩, ⟨X2dYe, X2dYa, X2dYn, X2dYc, X2dYb⟩, ⟨X2iMe, X2iMa, X2iMc, X2iMb⟩⟩ = StLogRecord.szs ⟨p2kind, p2txn, p2prev, p2page, p2slot, ⟨p2bU, ⟨p2bDe, p2bDa, p2bDc, p2bDb⟩⟩, ⟨p2aU, ⟨p2aDe, p2aDa, p2aDc, p2aDb⟩⟩, p2uN, p2nT, ⟨p2tXe, p2tXa, p2tXn, p2tXc, p2tXb⟩, ⟨p2dYe, p2dYa, p2dYn, p2dYc, p2dYb⟩, ⟨p2iMe, p2iMa, p2iMc, p2iMb⟩⟩) from hz)
 clear hd hz
 dsimp only [StLogRecord.val, StPageRecord.val, BS.v, FR.v]
 have HFX2 := (show Hid (∀ b, FootL (StLogRecord.rows ⟨X2kind, X2txn, X2prev, X2page, X2slot, ⟨X2bU, ⟨X2bDe, X2bDa, X2bDc, X2bDb⟩⟩, ⟨X2aU, ⟨X2aDe, X2aDa, X2aDc, X2aDb⟩⟩, X2uN, X2nT, ⟨X2tXe, X2tXa, X2tXn, X2tXc, X2tXb⟩, ⟨X2dYe, X2dYa, X2dYn, X2dYc, X2dYb⟩, ⟨X2iMe, X2iMa, X2iMc, X2iMb⟩⟩) b → w3.heap.size ≤ b ∧ b < w4.heap.size) from fun b hb => ⟨hf b hb, ho.lt b hb⟩)
 have HX2w4 := (show Hid (OwnL w4 (StLogRecord.rows ⟨X2kind, X2txn, X2prev, X2page, X2slot, ⟨X2bU, ⟨X2bDe, X2bDa, X2bDc, X2bDb⟩⟩, ⟨X2aU, ⟨X2aDe, X2aDa, X2aDc, X2aDb⟩⟩, X2uN, X2nT, ⟨X2tXe, X2tXa, X2tXn, X2tXc, X2tXb⟩, ⟨X2dYe, X2dYa, X2dYn, X2dYc, X2dYb⟩, ⟨X2iMe, X2iMa, X2iMc, X2iMb⟩⟩)) from ho)
 clear hf ho
 have hkk : Same w3 w4 := hk
 have hzw4 := hkk.size
 have HA2w4 := hid (HA2w3.out.same hkk)
 have HWw4 := (show Hid (Own 0 5 .u8 w4 (.slice aW r0.length cW) r0) from HWw3.out.same hkk)
 have HKw4 := hid (HKw3.out.trans hkk)
 clear hkk hk
 clear cA2_0 cA2_1 cA2_2 cA2_3 cA2_4 cA2_5 cA2_6 cA2_7 cA2_8 cA2_9 cA2_10 cA2_11 cA2_12 cA2_13 lA2
 obtain ⟨cA2_0, cA2_1, cA2_2, cA2_3, cA2_4, cA2_5, cA2_6, cA2_7, cA2_8, cA2_9, cA2_10, cA2_11, cA2_12, cA2_13⟩ := HA2w4.out.all14
 have lA2 := HA2w4.out.lt
 go_wp2_with fail
 refine (implFrame_any s0 s1 ⟨X2kind, X2txn, X2prev, X2page, X2slot, ⟨X2bU, ⟨X2bDe, X2bDa, X2bDc, X2bDb⟩⟩, ⟨X2aU, ⟨X2aDe, X2aDa, X2aDc, X2aDb⟩⟩, X2uN, X2nT, ⟨X2tXe, X2tXa, X2tXn, X2tXc, X2tXb⟩, ⟨X2dYe, X2dYa, X2dYn, X2dYc, X2dYb⟩, ⟨X2iMe, X2iMa, X2iMc, X2iMb⟩⟩ _ HB0.out HB1.out (StLogRecord.isB_dat HCX2.out HB2.out) (by have := HZX2.out; omega) (StLogRecord.own_rd (HX2w4.out.same ((Kept.refl _ _).alloc _)))).mono ?_
 rintro e w5 ⟨aG, cG, rfl, hf, ho, hk⟩
 rw [HCX2.out] at hf ho ⊢
 rw [HR.out] at hf ho ⊢
 simp only [World.size_alloc] at hf
 have HFG := (show Hid (∀ b, (Value.slice aG r0.length cG).ownBlock = some b → w4.heap.size < b ∧ b < w5.heap.size) from fun b hb => ⟨by have := hf b hb; omega, (ho.lt b hb).2⟩)
 have HGw5 := (show Hid (Own 0 5 .u8 w5 (.slice aG r0.length cG) r0) from ho)
 clear hf ho
 have hkk : Same w4 w5 := ((Kept.refl _ _).alloc _).trans hk
 have hzw5 := hk.size
 rw [World.size_alloc] at hzw5
 have HA2w5 := hid (HA2w4.out.same hkk)
 have HWw5 := (show Hid (Own 0 5 .u8 w5 (.slice aW r0.length cW) r0) from HWw4.out.same hkk)
 have HX2w5 := hid (HX2w4.out.same hkk)
 have HT2w5 := (show Hid (Blk w5 (w4.heap.size) 35 [.int .i64 X2kind, .int .i64 X2txn, .int .i64 X2prev, .int .i64 X2page, .int .i64 X2slot, .bool X2bU, .slice X2bDa X2bDb.length X2bDc, .bool X2aU, .slice X2aDa X2aDb.length X2aDc, .int .i64 X2uN, .int .i64 X2nT, .slice X2tXa X2tXn X2tXc, .slice X2dYa X2dYn X2dYc, .slice X2iMa X2iMb.length X2iMc]) from (Blk.new w4 #[.int .i64 X2kind, .int .i64 X2txn, .int .i64 X2prev, .int .i64 X2page, .int .i64 X2slot, .bool X2bU, .slice X2bDa X2bDb.length X2bDc, .bool X2aU, .slice X2aDa X2aDb.length X2aDc, .int .i64 X2uN, .int .i64 X2nT, .slice X2tXa X2tXn X2tXc, .slice X2dYa X2dYn X2dYc, .slice X2iMa X2iMb.length X2iMc] 35).same hk)
 have HKw5 := hid (HKw4.out.trans hkk)
 clear hkk hk
 clear cA2_0 cA2_1 cA2_2 cA2_3 cA2_4 cA2_5 cA2_6 cA2_7 cA2_8 cA2_9 cA2_10 cA2_11 cA2_12 cA2_13 lA2
 obtain ⟨cA2_0, cA2_1, cA2_2, cA2_3, cA2_4, cA2_5, cA2_6, cA2_7, cA2_8, cA2_9, cA2_10, cA2_11, cA2_12, cA2_13⟩ := HA2w5.out.all14
 have lA2 := HA2w5.out.lt
 obtain ⟨cT2_0, cT2_1, cT2_2, cT2_3, cT2_4, cT2_5, cT2_6, cT2_7, cT2_8, cT2_9, cT2_10, cT2_11, cT2_12, cT2_13⟩ := HT2w5.out.all14
 have lT2 := HT2w5.out.lt
 go_wp2_with fail
 refine (eqByteS_own 0 _ _ r0 _ (by omega) HGw5.out HWw5.out).mono ?_
 rintro e w6 ⟨rfl, nn, hww⟩
 have hk : Same w5 w6 := by rw [hww]; exact (Kept.refl _ _).drewN _
 clear hww
 have hkk : Same w5 w6 := hk
 have hzw6 := hkk.size
 have HA2w6 := hid (HA2w5.out.same hkk)
 have HWw6 := (show Hid (Own 0 5 .u8 w6 (.slice aW r0.length cW) r0) from HWw5.out.same hkk)
 have HX2w6 := hid (HX2w5.out.same hkk)
 have HT2w6 := hid (HT2w5.out.same hkk)
 have HGw6 := (show Hid (Own 0 5 .u8 w6 (.slice aG r0.length cG) r0) from HGw5.out.same hkk)
 have HKw6 := hid (HKw5.out.trans hkk)
 clear hkk hk
 clear cA2_0 cA2_1 cA2_2 cA2_3 cA2_4 cA2_5 cA2_6 cA2_7 cA2_8 cA2_9 cA2_10 cA2_11 cA2_12 cA2_13 lA2 cT2_0 cT2_1 cT2_2 cT2_3 cT2_4 cT2_5 cT2_6 cT2_7 cT2_8 cT2_9 cT2_10 cT2_11 cT2_12 cT2_13 lT2
 obtain ⟨cA2_0, cA2_1, cA2_2, cA2_3, cA2_4, cA2_5, cA2_6, cA2_7, cA2_8, cA2_9, cA2_10, cA2_11, cA2_12, cA2_13⟩ := HA2w6.out.all14
 have lA2 := HA2w6.out.lt
 obtain ⟨cT2_0, cT2_1, cT2_2, cT2_3, cT2_4, cT2_5, cT2_6, cT2_7, cT2_8, cT2_9, cT2_10, cT2_11, cT2_12, cT2_13⟩ := HT2w6.out.all14
 have lT2 := HT2w6.out.lt
 go_wp2_with fail
 go_cut [39] (fun v wc => v = .bool false ∧ Hid (Same w6 wc))
 case first =>
  have HD1 : Hid (Same w w6.drew) := HKw6.out.drew
  have HD2 : Hid (Same w6 w6.drew) := (Kept.refl _ _).drew
  go_region_with (first | (go_at_call 6; refine (toLogRecord_any ⟨p2kind, p2txn, p2prev, p2page, p2slot, ⟨p2bU, ⟨p2bDe, p2bDa, p2bDc, p2bDb⟩⟩, ⟨p2aU, ⟨p2aDe, p2aDa, p2aDc, p2aDb⟩⟩, p2uN, p2nT, ⟨p2tXe, p2tXa, p2tXn, p2tXc, p2tXb⟩, ⟨p2dYe, p2dYa, p2dYn, p2dYc, p2dYb⟩, ⟨p2iMe, p2iMa, p2iMc, p2iMb⟩⟩ _ (by omega) (by exact HV2.out.same HD1.out)).mono ?_; rintro e wx7 ⟨⟨zkind, ztxn, zprev, zpage, zslot, ⟨zbU, ⟨zbDe, zbDa, zbDc, zbDb⟩⟩, ⟨zaU, ⟨zaDe, zaDa, zaDc, zaDb⟩⟩, zuN, znT, ⟨ztXe, ztXa, ztXn, ztXc, ztXb⟩, ⟨zdYe, zdYa, zdYn, zdYc, zdYb⟩, ⟨ziMe, ziMa, ziMc, ziMb⟩⟩, rfl, hd7, _, hf7, ho7, hk7⟩; have HO7 := (show Hid (OwnL wx7 (StLogRecord.rows ⟨zkind, ztxn, zprev, zpage, zslot, ⟨zbU, ⟨zbDe, zbDa, zbDc, zbDb⟩⟩, ⟨zaU, ⟨zaDe, zaDa, zaDc, zaDb⟩⟩, zuN, znT, ⟨ztXe, ztXa, ztXn, ztXc, ztXb⟩, ⟨zdYe, zdYa, zdYn, zdYc, zdYb⟩, ⟨ziMe, ziMa, ziMc, ziMb⟩⟩)) from ho7); have HQ7 := (show Hid (StLogRecord.dat ⟨zkind, ztxn, zprev, zpage, zslot, ⟨zbU, ⟨zbDe, zbDa, zbDc, zbDb⟩⟩, ⟨zaU, ⟨zaDe, zaDa, zaDc, zaDb⟩⟩, zuN, znT, ⟨ztXe, ztXa, ztXn, ztXc, ztXb⟩, ⟨zdYe, zdYa, zdYn, zdYc, zdYb⟩, ⟨ziMe, ziMa, ziMc, ziMb⟩⟩ = StLogRecord.dat ⟨p2kind, p2txn, p2prev, p2page, p2slot, ⟨p2bU, ⟨p2bDe, p2bDa, p2bDc, p2bDb⟩⟩, ⟨p2aU, ⟨p2aDe, p2aDa, p2aDc, p2aDb⟩⟩, p2uN, p2nT, ⟨p2tXe, p2tXa, p2tXn, p2tXc, p2tXb⟩, ⟨p2dYe, p2dYa, p2dYn, p2dYc, p2dYb⟩, ⟨p2iMe, p2iMa, p2iMc, p2iMb⟩⟩) from hd7); have HK7 : Hid (Same w6 wx7) := HD2.out.trans hk7; clear ho7 hd7 hf7 hk7; dsimp only [StLogRecord.val, StPageRecord.val, BS.v, FR.v]; have y0 : wx7.cell? ⟨w4.heap.size, 0, none⟩ = some (.int .i64 X2kind) := (HT2w6.out.same HK7.out).cell 0; have y1 : wx7.cell? ⟨w4.heap.size, 1, none⟩ = some (.int .i64 X2txn) := (HT2w6.out.same HK7.out).cell 1; have y2 : wx7.cell? ⟨w4.heap.size, 2, none⟩ = some (.int .i64 X2prev) := (HT2w6.out.same HK7.out).cell 2; have y3 : wx7.cell? ⟨w4.heap.size, 3, none⟩ = some (.int .i64 X2page) := (HT2w6.out.same HK7.out).cell 3; have y4 : wx7.cell? ⟨w4.heap.size, 4, none⟩ = some (.int .i64 X2slot) := (HT2w6.out.same HK7.out).cell 4; have y5 : wx7.cell? ⟨w4.heap.size, 5, none⟩ = some (.bool X2bU) := (HT2w6.out.same HK7.out).cell 5; have y6 : wx7.cell? ⟨w4.heap.size, 6, none⟩ = some (.slice X2bDa X2bDb.length X2bDc) := (HT2w6.out.same HK7.out).cell 6; have y7 : wx7.cell? ⟨w4.heap.size, 7, none⟩ = some (.bool X2aU) := (HT2w6.out.same HK7.out).cell 7; have y8 : wx7.cell? ⟨w4.heap.size, 8, none⟩ = some (.slice X2aDa X2aDb.length X2aDc) := (HT2w6.out.same HK7.out).cell 8; have y9 : wx7.cell? ⟨w4.heap.size, 9, none⟩ = some (.int .i64 X2uN) := (HT2w6.out.same HK7.out).cell 9; have y10 : wx7.cell? ⟨w4.heap.size, 10, none⟩ = some (.int .i64 X2nT) := (HT2w6.out.same HK7.out).cell 10; have y11 : wx7.cell? ⟨w4.heap.size, 11, none⟩ = some (.slice X2tXa X2tXn X2tXc) := (HT2w6.out.same HK7.out).cell 11; have y12 : wx7.cell? ⟨w4.heap.size, 12, none⟩ = some (.slice X2dYa X2dYn X2dYc) := (HT2w6.out.same HK7.out).cell 12; have y13 : wx7.cell? ⟨w4.heap.size, 13, none⟩ = some (.slice X2iMa X2iMb.length X2iMc) := (HT2w6.out.same HK7.out).cell 13) | (go_at_call 9; refine (eqLogRecord_own ⟨X2kind, X2txn, X2prev, X2page, X2slot, ⟨X2bU, ⟨X2bDe, X2bDa, X2bDc, X2bDb⟩⟩, ⟨X2aU, ⟨X2aDe, X2aDa, X2aDc, X2aDb⟩⟩, X2uN, X2nT, ⟨X2tXe, X2tXa, X2tXn, X2tXc, X2tXb⟩, ⟨X2dYe, X2dYa, X2dYn, X2dYc, X2dYb⟩, ⟨X2iMe, X2iMa, X2iMc, X2iMb⟩⟩ ⟨zkind, ztxn, zprev, zpage, zslot, ⟨zbU, ⟨zbDe, zbDa, zbDc, zbDb⟩⟩, ⟨zaU, ⟨zaDe, zaDa, zaDc, zaDb⟩⟩, zuN, znT, ⟨ztXe, ztXa, ztXn, ztXc, ztXb⟩, ⟨zdYe, zdYa, zdYn, zdYc, zdYb⟩, ⟨ziMe, ziMa, ziMc, ziMb⟩⟩ _ (by have h1 := StLogRecord.size_rd (StLogRecord.own_rd HX2w6.out); have h2 := HZX2.out; omega) (HCX2.out.trans HQ7.out.symm) (HX2w6.out.same HK7.out) HO7.out).mono ?_; rintro e wx8 ⟨rfl, hk8⟩))
  all_goals
   have HK8 : Hid (Same w6 wx8) := HK7.out.trans hk8
   clear hk8
   go_wp2_with fail
   go_meet
   case rel => exact ⟨rfl, HK8⟩
 case rest =>
 obtain ⟨rfl, HKC⟩ := hcut
 obtain ⟨w7, hwc⟩ : ∃ x, x = wc := ⟨_, rfl⟩
 subst hwc
 clear cA2_0 cA2_1 cA2_2 cA2_3 cA2_4 cA2_5 cA2_6 cA2_7 cA2_8 cA2_9 cA2_10 cA2_11 cA2_12 cA2_13 lA2 cT2_0 cT2_1 cT2_2 cT2_3 cT2_4 cT2_5 cT2_6 cT2_7 cT2_8 cT2_9 cT2_10 cT2_11 cT2_12 cT2_13 lT2
 have hkk : Same w6 w7 := HKC.out
 have hzw7 := hkk.size
 have HA2w7 := hid (HA2w6.out.same hkk)
 have HWw7 := (show Hid (Own 0 5 .u8 w7 (.slice aW r0.length cW) r0) from HWw6.out.same hkk)
 have HX2w7 := hid (HX2w6.out.same hkk)
 have HT2w7 := hid (HT2w6.out.same hkk)
 have HGw7 := (show Hid (Own 0 5 .u8 w7 (.slice aG r0.length cG) r0) from HGw6.out.same hkk)
 have HKw7 := hid (HKw6.out.trans hkk)
 clear hkk
 have hE0 : (0 : Int) ≤ 1 := by omega
 have hE0b : (1 : Int) ≤ 1 := by omega
 have hxz2 := StLogRecord.size_rd (StLogRecord.own_rd HX2w7.out)
 have hxy2 := HZX2.out
 have hxx2 := StLogRecord.size_le ⟨X2kind, X2txn, X2prev, X2page, X2slot, ⟨X2bU, ⟨X2bDe, X2bDa, X2bDc, X2bDb⟩⟩, ⟨X2aU, ⟨X2aDe, X2aDa, X2aDc, X2aDb⟩⟩, X2uN, X2nT, ⟨X2tXe, X2tXa, X2tXn, X2tXc, X2tXb⟩, ⟨X2dYe, X2dYa, X2dYn, X2dYc, X2dYb⟩, ⟨X2iMe, X2iMa, X2iMc, X2iMb⟩⟩
 obtain ⟨E1, hE⟩ : ∃ E, 1 + StLogRecord.size ⟨X2kind, X2txn, X2prev, X2page, X2slot, ⟨X2bU, ⟨X2bDe, X2bDa, X2bDc, X2bDb⟩⟩, ⟨X2aU, ⟨X2aDe, X2aDa, X2aDc, X2aDb⟩⟩, X2uN, X2nT, ⟨X2tXe, X2tXa, X2tXn, X2tXc, X2tXb⟩, ⟨X2dYe, X2dYa, X2dYn, X2dYc, X2dYb⟩, ⟨X2iMe, X2iMa, X2iMc, X2iMb⟩⟩ = E := ⟨_, rfl⟩
 have hE1 : 0 ≤ E1 := by omega
 have hE1b : E1 ≤ 5000001 := by omega
 have HE1 := (show Hid (1 + StLogRecord.size ⟨X2kind, X2txn, X2prev, X2page, X2slot, ⟨X2bU, ⟨X2bDe, X2bDa, X2bDc, X2bDb⟩⟩, ⟨X2aU, ⟨X2aDe, X2aDa, X2aDc, X2aDb⟩⟩, X2uN, X2nT, ⟨X2tXe, X2tXa, X2tXn, X2tXc, X2tXb⟩, ⟨X2dYe, X2dYa, X2dYn, X2dYc, X2dYb⟩, ⟨X2iMe, X2iMa, X2iMc, X2iMb⟩⟩ = E1) from hE)
 clear hE hxz2 hxy2 hxx2
 as_aux_lemma =>
 obtain ⟨cA2_0, cA2_1, cA2_2, cA2_3, cA2_4, cA2_5, cA2_6, cA2_7, cA2_8, cA2_9, cA2_10, cA2_11, cA2_12, cA2_13⟩ := HA2w7.out.all14
 have lA2 := HA2w7.out.lt
 obtain ⟨cT2_0, cT2_1, cT2_2, cT2_3, cT2_4, cT2_5, cT2_6, cT2_7, cT2_8, cT2_9, cT2_10, cT2_11, cT2_12, cT2_13⟩ := HT2w7.out.all14
 have lT2 := HT2w7.out.lt
 go_wp2_with fail
 have hm := markLogRecord_own ⟨X2kind, X2txn, X2prev, X2page, X2slot, ⟨X2bU, ⟨X2bDe, X2bDa, X2bDc, X2bDb⟩⟩, ⟨X2aU, ⟨X2aDe, X2aDa, X2aDc, X2aDb⟩⟩, X2uN, X2nT, ⟨X2tXe, X2tXa, X2tXn, X2tXc, X2tXb⟩, ⟨X2dYe, X2dYa, X2dYn, X2dYc, X2dYb⟩, ⟨X2iMe, X2iMa, X2iMc, X2iMb⟩⟩ 1 w7 (by omega) (by rw [HE1.out]; omega) HX2w7.out
 rw [HE1.out] at hm
 dsimp only [StLogRecord.val, StPageRecord.val, BS.v, FR.v] at hm
 refine hm.mono ?_
 clear hm
 rintro e w8 ⟨rfl, _, hk⟩
 have hzw8 := hk.size
 have HA2w8 := (show Hid (Blk w8 (w.heap.size) 28 [.int .i64 p2kind, .int .i64 p2txn, .int .i64 p2prev, .int .i64 p2page, .int .i64 p2slot, .bool p2bU, .slice p2bDa p2bDb.length p2bDc, .bool p2aU, .slice p2aDa p2aDb.length p2aDc, .int .i64 p2uN, .int .i64 p2nT, .slice p2tXa p2tXn p2tXc, .slice p2dYa p2dYn p2dYc, .slice p2iMa p2iMb.length p2iMc]) from HA2w7.out.kept hk (fun e => by have h1 := HFX2.out _ e; omega))
 have HWw8 := (show Hid (Own 0 5 .u8 w8 (.slice aW r0.length cW) r0) from HWw7.out.kept hk (fun b hb e => by have h1 := HFX2.out _ e; have h2 := HFW.out b hb; omega))
 have HT2w8 := (show Hid (Blk w8 (w4.heap.size) 35 [.int .i64 X2kind, .int .i64 X2txn, .int .i64 X2prev, .int .i64 X2page, .int .i64 X2slot, .bool X2bU, .slice X2bDa X2bDb.length X2bDc, .bool X2aU, .slice X2aDa X2aDb.length X2aDc, .int .i64 X2uN, .int .i64 X2nT, .slice X2tXa X2tXn X2tXc, .slice X2dYa X2dYn X2dYc, .slice X2iMa X2iMb.length X2iMc]) from HT2w7.out.kept hk (fun e => by have h1 := HFX2.out _ e; omega))
 have HGw8 := (show Hid (Own 0 5 .u8 w8 (.slice aG r0.length cG) r0) from HGw7.out.kept hk (fun b hb e => by have h1 := HFX2.out _ e; have h2 := HFG.out b hb; omega))
 have HKw8 := (show Hid (Same w w8) from HKw7.out.next hk (fun b hb e => by have h1 := HFX2.out _ e; omega))
 clear cA2_0 cA2_1 cA2_2 cA2_3 cA2_4 cA2_5 cA2_6 cA2_7 cA2_8 cA2_9 cA2_10 cA2_11 cA2_12 cA2_13 lA2 cT2_0 cT2_1 cT2_2 cT2_3 cT2_4 cT2_5 cT2_6 cT2_7 cT2_8 cT2_9 cT2_10 cT2_11 cT2_12 cT2_13 lT2
 clear hk
 have hEn : ¬ E1 < 0 := by omega
 obtain ⟨cA2_0, cA2_1, cA2_2, cA2_3, cA2_4, cA2_5, cA2_6, cA2_7, cA2_8, cA2_9, cA2_10, cA2_11, cA2_12, cA2_13⟩ := HA2w8.out.all14
 have lA2 := HA2w8.out.lt
 go_wp2_with fail
 refine (eqByteS_own 0 _ _ r0 _ (by omega) HGw8.out HWw8.out).mono ?_
 rintro e w9 ⟨rfl, nn, hww⟩
 have hk : Same w8 w9 := by rw [hww]; exact (Kept.refl _ _).drewN _
 clear hww
 have hkk : Same w8 w9 := hk
 have hzw9 := hkk.size
 have HA2w9 := hid (HA2w8.out.same hkk)
 have HWw9 := (show Hid (Own 0 5 .u8 w9 (.slice aW r0.length cW) r0) from HWw8.out.same hkk)
 have HGw9 := (show Hid (Own 0 5 .u8 w9 (.slice aG r0.length cG) r0) from HGw8.out.same hkk)
 have HKw9 := hid (HKw8.out.trans hkk)
 clear hkk hk
 clear cA2_0 cA2_1 cA2_2 cA2_3 cA2_4 cA2_5 cA2_6 cA2_7 cA2_8 cA2_9 cA2_10 cA2_11 cA2_12 cA2_13 lA2
 have hM2 : ¬ (1 + (r0.length : Int)) < 0 := by omega
 obtain ⟨cA2_0, cA2_1, cA2_2, cA2_3, cA2_4, cA2_5, cA2_6, cA2_7, cA2_8, cA2_9, cA2_10, cA2_11, cA2_12, cA2_13⟩ := HA2w9.out.all14
 have lA2 := HA2w9.out.lt
 go_wp2_with fail
 refine (markByteS_own 0 _ r0 1 _ (by omega) (by omega) (by omega) HGw9.out).mono ?_
 rintro e w10 ⟨rfl, ho, hk⟩
 have hzw10 := hk.size
 have HA2w10 := (show Hid (Blk w10 (w.heap.size) 28 [.int .i64 p2kind, .int .i64 p2txn, .int .i64 p2prev, .int .i64 p2page, .int .i64 p2slot, .bool p2bU, .slice p2bDa p2bDb.length p2bDc, .bool p2aU, .slice p2aDa p2aDb.length p2aDc, .int .i64 p2uN, .int .i64 p2nT, .slice p2tXa p2tXn p2tXc, .slice p2dYa p2dYn p2dYc, .slice p2iMa p2iMb.length p2iMc]) from HA2w9.out.kept hk (fun e => by have h1 := HFG.out _ e; omega))
 have HWw10 := (show Hid (Own 0 5 .u8 w10 (.slice aW r0.length cW) r0) from HWw9.out.kept hk (fun b hb e => by have h1 := HFG.out _ e; have h2 := HFW.out b hb; omega))
 have HKw10 := (show Hid (Same w w10) from HKw9.out.next hk (fun b hb e => by have h1 := HFG.out _ e; omega))
 have HUw10 := (show Hid (Own 0 5 .u8 w10 (.slice aG r0.length cG) (marks 1 r0.length)) from ho)
 clear cA2_0 cA2_1 cA2_2 cA2_3 cA2_4 cA2_5 cA2_6 cA2_7 cA2_8 cA2_9 cA2_10 cA2_11 cA2_12 cA2_13 lA2
 clear hk ho
 as_aux_lemma =>
 obtain ⟨cA2_0, cA2_1, cA2_2, cA2_3, cA2_4, cA2_5, cA2_6, cA2_7, cA2_8, cA2_9, cA2_10, cA2_11, cA2_12, cA2_13⟩ := HA2w10.out.all14
 have lA2 := HA2w10.out.lt
 go_wp2_with fail
 refine (heldByteS_own 0 _ r0.length 1 _ (by omega) (by omega) (by omega) HUw10.out).mono ?_
 rintro e w11 ⟨rfl, hww⟩
 have hk : Same w10 w11 := by rw [hww]; exact Kept.refl _ _
 clear hww
 have hkk : Same w10 w11 := hk
 have hzw11 := hkk.size
 have HA2w11 := hid (HA2w10.out.same hkk)
 have HWw11 := (show Hid (Own 0 5 .u8 w11 (.slice aW r0.length cW) r0) from HWw10.out.same hkk)
 have HUw11 := hid (HUw10.out.same hkk)
 have HKw11 := hid (HKw10.out.trans hkk)
 clear hkk hk
 clear cA2_0 cA2_1 cA2_2 cA2_3 cA2_4 cA2_5 cA2_6 cA2_7 cA2_8 cA2_9 cA2_10 cA2_11 cA2_12 cA2_13 lA2
 obtain ⟨cA2_0, cA2_1, cA2_2, cA2_3, cA2_4, cA2_5, cA2_6, cA2_7, cA2_8, cA2_9, cA2_10, cA2_11, cA2_12, cA2_13⟩ := HA2w11.out.all14
 have lA2 := HA2w11.out.lt
 go_wp2_with fail
 refine (toLogRecord_any ⟨p2kind, p2txn, p2prev, p2page, p2slot, ⟨p2bU, ⟨p2bDe, p2bDa, p2bDc, p2bDb⟩⟩, ⟨p2aU, ⟨p2aDe, p2aDa, p2aDc, p2aDb⟩⟩, p2uN, p2nT, ⟨p2tXe, p2tXa, p2tXn, p2tXc, p2tXb⟩, ⟨p2dYe, p2dYa, p2dYn, p2dYc, p2dYb⟩, ⟨p2iMe, p2iMa, p2iMc, p2iMb⟩⟩ _ (by omega) (HV2.out.same HKw11.out)).mono ?_
 rintro e w12 ⟨⟨J2kind, J2txn, J2prev, J2page, J2slot, ⟨J2bU, ⟨J2bDe, J2bDa, J2bDc, J2bDb⟩⟩, ⟨J2aU, ⟨J2aDe, J2aDa, J2aDc, J2aDb⟩⟩, J2uN, J2nT, ⟨J2tXe, J2tXa, J2tXn, J2tXc, J2tXb⟩, ⟨J2dYe, J2dYa, J2dYn, J2dYc, J2dYb⟩, ⟨J2iMe, J2iMa, J2iMc, J2iMb⟩⟩, rfl, hd, hz, hf, ho, hk⟩
 have HCJ2 := (show Hid (StLogRecord.dat ⟨J2kind, J2txn, J2prev, J2page, J2slot, ⟨J2bU, ⟨J2bDe, J2bDa, J2bDc, J2bDb⟩⟩, ⟨J2aU, ⟨J2aDe, J2aDa, J2aDc, J2aDb⟩⟩, J2uN, J2nT, ⟨J2tXe, J2tXa, J2tXn, J2tXc, J2tXb⟩, ⟨J2dYe, J2dYa, J2dYn, J2dYc, J2dYb⟩, ⟨J2iMe, J2iMa, J2iMc, J2iMb⟩⟩ = StLogRecord.dat ⟨p2kind, p2txn, p2prev, p2page, p2slot, ⟨p2bU, ⟨p2bDe, p2bDa, p2bDc, p2bDb⟩⟩, ⟨p2aU, ⟨p2aDe, p2aDa, p2aDc, p2aDb⟩⟩, p2uN, p2nT, ⟨p2tXe, p2tXa, p2tXn, p2tXc, p2tXb⟩, ⟨p2dYe, p2dYa, p2dYn, p2dYc, p2dYb⟩, ⟨p2iMe, p2iMa, p2iMc, p2iMb⟩⟩) from hd)
 have HZJ2 := (show Hid (StLogRecord.szs ⟨J2kind, J2txn, J2prev, J2page, J2slot, ⟨J2bU, ⟨J2bDe, J2bDa, J2bDc, J2bDb⟩⟩, ⟨J2aU, ⟨J2aDe, J2aDa, J2aDc, J2aDb⟩⟩, J2uN, J2nT, ⟨J2tXe, J2tXa, J2tXn, J2tXc, J2tXb⟩, ⟨J2dYe, J2dYa, J2dYn, J2dYc, J2dYb⟩, ⟨J2iMe, J2iMa, J2iMc, J2iMb⟩⟩ = StLogRecord.szs ⟨p2kind, p2txn, p2prev, p2page, p2slot, ⟨p2bU, ⟨p2bDe, p2bDa, p2bDc, p2bDb⟩⟩, ⟨p2aU, ⟨p2aDe, p2aDa, p2aDc, p2aDb⟩⟩, p2uN, p2nT, ⟨p2tXe, p2tXa, p2tXn, p2tXc, p2tXb⟩, ⟨p2dYe, p2dYa, p2dYn, p2dYc, p2dYb⟩, ⟨p2iMe, p2iMa, p2iMc, p2iMb⟩⟩) from hz)
 clear hd hz
 dsimp only [StLogRecord.val, StPageRecord.val, BS.v, FR.v]
 have HFJ2 := (show Hid (∀ b, FootL (StLogRecord.rows ⟨J2kind, J2txn, J2prev, J2page, J2slot, ⟨J2bU, ⟨J2bDe, J2bDa, J2bDc, J2bDb⟩⟩, ⟨J2aU, ⟨J2aDe, J2aDa, J2aDc, J2aDb⟩⟩, J2uN, J2nT, ⟨J2tXe, J2tXa, J2tXn, J2tXc, J2tXb⟩, ⟨J2dYe, J2dYa, J2dYn, J2dYc, J2dYb⟩, ⟨J2iMe, J2iMa, J2iMc, J2iMb⟩⟩) b → w11.heap.size ≤ b ∧ b < w12.heap.size) from fun b hb => ⟨hf b hb, ho.lt b hb⟩)
 have HJ2w12 := (show Hid (OwnL w12 (StLogRecord.rows ⟨J2kind, J2txn, J2prev, J2page, J2slot, ⟨J2bU, ⟨J2bDe, J2bDa, J2bDc, J2bDb⟩⟩, ⟨J2aU, ⟨J2aDe, J2aDa, J2aDc, J2aDb⟩⟩, J2uN, J2nT, ⟨J2tXe, J2tXa, J2tXn, J2tXc, J2tXb⟩, ⟨J2dYe, J2dYa, J2dYn, J2dYc, J2dYb⟩, ⟨J2iMe, J2iMa, J2iMc, J2iMb⟩⟩)) from ho)
 clear hf ho
 have hkk : Same w11 w12 := hk
 have hzw12 := hkk.size
 have HA2w12 := hid (HA2w11.out.same hkk)
 have HWw12 := (show Hid (Own 0 5 .u8 w12 (.slice aW r0.length cW) r0) from HWw11.out.same hkk)
 have HUw12 := hid (HUw11.out.same hkk)
 have HKw12 := hid (HKw11.out.trans hkk)
 clear hkk hk
 clear cA2_0 cA2_1 cA2_2 cA2_3 cA2_4 cA2_5 cA2_6 cA2_7 cA2_8 cA2_9 cA2_10 cA2_11 cA2_12 cA2_13 lA2
 obtain ⟨cA2_0, cA2_1, cA2_2, cA2_3, cA2_4, cA2_5, cA2_6, cA2_7, cA2_8, cA2_9, cA2_10, cA2_11, cA2_12, cA2_13⟩ := HA2w12.out.all14
 have lA2 := HA2w12.out.lt
 go_wp2_with fail
 refine (implFrame_any s0 s1 ⟨J2kind, J2txn, J2prev, J2page, J2slot, ⟨J2bU, ⟨J2bDe, J2bDa, J2bDc, J2bDb⟩⟩, ⟨J2aU, ⟨J2aDe, J2aDa, J2aDc, J2aDb⟩⟩, J2uN, J2nT, ⟨J2tXe, J2tXa, J2tXn, J2tXc, J2tXb⟩, ⟨J2dYe, J2dYa, J2dYn, J2dYc, J2dYb⟩, ⟨J2iMe, J2iMa, J2iMc, J2iMb⟩⟩ _ HB0.out HB1.out (StLogRecord.isB_dat HCJ2.out HB2.out) (by have := HZJ2.out; omega) (StLogRecord.own_rd HJ2w12.out)).mono ?_
 rintro e w13 ⟨aL, cL, rfl, hf, ho, hk⟩
 rw [HCJ2.out] at hf ho ⊢
 rw [HR.out] at hf ho ⊢
 have HFL := (show Hid (∀ b, (Value.slice aL r0.length cL).ownBlock = some b → w12.heap.size ≤ b ∧ b < w13.heap.size) from fun b hb => ⟨hf b hb, (ho.lt b hb).2⟩)
 have HLw13 := (show Hid (Own 0 5 .u8 w13 (.slice aL r0.length cL) r0) from ho)
 clear hf ho
 have hkk : Same w12 w13 := hk
 have hzw13 := hkk.size
 have HA2w13 := hid (HA2w12.out.same hkk)
 have HWw13 := (show Hid (Own 0 5 .u8 w13 (.slice aW r0.length cW) r0) from HWw12.out.same hkk)
 have HUw13 := hid (HUw12.out.same hkk)
 have HJ2w13 := hid (HJ2w12.out.same hkk)
 have HKw13 := hid (HKw12.out.trans hkk)
 clear hkk hk
 clear cA2_0 cA2_1 cA2_2 cA2_3 cA2_4 cA2_5 cA2_6 cA2_7 cA2_8 cA2_9 cA2_10 cA2_11 cA2_12 cA2_13 lA2
 as_aux_lemma =>
 obtain ⟨cA2_0, cA2_1, cA2_2, cA2_3, cA2_4, cA2_5, cA2_6, cA2_7, cA2_8, cA2_9, cA2_10, cA2_11, cA2_12, cA2_13⟩ := HA2w13.out.all14
 have lA2 := HA2w13.out.lt
 go_wp2_with fail
 refine (eqByteS_own 0 _ _ r0 _ (by omega) HLw13.out HWw13.out).mono ?_
 rintro e w14 ⟨rfl, nn, hww⟩
 have hk : Same w13 w14 := by rw [hww]; exact (Kept.refl _ _).drewN _
 clear hww
 have hkk : Same w13 w14 := hk
 have hzw14 := hkk.size
 have HA2w14 := hid (HA2w13.out.same hkk)
 have HWw14 := (show Hid (Own 0 5 .u8 w14 (.slice aW r0.length cW) r0) from HWw13.out.same hkk)
 have HUw14 := hid (HUw13.out.same hkk)
 have HLw14 := (show Hid (Own 0 5 .u8 w14 (.slice aL r0.length cL) r0) from HLw13.out.same hkk)
 have HKw14 := hid (HKw13.out.trans hkk)
 clear hkk hk
 clear cA2_0 cA2_1 cA2_2 cA2_3 cA2_4 cA2_5 cA2_6 cA2_7 cA2_8 cA2_9 cA2_10 cA2_11 cA2_12 cA2_13 lA2
 obtain ⟨cA2_0, cA2_1, cA2_2, cA2_3, cA2_4, cA2_5, cA2_6, cA2_7, cA2_8, cA2_9, cA2_10, cA2_11, cA2_12, cA2_13⟩ := HA2w14.out.all14
 have lA2 := HA2w14.out.lt
 go_wp2_with fail
 refine (heldByteS_own 0 _ r0.length 1 _ (by omega) (by omega) (by omega) HUw14.out).mono ?_
 rintro e w15 ⟨rfl, hww⟩
 have hk : Same w14 w15 := by rw [hww]; exact Kept.refl _ _
 clear hww
 have hkk : Same w14 w15 := hk
 have hzw15 := hkk.size
 have HA2w15 := hid (HA2w14.out.same hkk)
 have HUw15 := hid (HUw14.out.same hkk)
 have HKw15 := hid (HKw14.out.trans hkk)
 clear hkk hk
 clear cA2_0 cA2_1 cA2_2 cA2_3 cA2_4 cA2_5 cA2_6 cA2_7 cA2_8 cA2_9 cA2_10 cA2_11 cA2_12 cA2_13 lA2
 go_wp2
 go_ret
 exact ⟨rfl, HKw15.out⟩
end Go.Proofs.YtdgmecmkkddpeaaGreat
