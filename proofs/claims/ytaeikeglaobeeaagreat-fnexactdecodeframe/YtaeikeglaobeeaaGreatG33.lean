import Derived.Test.YtaeikeglaobeeaaGreatG01
import Derived.Test.YtaeikeglaobeeaaGreatG32
import Derived.Test.YtaeikeglaobeeaaGreatG02
import Derived.Test.YtaeikeglaobeeaaGreatFrS
import Derived.Test.YtaeikeglaobeeaaGreatG00
namespace Go.Proofs.YtaeikeglaobeeaaGreat
set_option maxRecDepth 100000
set_option maxHeartbeats 4000000
set_option linter.unusedVariables false
set_option linter.unusedSimpArgs false
open Go.RowKit
theorem markLogRecord_own (x : StLogRecord) (k0 : Int) (w : World) (h0 : 0 ≤ k0) (h1 : k0 + x.size ≤ 1125899906842624) (ha : OwnL w x.rows) :
  Calls Tryz.prog 30 #[x.val, .int .i64 k0] w fun e w' => e = .returned (.int .i64 (k0 + x.size)) ∧ OwnL w' (x.marked k0).rows ∧ Kept (FootL x.rows) w w' := by
 have hlt := ha.lt
 have HLT := (show Hid (∀ b, FootL x.rows b → b < w.heap.size) from hlt)
 have HA := (show Hid (OwnL w x.rows) from ha)
 clear hlt
 obtain ⟨xkind, xtxn, xprev, xpage, xslot, ⟨xbU, ⟨xbDe, xbDa, xbDc, xbDb⟩⟩, ⟨xaU, ⟨xaDe, xaDa, xaDc, xaDb⟩⟩, xuN, xnT, ⟨xtXe, xtXa, xtXn, xtXc, xtXb⟩, ⟨xdYe, xdYa, xdYn, xdYc, xdYb⟩, ⟨xiMe, xiMa, xiMc, xiMb⟩⟩ := x
 have HO0_0 := (show Hid (OwnL w (StPageRecord.rows ⟨xbU, ⟨xbDe, xbDa, xbDc, xbDb⟩⟩)) from ha.left)
 have HO1_0 := (show Hid (OwnL w (StPageRecord.rows ⟨xaU, ⟨xaDe, xaDa, xaDc, xaDb⟩⟩)) from ha.right.left)
 have HO2_0 := (show Hid (OwnL w [⟨xtXe, 4, .slice xtXa xtXn xtXc, xtXn, vals .i64 xtXb⟩]) from ha.right.right.left)
 have HO3_0 := (show Hid (OwnL w [⟨xdYe, 2, .slice xdYa xdYn xdYc, xdYn, vals .i64 xdYb⟩]) from ha.right.right.right.left)
 have HO4_0 := (show Hid (OwnL w [ints xiMe .u8 (.slice xiMa xiMb.length xiMc) xiMb]) from ha.right.right.right.right)
 have HP0_1 := (show Hid (∀ b, FootL (StPageRecord.rows ⟨xbU, ⟨xbDe, xbDa, xbDc, xbDb⟩⟩) b → ¬ FootL (StPageRecord.rows ⟨xaU, ⟨xaDe, xaDa, xaDc, xaDb⟩⟩) b) from fun b hi hj => OwnL.cut (ha) b hi ((FootL_append _ _ _).2 (.inl hj)))
 have HP0_2 := (show Hid (∀ b, FootL (StPageRecord.rows ⟨xbU, ⟨xbDe, xbDa, xbDc, xbDb⟩⟩) b → ¬ FootL [⟨xtXe, 4, .slice xtXa xtXn xtXc, xtXn, vals .i64 xtXb⟩] b) from fun b hi hj => OwnL.cut (ha) b hi ((FootL_append _ _ _).2 (.inr ((FootL_append _ _ _).2 (.inl hj)))))
 have HP0_3 := (show Hid (∀ b, FootL (StPageRecord.rows ⟨xbU, ⟨xbDe, xbDa, xbDc, xbDb⟩⟩) b → ¬ FootL [⟨xdYe, 2, .slice xdYa xdYn xdYc, xdYn, vals .i64 xdYb⟩] b) from fun b hi hj => OwnL.cut (ha) b hi ((FootL_append _ _ _).2 (.inr ((FootL_append _ _ _).2 (.inr ((FootL_append _ _ _).2 (.inl hj)))))))
 have HP0_4 := (show Hid (∀ b, FootL (StPageRecord.rows ⟨xbU, ⟨xbDe, xbDa, xbDc, xbDb⟩⟩) b → ¬ FootL [ints xiMe .u8 (.slice xiMa xiMb.length xiMc) xiMb] b) from fun b hi hj => OwnL.cut (ha) b hi ((FootL_append _ _ _).2 (.inr ((FootL_append _ _ _).2 (.inr ((FootL_append _ _ _).2 (.inr (hj))))))))
 have HP1_2 := (show Hid (∀ b, FootL (StPageRecord.rows ⟨xaU, ⟨xaDe, xaDa, xaDc, xaDb⟩⟩) b → ¬ FootL [⟨xtXe, 4, .slice xtXa xtXn xtXc, xtXn, vals .i64 xtXb⟩] b) from fun b hi hj => OwnL.cut (ha.right) b hi ((FootL_append _ _ _).2 (.inl hj)))
 have HP1_3 := (show Hid (∀ b, FootL (StPageRecord.rows ⟨xaU, ⟨xaDe, xaDa, xaDc, xaDb⟩⟩) b → ¬ FootL [⟨xdYe, 2, .slice xdYa xdYn xdYc, xdYn, vals .i64 xdYb⟩] b) from fun b hi hj => OwnL.cut (ha.right) b hi ((FootL_append _ _ _).2 (.inr ((FootL_append _ _ _).2 (.inl hj)))))
 have HP1_4 := (show Hid (∀ b, FootL (StPageRecord.rows ⟨xaU, ⟨xaDe, xaDa, xaDc, xaDb⟩⟩) b → ¬ FootL [ints xiMe .u8 (.slice xiMa xiMb.length xiMc) xiMb] b) from fun b hi hj => OwnL.cut (ha.right) b hi ((FootL_append _ _ _).2 (.inr ((FootL_append _ _ _).2 (.inr (hj))))))
 have HP2_3 := (show Hid (∀ b, FootL [⟨xtXe, 4, .slice xtXa xtXn xtXc, xtXn, vals .i64 xtXb⟩] b → ¬ FootL [⟨xdYe, 2, .slice xdYa xdYn xdYc, xdYn, vals .i64 xdYb⟩] b) from fun b hi hj => OwnL.cut (ha.right.right) b hi ((FootL_append _ _ _).2 (.inl hj)))
 have HP2_4 := (show Hid (∀ b, FootL [⟨xtXe, 4, .slice xtXa xtXn xtXc, xtXn, vals .i64 xtXb⟩] b → ¬ FootL [ints xiMe .u8 (.slice xiMa xiMb.length xiMc) xiMb] b) from fun b hi hj => OwnL.cut (ha.right.right) b hi ((FootL_append _ _ _).2 (.inr (hj))))
 have HP3_4 := (show Hid (∀ b, FootL [⟨xdYe, 2, .slice xdYa xdYn xdYc, xdYn, vals .i64 xdYb⟩] b → ¬ FootL [ints xiMe .u8 (.slice xiMa xiMb.length xiMc) xiMb] b) from fun b hi hj => OwnL.cut (ha.right.right.right) b hi (hj))
 clear ha
 simp only [StLogRecord.size] at h1
 have hz0 := StPageRecord.size_le ⟨xbU, ⟨xbDe, xbDa, xbDc, xbDb⟩⟩
 have hz1 := StPageRecord.size_le ⟨xaU, ⟨xaDe, xaDa, xaDc, xaDb⟩⟩
 dsimp only [StLogRecord.val, StPageRecord.val, BS.v, FR.v]
 go_enter Tryz.func30, Tryz.ntmps30
 have HK_0 := (show Hid (Kept (FootL (StLogRecord.rows ⟨xkind, xtxn, xprev, xpage, xslot, ⟨xbU, ⟨xbDe, xbDa, xbDc, xbDb⟩⟩, ⟨xaU, ⟨xaDe, xaDa, xaDc, xaDb⟩⟩, xuN, xnT, ⟨xtXe, xtXa, xtXn, xtXc, xtXb⟩, ⟨xdYe, xdYa, xdYn, xdYc, xdYb⟩, ⟨xiMe, xiMa, xiMc, xiMb⟩⟩)) w (w.alloc (.cells #[.int .i64 xkind, .int .i64 xtxn, .int .i64 xprev, .int .i64 xpage, .int .i64 xslot, .bool xbU, .slice xbDa xbDb.length xbDc, .bool xaU, .slice xaDa xaDb.length xaDc, .int .i64 xuN, .int .i64 xnT, .slice xtXa xtXn xtXc, .slice xdYa xdYn xdYc, .slice xiMa xiMb.length xiMc] 28))) from (Kept.refl _ _).alloc _)
 have HB_0 := hid (Blk.newL w [.int .i64 xkind, .int .i64 xtxn, .int .i64 xprev, .int .i64 xpage, .int .i64 xslot, .bool xbU, .slice xbDa xbDb.length xbDc, .bool xaU, .slice xaDa xaDb.length xaDc, .int .i64 xuN, .int .i64 xnT, .slice xtXa xtXn xtXc, .slice xdYa xdYn xdYc, .slice xiMa xiMb.length xiMc] 28)
 go_wp2_with fail
 refine (markPageRecord_own ⟨xbU, ⟨xbDe, xbDa, xbDc, xbDb⟩⟩ (k0) _ (by omega) (by omega) (HO0_0.out.same ((Kept.refl _ _).alloc _))).mono ?_
 rintro e w1 ⟨rfl, ho, hk⟩
 have HB_1 := (show Hid (Blk w1 w.heap.size 28 [.int .i64 xkind, .int .i64 xtxn, .int .i64 xprev, .int .i64 xpage, .int .i64 xslot, .bool xbU, .slice xbDa xbDb.length xbDc, .bool xaU, .slice xaDa xaDb.length xaDc, .int .i64 xuN, .int .i64 xnT, .slice xtXa xtXn xtXc, .slice xdYa xdYn xdYc, .slice xiMa xiMb.length xiMc]) from HB_0.out.kept hk (fun e => by have := HLT.out _ ((FootL_append _ _ _).2 (.inl e)); omega))
 have HK_1 := (show Hid (Kept (FootL (StLogRecord.rows ⟨xkind, xtxn, xprev, xpage, xslot, ⟨xbU, ⟨xbDe, xbDa, xbDc, xbDb⟩⟩, ⟨xaU, ⟨xaDe, xaDa, xaDc, xaDb⟩⟩, xuN, xnT, ⟨xtXe, xtXa, xtXn, xtXc, xtXb⟩, ⟨xdYe, xdYa, xdYn, xdYc, xdYb⟩, ⟨xiMe, xiMa, xiMc, xiMb⟩⟩)) w w1) from HK_0.out.next hk (fun b _ e => (FootL_append _ _ _).2 (.inl e)))
 have HO0_1 := (show Hid (OwnL w1 (StPageRecord.marked ⟨xbU, ⟨xbDe, xbDa, xbDc, xbDb⟩⟩ (k0)).rows) from ho)
 have HO1_1 := (show Hid (OwnL w1 (StPageRecord.rows ⟨xaU, ⟨xaDe, xaDa, xaDc, xaDb⟩⟩)) from (HO1_0.out.same ((Kept.refl _ _).alloc _)).kept hk (fun b hb e => HP0_1.out b e hb))
 have HO2_1 := (show Hid (OwnL w1 [⟨xtXe, 4, .slice xtXa xtXn xtXc, xtXn, vals .i64 xtXb⟩]) from (HO2_0.out.same ((Kept.refl _ _).alloc _)).kept hk (fun b hb e => HP0_2.out b e hb))
 have HO3_1 := (show Hid (OwnL w1 [⟨xdYe, 2, .slice xdYa xdYn xdYc, xdYn, vals .i64 xdYb⟩]) from (HO3_0.out.same ((Kept.refl _ _).alloc _)).kept hk (fun b hb e => HP0_3.out b e hb))
 have HO4_1 := (show Hid (OwnL w1 [ints xiMe .u8 (.slice xiMa xiMb.length xiMc) xiMb]) from (HO4_0.out.same ((Kept.refl _ _).alloc _)).kept hk (fun b hb e => HP0_4.out b e hb))
 clear ho hk HB_0 HK_0 HO0_0 HO1_0 HO2_0 HO3_0 HO4_0
 have hsz0 : StPageRecord.size ⟨xbU, ⟨xbDe, xbDa, xbDc, xbDb⟩⟩ = StPageRecord.size ⟨xbU, ⟨xbDe, xbDa, xbDc, xbDb⟩⟩ := rfl
 have d0_7 := HB_1.out.c7
 have d0_8 := HB_1.out.c8
 have d0_11 := HB_1.out.c11
 have d0_12 := HB_1.out.c12
 have d0_13 := HB_1.out.c13
 go_wp2_with fail
 refine (markPageRecord_own ⟨xaU, ⟨xaDe, xaDa, xaDc, xaDb⟩⟩ (k0 + (StPageRecord.size ⟨xbU, ⟨xbDe, xbDa, xbDc, xbDb⟩⟩)) _ (by omega) (by omega) (HO1_1.out)).mono ?_
 rintro e w2 ⟨rfl, ho, hk⟩
 have HB_2 := (show Hid (Blk w2 w.heap.size 28 [.int .i64 xkind, .int .i64 xtxn, .int .i64 xprev, .int .i64 xpage, .int .i64 xslot, .bool xbU, .slice xbDa xbDb.length xbDc, .bool xaU, .slice xaDa xaDb.length xaDc, .int .i64 xuN, .int .i64 xnT, .slice xtXa xtXn xtXc, .slice xdYa xdYn xdYc, .slice xiMa xiMb.length xiMc]) from HB_1.out.kept hk (fun e => by have := HLT.out _ ((FootL_append _ _ _).2 (.inr ((FootL_append _ _ _).2 (.inl e)))); omega))
 have HK_2 := (show Hid (Kept (FootL (StLogRecord.rows ⟨xkind, xtxn, xprev, xpage, xslot, ⟨xbU, ⟨xbDe, xbDa, xbDc, xbDb⟩⟩, ⟨xaU, ⟨xaDe, xaDa, xaDc, xaDb⟩⟩, xuN, xnT, ⟨xtXe, xtXa, xtXn, xtXc, xtXb⟩, ⟨xdYe, xdYa, xdYn, xdYc, xdYb⟩, ⟨xiMe, xiMa, xiMc, xiMb⟩⟩)) w w2) from HK_1.out.next hk (fun b _ e => (FootL_append _ _ _).2 (.inr ((FootL_append _ _ _).2 (.inl e)))))
 have HO0_2 := (show Hid (OwnL w2 (StPageRecord.marked ⟨xbU, ⟨xbDe, xbDa, xbDc, xbDb⟩⟩ (k0)).rows) from (HO0_1.out).kept hk (fun b hb e => HP0_1.out b ((StPageRecord.foot_marked _ _ b).1 hb) e))
 have HO1_2 := (show Hid (OwnL w2 (StPageRecord.marked ⟨xaU, ⟨xaDe, xaDa, xaDc, xaDb⟩⟩ (k0 + (StPageRecord.size ⟨xbU, ⟨xbDe, xbDa, xbDc, xbDb⟩⟩))).rows) from ho)
 have HO2_2 := (show Hid (OwnL w2 [⟨xtXe, 4, .slice xtXa xtXn xtXc, xtXn, vals .i64 xtXb⟩]) from (HO2_1.out).kept hk (fun b hb e => HP1_2.out b e hb))
 have HO3_2 := (show Hid (OwnL w2 [⟨xdYe, 2, .slice xdYa xdYn xdYc, xdYn, vals .i64 xdYb⟩]) from (HO3_1.out).kept hk (fun b hb e => HP1_3.out b e hb))
 have HO4_2 := (show Hid (OwnL w2 [ints xiMe .u8 (.slice xiMa xiMb.length xiMc) xiMb]) from (HO4_1.out).kept hk (fun b hb e => HP1_4.out b e hb))
 clear ho hk HB_1 HK_1 HO0_1 HO1_1 HO2_1 HO3_1 HO4_1
 have hsz1 : StPageRecord.size ⟨xaU, ⟨xaDe, xaDa, xaDc, xaDb⟩⟩ = StPageRecord.size ⟨xaU, ⟨xaDe, xaDa, xaDc, xaDb⟩⟩ := rfl
 have d1_11 := HB_2.out.c11
 have d1_12 := HB_2.out.c12
 have d1_13 := HB_2.out.c13
 go_wp2_with fail
 refine (markTxnEntryS_own ⟨xtXe, xtXa, xtXn, xtXc, xtXb⟩ (k0 + (StPageRecord.size ⟨xbU, ⟨xbDe, xbDa, xbDc, xbDb⟩⟩) + (StPageRecord.size ⟨xaU, ⟨xaDe, xaDa, xaDc, xaDb⟩⟩)) _ (by omega) (by dsimp only; omega) (HO2_2.out)).mono ?_
 rintro e w3 ⟨rfl, ho, hk⟩
 have HB_3 := (show Hid (Blk w3 w.heap.size 28 [.int .i64 xkind, .int .i64 xtxn, .int .i64 xprev, .int .i64 xpage, .int .i64 xslot, .bool xbU, .slice xbDa xbDb.length xbDc, .bool xaU, .slice xaDa xaDb.length xaDc, .int .i64 xuN, .int .i64 xnT, .slice xtXa xtXn xtXc, .slice xdYa xdYn xdYc, .slice xiMa xiMb.length xiMc]) from HB_2.out.kept hk (fun e => by have := HLT.out _ ((FootL_append _ _ _).2 (.inr ((FootL_append _ _ _).2 (.inr ((FootL_append _ _ _).2 (.inl e)))))); omega))
 have HK_3 := (show Hid (Kept (FootL (StLogRecord.rows ⟨xkind, xtxn, xprev, xpage, xslot, ⟨xbU, ⟨xbDe, xbDa, xbDc, xbDb⟩⟩, ⟨xaU, ⟨xaDe, xaDa, xaDc, xaDb⟩⟩, xuN, xnT, ⟨xtXe, xtXa, xtXn, xtXc, xtXb⟩, ⟨xdYe, xdYa, xdYn, xdYc, xdYb⟩, ⟨xiMe, xiMa, xiMc, xiMb⟩⟩)) w w3) from HK_2.out.next hk (fun b _ e => (FootL_append _ _ _).2 (.inr ((FootL_append _ _ _).2 (.inr ((FootL_append _ _ _).2 (.inl e)))))))
 have HO0_3 := (show Hid (OwnL w3 (StPageRecord.marked ⟨xbU, ⟨xbDe, xbDa, xbDc, xbDb⟩⟩ (k0)).rows) from (HO0_2.out).kept hk (fun b hb e => HP0_2.out b ((StPageRecord.foot_marked _ _ b).1 hb) e))
 have HO1_3 := (show Hid (OwnL w3 (StPageRecord.marked ⟨xaU, ⟨xaDe, xaDa, xaDc, xaDb⟩⟩ (k0 + (StPageRecord.size ⟨xbU, ⟨xbDe, xbDa, xbDc, xbDb⟩⟩))).rows) from (HO1_2.out).kept hk (fun b hb e => HP1_2.out b ((StPageRecord.foot_marked _ _ b).1 hb) e))
 have HO2_3 := (show Hid (OwnL w3 (FR.rows 4 (FR.marked ⟨xtXe, xtXa, xtXn, xtXc, xtXb⟩ (k0 + (StPageRecord.size ⟨xbU, ⟨xbDe, xbDa, xbDc, xbDb⟩⟩) + (StPageRecord.size ⟨xaU, ⟨xaDe, xaDa, xaDc, xaDb⟩⟩))))) from ho)
 have HO3_3 := (show Hid (OwnL w3 [⟨xdYe, 2, .slice xdYa xdYn xdYc, xdYn, vals .i64 xdYb⟩]) from (HO3_2.out).kept hk (fun b hb e => HP2_3.out b e hb))
 have HO4_3 := (show Hid (OwnL w3 [ints xiMe .u8 (.slice xiMa xiMb.length xiMc) xiMb]) from (HO4_2.out).kept hk (fun b hb e => HP2_4.out b e hb))
 clear ho hk HB_2 HK_2 HO0_2 HO1_2 HO2_2 HO3_2 HO4_2
 have d2_12 := HB_3.out.c12
 have d2_13 := HB_3.out.c13
 go_wp2_with fail
 refine (markDirtyEntryS_own ⟨xdYe, xdYa, xdYn, xdYc, xdYb⟩ (k0 + (StPageRecord.size ⟨xbU, ⟨xbDe, xbDa, xbDc, xbDb⟩⟩) + (StPageRecord.size ⟨xaU, ⟨xaDe, xaDa, xaDc, xaDb⟩⟩) + (xtXb.length : Int)) _ (by omega) (by dsimp only; omega) (HO3_3.out)).mono ?_
 rintro e w4 ⟨rfl, ho, hk⟩
 have HB_4 := (show Hid (Blk w4 w.heap.size 28 [.int .i64 xkind, .int .i64 xtxn, .int .i64 xprev, .int .i64 xpage, .int .i64 xslot, .bool xbU, .slice xbDa xbDb.length xbDc, .bool xaU, .slice xaDa xaDb.length xaDc, .int .i64 xuN, .int .i64 xnT, .slice xtXa xtXn xtXc, .slice xdYa xdYn xdYc, .slice xiMa xiMb.length xiMc]) from HB_3.out.kept hk (fun e => by have := HLT.out _ ((FootL_append _ _ _).2 (.inr ((FootL_append _ _ _).2 (.inr ((FootL_append _ _ _).2 (.inr ((FootL_append _ _ _).2 (.inl e)))))))); omega))
 have HK_4 := (show Hid (Kept (FootL (StLogRecord.rows ⟨xkind, xtxn, xprev, xpage, xslot, ⟨xbU, ⟨xbDe, xbDa, xbDc, xbDb⟩⟩, ⟨xaU, ⟨xaDe, xaDa, xaDc, xaDb⟩⟩, xuN, xnT, ⟨xtXe, xtXa, xtXn, xtXc, xtXb⟩, ⟨xdYe, xdYa, xdYn, xdYc, xdYb⟩, ⟨xiMe, xiMa, xiMc, xiMb⟩⟩)) w w4) from HK_3.out.next hk (fun b _ e => (FootL_append _ _ _).2 (.inr ((FootL_append _ _ _).2 (.inr ((FootL_append _ _ _).2 (.inr ((FootL_append _ _ _).2 (.inl e)))))))))
 have HO0_4 := (show Hid (OwnL w4 (StPageRecord.marked ⟨xbU, ⟨xbDe, xbDa, xbDc, xbDb⟩⟩ (k0)).rows) from (HO0_3.out).kept hk (fun b hb e => HP0_3.out b ((StPageRecord.foot_marked _ _ b).1 hb) e))
 have HO1_4 := (show Hid (OwnL w4 (StPageRecord.marked ⟨xaU, ⟨xaDe, xaDa, xaDc, xaDb⟩⟩ (k0 + (StPageRecord.size ⟨xbU, ⟨xbDe, xbDa, xbDc, xbDb⟩⟩))).rows) from (HO1_3.out).kept hk (fun b hb e => HP1_3.out b ((StPageRecord.foot_marked _ _ b).1 hb) e))
 have HO2_4 := (show Hid (OwnL w4 (FR.rows 4 (FR.marked ⟨xtXe, xtXa, xtXn, xtXc, xtXb⟩ (k0 + (StPageRecord.size ⟨xbU, ⟨xbDe, xbDa, xbDc, xbDb⟩⟩) + (StPageRecord.size ⟨xaU, ⟨xaDe, xaDa, xaDc, xaDb⟩⟩))))) from (HO2_3.out).kept hk (fun b hb e => HP2_3.out b ((FR.foot_marked 4 _ _ b).1 hb) e))
 have HO3_4 := (show Hid (OwnL w4 (FR.rows 2 (FR.marked ⟨xdYe, xdYa, xdYn, xdYc, xdYb⟩ (k0 + (StPageRecord.size ⟨xbU, ⟨xbDe, xbDa, xbDc, xbDb⟩⟩) + (StPageRecord.size ⟨xaU, ⟨xaDe, xaDa, xaDc, xaDb⟩⟩) + (xtXb.length : Int))))) from ho)
 have HO4_4 := (show Hid (OwnL w4 [ints xiMe .u8 (.slice xiMa xiMb.length xiMc) xiMb]) from (HO4_3.out).kept hk (fun b hb e => HP3_4.out b e hb))
 clear ho hk HB_3 HK_3 HO0_3 HO1_3 HO2_3 HO3_3 HO4_3
 have d3_13 := HB_4.out.c13
 go_wp2_with fail
 refine (markByteS_own 0 _ xiMb (k0 + (StPageRecord.size ⟨xbU, ⟨xbDe, xbDa, xbDc, xbDb⟩⟩) + (StPageRecord.size ⟨xaU, ⟨xaDe, xaDa, xaDc, xaDb⟩⟩) + (xtXb.length : Int) + (xdYb.length : Int)) _ (by omega) (by omega) (by omega) (OwnL.of_one (HO4_4.out))).mono ?_
 rintro e w5 ⟨rfl, ho, hk⟩
 have ho := (show OwnL w5 (BS.rows (BS.marked ⟨xiMe, xiMa, xiMc, xiMb⟩ (k0 + (StPageRecord.size ⟨xbU, ⟨xbDe, xbDa, xbDc, xbDb⟩⟩) + (StPageRecord.size ⟨xaU, ⟨xaDe, xaDa, xaDc, xaDb⟩⟩) + (xtXb.length : Int) + (xdYb.length : Int)))) from BS.own_marked.2 (OwnL.one ho))
 have hk : Kept (FootL [ints xiMe .u8 (.slice xiMa xiMb.length xiMc) xiMb]) _ w5 := hk.mono (fun b _ e => (footL_ints _ _ _ _ _).2 e)
 have HB_5 := (show Hid (Blk w5 w.heap.size 28 [.int .i64 xkind, .int .i64 xtxn, .int .i64 xprev, .int .i64 xpage, .int .i64 xslot, .bool xbU, .slice xbDa xbDb.length xbDc, .bool xaU, .slice xaDa xaDb.length xaDc, .int .i64 xuN, .int .i64 xnT, .slice xtXa xtXn xtXc, .slice xdYa xdYn xdYc, .slice xiMa xiMb.length xiMc]) from HB_4.out.kept hk (fun e => by have := HLT.out _ ((FootL_append _ _ _).2 (.inr ((FootL_append _ _ _).2 (.inr ((FootL_append _ _ _).2 (.inr ((FootL_append _ _ _).2 (.inr (e))))))))); omega))
 have HK_5 := (show Hid (Kept (FootL (StLogRecord.rows ⟨xkind, xtxn, xprev, xpage, xslot, ⟨xbU, ⟨xbDe, xbDa, xbDc, xbDb⟩⟩, ⟨xaU, ⟨xaDe, xaDa, xaDc, xaDb⟩⟩, xuN, xnT, ⟨xtXe, xtXa, xtXn, xtXc, xtXb⟩, ⟨xdYe, xdYa, xdYn, xdYc, xdYb⟩, ⟨xiMe, xiMa, xiMc, xiMb⟩⟩)) w w5) from HK_4.out.next hk (fun b _ e => (FootL_append _ _ _).2 (.inr ((FootL_append _ _ _).2 (.inr ((FootL_append _ _ _).2 (.inr ((FootL_append _ _ _).2 (.inr (e))))))))))
 have HO0_5 := (show Hid (OwnL w5 (StPageRecord.marked ⟨xbU, ⟨xbDe, xbDa, xbDc, xbDb⟩⟩ (k0)).rows) from (HO0_4.out).kept hk (fun b hb e => HP0_4.out b ((StPageRecord.foot_marked _ _ b).1 hb) e))
 have HO1_5 := (show Hid (OwnL w5 (StPageRecord.marked ⟨xaU, ⟨xaDe, xaDa, xaDc, xaDb⟩⟩ (k0 + (StPageRecord.size ⟨xbU, ⟨xbDe, xbDa, xbDc, xbDb⟩⟩))).rows) from (HO1_4.out).kept hk (fun b hb e => HP1_4.out b ((StPageRecord.foot_marked _ _ b).1 hb) e))
 have HO2_5 := (show Hid (OwnL w5 (FR.rows 4 (FR.marked ⟨xtXe, xtXa, xtXn, xtXc, xtXb⟩ (k0 + (StPageRecord.size ⟨xbU, ⟨xbDe, xbDa, xbDc, xbDb⟩⟩) + (StPageRecord.size ⟨xaU, ⟨xaDe, xaDa, xaDc, xaDb⟩⟩))))) from (HO2_4.out).kept hk (fun b hb e => HP2_4.out b ((FR.foot_marked 4 _ _ b).1 hb) e))
 have HO3_5 := (show Hid (OwnL w5 (FR.rows 2 (FR.marked ⟨xdYe, xdYa, xdYn, xdYc, xdYb⟩ (k0 + (StPageRecord.size ⟨xbU, ⟨xbDe, xbDa, xbDc, xbDb⟩⟩) + (StPageRecord.size ⟨xaU, ⟨xaDe, xaDa, xaDc, xaDb⟩⟩) + (xtXb.length : Int))))) from (HO3_4.out).kept hk (fun b hb e => HP3_4.out b ((FR.foot_marked 2 _ _ b).1 hb) e))
 have HO4_5 := (show Hid (OwnL w5 (BS.rows (BS.marked ⟨xiMe, xiMa, xiMc, xiMb⟩ (k0 + (StPageRecord.size ⟨xbU, ⟨xbDe, xbDa, xbDc, xbDb⟩⟩) + (StPageRecord.size ⟨xaU, ⟨xaDe, xaDa, xaDc, xaDb⟩⟩) + (xtXb.length : Int) + (xdYb.length : Int))))) from ho)
 clear ho hk HB_4 HK_4 HO0_4 HO1_4 HO2_4 HO3_4 HO4_4
 go_wp2
 go_ret
 refine ⟨by first | rfl | (refine ret_int ?_; simp only [StLogRecord.size]; omega), ?_, HK_5.out⟩
 exact (HO0_5.out).append ((HO1_5.out).append ((HO2_5.out).append ((HO3_5.out).append (HO4_5.out) (fun b hb e => HP3_4.out b ((FR.foot_marked 2 _ _ b).1 hb) ((BS.foot_marked _ _ b).1 e))) (fun b hb e => ((FootL_append _ _ _).1 e).elim (fun e3 => HP2_3.out b ((FR.foot_marked 4 _ _ b).1 hb) ((FR.foot_marked 2 _ _ b).1 e3)) (fun e3 => HP2_4.out b ((FR.foot_marked 4 _ _ b).1 hb) ((BS.foot_marked _ _ b).1 e3)))) (fun b hb e => ((FootL_append _ _ _).1 e).elim (fun e2 => HP1_2.out b ((StPageRecord.foot_marked _ _ b).1 hb) ((FR.foot_marked 4 _ _ b).1 e2)) (fun e2 => ((FootL_append _ _ _).1 e2).elim (fun e3 => HP1_3.out b ((StPageRecord.foot_marked _ _ b).1 hb) ((FR.foot_marked 2 _ _ b).1 e3)) (fun e3 => HP1_4.out b ((StPageRecord.foot_marked _ _ b).1 hb) ((BS.foot_marked _ _ b).1 e3))))) (fun b hb e => ((FootL_append _ _ _).1 e).elim (fun e1 => HP0_1.out b ((StPageRecord.foot_marked _ _ b).1 hb) ((StPageRecord.foot_marked _ _ b).1 e1)) (fun e1 => ((FootL_append _ _ _).1 e1).elim (fun e2 => HP0_2.out b ((StPageRecord.foot_marked _ _ b).1 hb) ((FR.foot_marked 4 _ _ b).1 e2)) (fun e2 => ((FootL_append _ _ _).1 e2).elim (fun e3 => HP0_3.out b ((StPageRecord.foot_marked _ _ b).1 hb) ((FR.foot_marked 2 _ _ b).1 e3)) (fun e3 => HP0_4.out b ((StPageRecord.foot_marked _ _ b).1 hb) ((BS.foot_marked _ _ b).1 e3)))))
theorem heldLogRecord_own (x : StLogRecord) (k0 : Int) (w : World) (h0 : 0 ≤ k0) (h1 : k0 + x.size ≤ 1125899906842624) (ha : OwnL w (x.marked k0).rows) :
  Calls Tryz.prog 31 #[x.val, .int .i64 k0] w fun e w' => e = .returned (.int .i64 (k0 + x.size)) ∧ Same w w' := by
 obtain ⟨xkind, xtxn, xprev, xpage, xslot, ⟨xbU, ⟨xbDe, xbDa, xbDc, xbDb⟩⟩, ⟨xaU, ⟨xaDe, xaDa, xaDc, xaDb⟩⟩, xuN, xnT, ⟨xtXe, xtXa, xtXn, xtXc, xtXb⟩, ⟨xdYe, xdYa, xdYn, xdYc, xdYb⟩, ⟨xiMe, xiMa, xiMc, xiMb⟩⟩ := x
 have HO0 := (show Hid (OwnL w (StPageRecord.marked ⟨xbU, ⟨xbDe, xbDa, xbDc, xbDb⟩⟩ (k0)).rows) from ha.left)
 have HO1 := (show Hid (OwnL w (StPageRecord.marked ⟨xaU, ⟨xaDe, xaDa, xaDc, xaDb⟩⟩ (k0 + (StPageRecord.size ⟨xbU, ⟨xbDe, xbDa, xbDc, xbDb⟩⟩))).rows) from ha.right.left)
 have HO2 := (show Hid (OwnL w (FR.rows 4 (FR.marked ⟨xtXe, xtXa, xtXn, xtXc, xtXb⟩ (k0 + (StPageRecord.size ⟨xbU, ⟨xbDe, xbDa, xbDc, xbDb⟩⟩) + (StPageRecord.size ⟨xaU, ⟨xaDe, xaDa, xaDc, xaDb⟩⟩))))) from ha.right.right.left)
 have HO3 := (show Hid (OwnL w (FR.rows 2 (FR.marked ⟨xdYe, xdYa, xdYn, xdYc, xdYb⟩ (k0 + (StPageRecord.size ⟨xbU, ⟨xbDe, xbDa, xbDc, xbDb⟩⟩) + (StPageRecord.size ⟨xaU, ⟨xaDe, xaDa, xaDc, xaDb⟩⟩) + (xtXb.length : Int))))) from ha.right.right.right.left)
 have HO4 := (show Hid (OwnL w [ints xiMe .u8 (.slice xiMa xiMb.length xiMc) (marks (k0 + (StPageRecord.size ⟨xbU, ⟨xbDe, xbDa, xbDc, xbDb⟩⟩) + (StPageRecord.size ⟨xaU, ⟨xaDe, xaDa, xaDc, xaDb⟩⟩) + (xtXb.length : Int) + (xdYb.length : Int)) xiMb.length)]) from BS.own_marked.1 (ha.right.right.right.right))
 clear ha
 simp only [StLogRecord.size] at h1
 have hz0 := StPageRecord.size_le ⟨xbU, ⟨xbDe, xbDa, xbDc, xbDb⟩⟩
 have hz1 := StPageRecord.size_le ⟨xaU, ⟨xaDe, xaDa, xaDc, xaDb⟩⟩
 dsimp only [StLogRecord.val, StPageRecord.val, BS.v, FR.v]
 go_enter Tryz.func31, Tryz.ntmps31
 obtain ⟨HK0, HB0⟩ := new1 w [.int .i64 xkind, .int .i64 xtxn, .int .i64 xprev, .int .i64 xpage, .int .i64 xslot, .bool xbU, .slice xbDa xbDb.length xbDc, .bool xaU, .slice xaDa xaDb.length xaDc, .int .i64 xuN, .int .i64 xnT, .slice xtXa xtXn xtXc, .slice xdYa xdYn xdYc, .slice xiMa xiMb.length xiMc] 28
 have hneg0 : ¬ (k0 + (StPageRecord.size ⟨xbU, ⟨xbDe, xbDa, xbDc, xbDb⟩⟩)) < 0 := by omega
 go_wp2_with fail
 refine (heldPageRecord_own ⟨xbU, ⟨xbDe, xbDa, xbDc, xbDb⟩⟩ (k0) _ (by omega) (by omega) (HO0.out.same HK0.out)).mono ?_
 rintro e w1 ⟨rfl, hk⟩
 have HK1 := hid (HK0.out.trans hk)
 have HB1 := hid (HB0.out.same hk)
 clear hk
 have d0_7 := HB1.out.c7
 have d0_8 := HB1.out.c8
 have d0_11 := HB1.out.c11
 have d0_12 := HB1.out.c12
 have d0_13 := HB1.out.c13
 have hneg1 : ¬ (k0 + (StPageRecord.size ⟨xbU, ⟨xbDe, xbDa, xbDc, xbDb⟩⟩) + (StPageRecord.size ⟨xaU, ⟨xaDe, xaDa, xaDc, xaDb⟩⟩)) < 0 := by omega
 go_wp2_with fail
 refine (heldPageRecord_own ⟨xaU, ⟨xaDe, xaDa, xaDc, xaDb⟩⟩ (k0 + (StPageRecord.size ⟨xbU, ⟨xbDe, xbDa, xbDc, xbDb⟩⟩)) _ (by omega) (by omega) (HO1.out.same HK1.out)).mono ?_
 rintro e w2 ⟨rfl, hk⟩
 have HK2 := hid (HK1.out.trans hk)
 have HB2 := hid (HB1.out.same hk)
 clear hk
 have d1_11 := HB2.out.c11
 have d1_12 := HB2.out.c12
 have d1_13 := HB2.out.c13
 have hneg2 : ¬ (k0 + (StPageRecord.size ⟨xbU, ⟨xbDe, xbDa, xbDc, xbDb⟩⟩) + (StPageRecord.size ⟨xaU, ⟨xaDe, xaDa, xaDc, xaDb⟩⟩) + (xtXb.length : Int)) < 0 := by omega
 go_wp2_with fail
 refine (heldTxnEntryS_own ⟨xtXe, xtXa, xtXn, xtXc, xtXb⟩ (k0 + (StPageRecord.size ⟨xbU, ⟨xbDe, xbDa, xbDc, xbDb⟩⟩) + (StPageRecord.size ⟨xaU, ⟨xaDe, xaDa, xaDc, xaDb⟩⟩)) _ (by omega) (by dsimp only; omega) (HO2.out.same HK2.out)).mono ?_
 rintro e w3 ⟨rfl, hk⟩
 have HK3 := hid (HK2.out.trans hk)
 have HB3 := hid (HB2.out.same hk)
 clear hk
 have d2_12 := HB3.out.c12
 have d2_13 := HB3.out.c13
 have hneg3 : ¬ (k0 + (StPageRecord.size ⟨xbU, ⟨xbDe, xbDa, xbDc, xbDb⟩⟩) + (StPageRecord.size ⟨xaU, ⟨xaDe, xaDa, xaDc, xaDb⟩⟩) + (xtXb.length : Int) + (xdYb.length : Int)) < 0 := by omega
 go_wp2_with fail
 refine (heldDirtyEntryS_own ⟨xdYe, xdYa, xdYn, xdYc, xdYb⟩ (k0 + (StPageRecord.size ⟨xbU, ⟨xbDe, xbDa, xbDc, xbDb⟩⟩) + (StPageRecord.size ⟨xaU, ⟨xaDe, xaDa, xaDc, xaDb⟩⟩) + (xtXb.length : Int)) _ (by omega) (by dsimp only; omega) (HO3.out.same HK3.out)).mono ?_
 rintro e w4 ⟨rfl, hk⟩
 have HK4 := hid (HK3.out.trans hk)
 have HB4 := hid (HB3.out.same hk)
 clear hk
 have d3_13 := HB4.out.c13
 have hneg4 : ¬ (k0 + (StPageRecord.size ⟨xbU, ⟨xbDe, xbDa, xbDc, xbDb⟩⟩) + (StPageRecord.size ⟨xaU, ⟨xaDe, xaDa, xaDc, xaDb⟩⟩) + (xtXb.length : Int) + (xdYb.length : Int) + (xiMb.length : Int)) < 0 := by omega
 go_wp2_with fail
 refine (heldByteS_own 0 _ xiMb.length (k0 + (StPageRecord.size ⟨xbU, ⟨xbDe, xbDa, xbDc, xbDb⟩⟩) + (StPageRecord.size ⟨xaU, ⟨xaDe, xaDa, xaDc, xaDb⟩⟩) + (xtXb.length : Int) + (xdYb.length : Int)) _ (by omega) (by omega) (by omega) (OwnL.of_one (HO4.out.same HK4.out))).mono ?_
 rintro e w5 ⟨rfl, hww⟩
 have hk : Same w4 w5 := by rw [hww]; exact Kept.refl _ _
 clear hww
 have HK5 := hid (HK4.out.trans hk)
 have HB5 := hid (HB4.out.same hk)
 clear hk
 go_wp2
 go_ret
 exact ⟨by first | rfl | (refine ret_int ?_; simp only [StLogRecord.size]; omega), HK5.out⟩
set_option maxRecDepth 100000 in
set_option maxHeartbeats 4000000 in
theorem markFrameResult_own (x : StFrameResult) (k0 : Int) (w : World) (h0 : 0 ≤ k0) (h1 : k0 + x.size ≤ 1125899906842624) (ha : OwnL w x.rows) :
  Calls Tryz.prog 16 #[x.val, .int .i64 k0] w fun e w' => e = .returned (.int .i64 (k0 + x.size)) ∧ OwnL w' (x.marked k0).rows ∧ Kept (FootL x.rows) w w' := by
 have hlt := ha.lt
 have HLT := (show Hid (∀ b, FootL x.rows b → b < w.heap.size) from hlt)
 have HA := (show Hid (OwnL w x.rows) from ha)
 clear hlt
 obtain ⟨xcode, xfsz, xepoch, ⟨xrecord_kind, xrecord_txn, xrecord_prev, xrecord_page, xrecord_slot, ⟨xrecord_before_used, ⟨xrecord_before_data_e, xrecord_before_data_a, xrecord_before_data_c, xrecord_before_data_b⟩⟩, ⟨xrecord_after_used, ⟨xrecord_after_data_e, xrecord_after_data_a, xrecord_after_data_c, xrecord_after_data_b⟩⟩, xrecord_uN, xrecord_nT, ⟨xrecord_txns_e, xrecord_txns_a, xrecord_txns_n, xrecord_txns_c, xrecord_txns_b⟩, ⟨xrecord_dirty_e, xrecord_dirty_a, xrecord_dirty_n, xrecord_dirty_c, xrecord_dirty_b⟩, ⟨xrecord_image_e, xrecord_image_a, xrecord_image_c, xrecord_image_b⟩⟩⟩ := x
 have HO0_0 := (show Hid (OwnL w (StLogRecord.rows ⟨xrecord_kind, xrecord_txn, xrecord_prev, xrecord_page, xrecord_slot, ⟨xrecord_before_used, ⟨xrecord_before_data_e, xrecord_before_data_a, xrecord_before_data_c, xrecord_before_data_b⟩⟩, ⟨xrecord_after_used, ⟨xrecord_after_data_e, xrecord_after_data_a, xrecord_after_data_c, xrecord_after_data_b⟩⟩, xrecord_uN, xrecord_nT, ⟨xrecord_txns_e, xrecord_txns_a, xrecord_txns_n, xrecord_txns_c, xrecord_txns_b⟩, ⟨xrecord_dirty_e, xrecord_dirty_a, xrecord_dirty_n, xrecord_dirty_c, xrecord_dirty_b⟩, ⟨xrecord_image_e, xrecord_image_a, xrecord_image_c, xrecord_image_b⟩⟩)) from ha)
 clear ha
 simp only [StFrameResult.size] at h1
 have hz0 := StLogRecord.size_le ⟨xrecord_kind, xrecord_txn, xrecord_prev, xrecord_page, xrecord_slot, ⟨xrecord_before_used, ⟨xrecord_before_data_e, xrecord_before_data_a, xrecord_before_data_c, xrecord_before_data_b⟩⟩, ⟨xrecord_after_used, ⟨xrecord_after_data_e, xrecord_after_data_a, xrecord_after_data_c, xrecord_after_data_b⟩⟩, xrecord_uN, xrecord_nT, ⟨xrecord_txns_e, xrecord_txns_a, xrecord_txns_n, xrecord_txns_c, xrecord_txns_b⟩, ⟨xrecord_dirty_e, xrecord_dirty_a, xrecord_dirty_n, xrecord_dirty_c, xrecord_dirty_b⟩, ⟨xrecord_image_e, xrecord_image_a, xrecord_image_c, xrecord_image_b⟩⟩
 dsimp only [StFrameResult.val, StLogRecord.val, StPageRecord.val, BS.v, FR.v]
 go_enter Tryz.func16, Tryz.ntmps16
 have HK_0 := (show Hid (Kept (FootL (StFrameResult.rows ⟨xcode, xfsz, xepoch, ⟨xrecord_kind, xrecord_txn, xrecord_prev, xrecord_page, xrecord_slot, ⟨xrecord_before_used, ⟨xrecord_before_data_e, xrecord_before_data_a, xrecord_before_data_c, xrecord_before_data_b⟩⟩, ⟨xrecord_after_used, ⟨xrecord_after_data_e, xrecord_after_data_a, xrecord_after_data_c, xrecord_after_data_b⟩⟩, xrecord_uN, xrecord_nT, ⟨xrecord_txns_e, xrecord_txns_a, xrecord_txns_n, xrecord_txns_c, xrecord_txns_b⟩, ⟨xrecord_dirty_e, xrecord_dirty_a, xrecord_dirty_n, xrecord_dirty_c, xrecord_dirty_b⟩, ⟨xrecord_image_e, xrecord_image_a, xrecord_image_c, xrecord_image_b⟩⟩⟩)) w (w.alloc (.cells #[.int .i64 xcode, .int .i64 xfsz, .int .i64 xepoch, .int .i64 xrecord_kind, .int .i64 xrecord_txn, .int .i64 xrecord_prev, .int .i64 xrecord_page, .int .i64 xrecord_slot, .bool xrecord_before_used, .slice xrecord_before_data_a xrecord_before_data_b.length xrecord_before_data_c, .bool xrecord_after_used, .slice xrecord_after_data_a xrecord_after_data_b.length xrecord_after_data_c, .int .i64 xrecord_uN, .int .i64 xrecord_nT, .slice xrecord_txns_a xrecord_txns_n xrecord_txns_c, .slice xrecord_dirty_a xrecord_dirty_n xrecord_dirty_c, .slice xrecord_image_a xrecord_image_b.length xrecord_image_c] 39))) from (Kept.refl _ _).alloc _)
 have HB_0 := (show Hid (Blk (w.alloc (.cells #[.int .i64 xcode, .int .i64 xfsz, .int .i64 xepoch, .int .i64 xrecord_kind, .int .i64 xrecord_txn, .int .i64 xrecord_prev, .int .i64 xrecord_page, .int .i64 xrecord_slot, .bool xrecord_before_used, .slice xrecord_before_data_a xrecord_before_data_b.length xrecord_before_data_c, .bool xrecord_after_used, .slice xrecord_after_data_a xrecord_after_data_b.length xrecord_after_data_c, .int .i64 xrecord_uN, .int .i64 xrecord_nT, .slice xrecord_txns_a xrecord_txns_n xrecord_txns_c, .slice xrecord_dirty_a xrecord_dirty_n xrecord_dirty_c, .slice xrecord_image_a xrecord_image_b.length xrecord_image_c] 39)) w.heap.size 39 [.int .i64 xcode, .int .i64 xfsz, .int .i64 xepoch, .int .i64 xrecord_kind, .int .i64 xrecord_txn, .int .i64 xrecord_prev, .int .i64 xrecord_page, .int .i64 xrecord_slot, .bool xrecord_before_used, .slice xrecord_before_data_a xrecord_before_data_b.length xrecord_before_data_c, .bool xrecord_after_used, .slice xrecord_after_data_a xrecord_after_data_b.length xrecord_after_data_c, .int .i64 xrecord_uN, .int .i64 xrecord_nT, .slice xrecord_txns_a xrecord_txns_n xrecord_txns_c, .slice xrecord_dirty_a xrecord_dirty_n xrecord_dirty_c, .slice xrecord_image_a xrecord_image_b.length xrecord_image_c]) from Blk.new w #[.int .i64 xcode, .int .i64 xfsz, .int .i64 xepoch, .int .i64 xrecord_kind, .int .i64 xrecord_txn, .int .i64 xrecord_prev, .int .i64 xrecord_page, .int .i64 xrecord_slot, .bool xrecord_before_used, .slice xrecord_before_data_a xrecord_before_data_b.length xrecord_before_data_c, .bool xrecord_after_used, .slice xrecord_after_data_a xrecord_after_data_b.length xrecord_after_data_c, .int .i64 xrecord_uN, .int .i64 xrecord_nT, .slice xrecord_txns_a xrecord_txns_n xrecord_txns_c, .slice xrecord_dirty_a xrecord_dirty_n xrecord_dirty_c, .slice xrecord_image_a xrecord_image_b.length xrecord_image_c] 39)
 go_wp2_with fail
 refine (markLogRecord_own ⟨xrecord_kind, xrecord_txn, xrecord_prev, xrecord_page, xrecord_slot, ⟨xrecord_before_used, ⟨xrecord_before_data_e, xrecord_before_data_a, xrecord_before_data_c, xrecord_before_data_b⟩⟩, ⟨xrecord_after_used, ⟨xrecord_after_data_e, xrecord_after_data_a, xrecord_after_data_c, xrecord_after_data_b⟩⟩, xrecord_uN, xrecord_nT, ⟨xrecord_txns_e, xrecord_txns_a, xrecord_txns_n, xrecord_txns_c, xrecord_txns_b⟩, ⟨xrecord_dirty_e, xrecord_dirty_a, xrecord_dirty_n, xrecord_dirty_c, xrecord_dirty_b⟩, ⟨xrecord_image_e, xrecord_image_a, xrecord_image_c, xrecord_image_b⟩⟩ (k0) _ (by omega) (by omega) (HO0_0.out.same ((Kept.refl _ _).alloc _))).mono ?_
 rintro e w1 ⟨rfl, ho, hk⟩
 have HB_1 := (show Hid (Blk w1 w.heap.size 39 [.int .i64 xcode, .int .i64 xfsz, .int .i64 xepoch, .int .i64 xrecord_kind, .int .i64 xrecord_txn, .int .i64 xrecord_prev, .int .i64 xrecord_page, .int .i64 xrecord_slot, .bool xrecord_before_used, .slice xrecord_before_data_a xrecord_before_data_b.length xrecord_before_data_c, .bool xrecord_after_used, .slice xrecord_after_data_a xrecord_after_data_b.length xrecord_after_data_c, .int .i64 xrecord_uN, .int .i64 xrecord_nT, .slice xrecord_txns_a xrecord_txns_n xrecord_txns_c, .slice xrecord_dirty_a xrecord_dirty_n xrecord_dirty_c, .slice xrecord_image_a xrecord_image_b.length xrecord_image_c]) from HB_0.out.kept hk (fun e => by have := HLT.out _ (e); omega))
 have HK_1 := (show Hid (Kept (FootL (StFrameResult.rows ⟨xcode, xfsz, xepoch, ⟨xrecord_kind, xrecord_txn, xrecord_prev, xrecord_page, xrecord_slot, ⟨xrecord_before_used, ⟨xrecord_before_data_e, xrecord_before_data_a, xrecord_before_data_c, xrecord_before_data_b⟩⟩, ⟨xrecord_after_used, ⟨xrecord_after_data_e, xrecord_after_data_a, xrecord_after_data_c, xrecord_after_data_b⟩⟩, xrecord_uN, xrecord_nT, ⟨xrecord_txns_e, xrecord_txns_a, xrecord_txns_n, xrecord_txns_c, xrecord_txns_b⟩, ⟨xrecord_dirty_e, xrecord_dirty_a, xrecord_dirty_n, xrecord_dirty_c, xrecord_dirty_b⟩, ⟨xrecord_image_e, xrecord_image_a, xrecord_image_c, xrecord_image_b⟩⟩⟩)) w w1) from HK_0.out.next hk (fun b _ e => e))
 have HO0_1 := (show Hid (OwnL w1 (StLogRecord.marked ⟨xrecord_kind, xrecord_txn, xrecord_prev, xrecord_page, xrecord_slot, ⟨xrecord_before_used, ⟨xrecord_before_data_e, xrecord_before_data_a, xrecord_before_data_c, xrecord_before_data_b⟩⟩, ⟨xrecord_after_used, ⟨xrecord_after_data_e, xrecord_after_data_a, xrecord_after_data_c, xrecord_after_data_b⟩⟩, xrecord_uN, xrecord_nT, ⟨xrecord_txns_e, xrecord_txns_a, xrecord_txns_n, xrecord_txns_c, xrecord_txns_b⟩, ⟨xrecord_dirty_e, xrecord_dirty_a, xrecord_dirty_n, xrecord_dirty_c, xrecord_dirty_b⟩, ⟨xrecord_image_e, xrecord_image_a, xrecord_image_c, xrecord_image_b⟩⟩ (k0)).rows) from ho)
 clear ho hk HB_0 HK_0 HO0_0
 have hsz0 : StLogRecord.size ⟨xrecord_kind, xrecord_txn, xrecord_prev, xrecord_page, xrecord_slot, ⟨xrecord_before_used, ⟨xrecord_before_data_e, xrecord_before_data_a, xrecord_before_data_c, xrecord_before_data_b⟩⟩, ⟨xrecord_after_used, ⟨xrecord_after_data_e, xrecord_after_data_a, xrecord_after_data_c, xrecord_after_data_b⟩⟩, xrecord_uN, xrecord_nT, ⟨xrecord_txns_e, xrecord_txns_a, xrecord_txns_n, xrecord_txns_c, xrecord_txns_b⟩, ⟨xrecord_dirty_e, xrecord_dirty_a, xrecord_dirty_n, xrecord_dirty_c, xrecord_dirty_b⟩, ⟨xrecord_image_e, xrecord_image_a, xrecord_image_c, xrecord_image_b⟩⟩ = StLogRecord.size ⟨xrecord_kind, xrecord_txn, xrecord_prev, xrecord_page, xrecord_slot, ⟨xrecord_before_used, ⟨xrecord_before_data_e, xrecord_before_data_a, xrecord_before_data_c, xrecord_before_data_b⟩⟩, ⟨xrecord_after_used, ⟨xrecord_after_data_e, xrecord_after_data_a, xrecord_after_data_c, xrecord_after_data_b⟩⟩, xrecord_uN, xrecord_nT, ⟨xrecord_txns_e, xrecord_txns_a, xrecord_txns_n, xrecord_txns_c, xrecord_txns_b⟩, ⟨xrecord_dirty_e, xrecord_dirty_a, xrecord_dirty_n, xrecord_dirty_c, xrecord_dirty_b⟩, ⟨xrecord_image_e, xrecord_image_a, xrecord_image_c, xrecord_image_b⟩⟩ := rfl
 go_wp2
 go_ret
 refine ⟨rfl, ?_, HK_1.out⟩
 exact HO0_1.out
set_option maxRecDepth 100000 in
set_option maxHeartbeats 4000000 in
theorem heldFrameResult_own (x : StFrameResult) (k0 : Int) (w : World) (h0 : 0 ≤ k0) (h1 : k0 + x.size ≤ 1125899906842624) (ha : OwnL w (x.marked k0).rows) :
  Calls Tryz.prog 17 #[x.val, .int .i64 k0] w fun e w' => e = .returned (.int .i64 (k0 + x.size)) ∧ Same w w' := by
 obtain ⟨xcode, xfsz, xepoch, ⟨xrecord_kind, xrecord_txn, xrecord_prev, xrecord_page, xrecord_slot, ⟨xrecord_before_used, ⟨xrecord_before_data_e, xrecord_before_data_a, xrecord_before_data_c, xrecord_before_data_b⟩⟩, ⟨xrecord_after_used, ⟨xrecord_after_data_e, xrecord_after_data_a, xrecord_after_data_c, xrecord_after_data_b⟩⟩, xrecord_uN, xrecord_nT, ⟨xrecord_txns_e, xrecord_txns_a, xrecord_txns_n, xrecord_txns_c, xrecord_txns_b⟩, ⟨xrecord_dirty_e, xrecord_dirty_a, xrecord_dirty_n, xrecord_dirty_c, xrecord_dirty_b⟩, ⟨xrecord_image_e, xrecord_image_a, xrecord_image_c, xrecord_image_b⟩⟩⟩ := x
 have HO0 := (show Hid (OwnL w (StLogRecord.marked ⟨xrecord_kind, xrecord_txn, xrecord_prev, xrecord_page, xrecord_slot, ⟨xrecord_before_used, ⟨xrecord_before_data_e, xrecord_before_data_a, xrecord_before_data_c, xrecord_before_data_b⟩⟩, ⟨xrecord_after_used, ⟨xrecord_after_data_e, xrecord_after_data_a, xrecord_after_data_c, xrecord_after_data_b⟩⟩, xrecord_uN, xrecord_nT, ⟨xrecord_txns_e, xrecord_txns_a, xrecord_txns_n, xrecord_txns_c, xrecord_txns_b⟩, ⟨xrecord_dirty_e, xrecord_dirty_a, xrecord_dirty_n, xrecord_dirty_c, xrecord_dirty_b⟩, ⟨xrecord_image_e, xrecord_image_a, xrecord_image_c, xrecord_image_b⟩⟩ (k0)).rows) from ha)
 clear ha
 simp only [StFrameResult.size] at h1
 have hz0 := StLogRecord.size_le ⟨xrecord_kind, xrecord_txn, xrecord_prev, xrecord_page, xrecord_slot, ⟨xrecord_before_used, ⟨xrecord_before_data_e, xrecord_before_data_a, xrecord_before_data_c, xrecord_before_data_b⟩⟩, ⟨xrecord_after_used, ⟨xrecord_after_data_e, xrecord_after_data_a, xrecord_after_data_c, xrecord_after_data_b⟩⟩, xrecord_uN, xrecord_nT, ⟨xrecord_txns_e, xrecord_txns_a, xrecord_txns_n, xrecord_txns_c, xrecord_txns_b⟩, ⟨xrecord_dirty_e, xrecord_dirty_a, xrecord_dirty_n, xrecord_dirty_c, xrecord_dirty_b⟩, ⟨xrecord_image_e, xrecord_image_a, xrecord_image_c, xrecord_image_b⟩⟩
 dsimp only [StFrameResult.val, StLogRecord.val, StPageRecord.val, BS.v, FR.v]
 go_enter Tryz.func17, Tryz.ntmps17
 have HK0 := (show Hid (Same w (w.alloc (.cells #[.int .i64 xcode, .int .i64 xfsz, .int .i64 xepoch, .int .i64 xrecord_kind, .int .i64 xrecord_txn, .int .i64 xrecord_prev, .int .i64 xrecord_page, .int .i64 xrecord_slot, .bool xrecord_before_used, .slice xrecord_before_data_a xrecord_before_data_b.length xrecord_before_data_c, .bool xrecord_after_used, .slice xrecord_after_data_a xrecord_after_data_b.length xrecord_after_data_c, .int .i64 xrecord_uN, .int .i64 xrecord_nT, .slice xrecord_txns_a xrecord_txns_n xrecord_txns_c, .slice xrecord_dirty_a xrecord_dirty_n xrecord_dirty_c, .slice xrecord_image_a xrecord_image_b.length xrecord_image_c] 39))) from (Kept.refl _ _).alloc _)
 have HB0 := (show Hid (Blk (w.alloc (.cells #[.int .i64 xcode, .int .i64 xfsz, .int .i64 xepoch, .int .i64 xrecord_kind, .int .i64 xrecord_txn, .int .i64 xrecord_prev, .int .i64 xrecord_page, .int .i64 xrecord_slot, .bool xrecord_before_used, .slice xrecord_before_data_a xrecord_before_data_b.length xrecord_before_data_c, .bool xrecord_after_used, .slice xrecord_after_data_a xrecord_after_data_b.length xrecord_after_data_c, .int .i64 xrecord_uN, .int .i64 xrecord_nT, .slice xrecord_txns_a xrecord_txns_n xrecord_txns_c, .slice xrecord_dirty_a xrecord_dirty_n xrecord_dirty_c, .slice xrecord_image_a xrecord_image_b.length xrecord_image_c] 39)) w.heap.size 39 [.int .i64 xcode, .int .i64 xfsz, .int .i64 xepoch, .int .i64 xrecord_kind, .int .i64 xrecord_txn, .int .i64 xrecord_prev, .int .i64 xrecord_page, .int .i64 xrecord_slot, .bool xrecord_before_used, .slice xrecord_before_data_a xrecord_before_data_b.length xrecord_before_data_c, .bool xrecord_after_used, .slice xrecord_after_data_a xrecord_after_data_b.length xrecord_after_data_c, .int .i64 xrecord_uN, .int .i64 xrecord_nT, .slice xrecord_txns_a xrecord_txns_n xrecord_txns_c, .slice xrecord_dirty_a xrecord_dirty_n xrecord_dirty_c, .slice xrecord_image_a xrecord_image_b.length xrecord_image_c]) from Blk.new w #[.int .i64 xcode, .int .i64 xfsz, .int .i64 xepoch, .int .i64 xrecord_kind, .int .i64 xrecord_txn, .int .i64 xrecord_prev, .int .i64 xrecord_page, .int .i64 xrecord_slot, .bool xrecord_before_used, .slice xrecord_before_data_a xrecord_before_data_b.length xrecord_before_data_c, .bool xrecord_after_used, .slice xrecord_after_data_a xrecord_after_data_b.length xrecord_after_data_c, .int .i64 xrecord_uN, .int .i64 xrecord_nT, .slice xrecord_txns_a xrecord_txns_n xrecord_txns_c, .slice xrecord_dirty_a xrecord_dirty_n xrecord_dirty_c, .slice xrecord_image_a xrecord_image_b.length xrecord_image_c] 39)
 have hneg0 : ¬ (k0 + (StLogRecord.size ⟨xrecord_kind, xrecord_txn, xrecord_prev, xrecord_page, xrecord_slot, ⟨xrecord_before_used, ⟨xrecord_before_data_e, xrecord_before_data_a, xrecord_before_data_c, xrecord_before_data_b⟩⟩, ⟨xrecord_after_used, ⟨xrecord_after_data_e, xrecord_after_data_a, xrecord_after_data_c, xrecord_after_data_b⟩⟩, xrecord_uN, xrecord_nT, ⟨xrecord_txns_e, xrecord_txns_a, xrecord_txns_n, xrecord_txns_c, xrecord_txns_b⟩, ⟨xrecord_dirty_e, xrecord_dirty_a, xrecord_dirty_n, xrecord_dirty_c, xrecord_dirty_b⟩, ⟨xrecord_image_e, xrecord_image_a, xrecord_image_c, xrecord_image_b⟩⟩)) < 0 := by omega
 go_wp2_with fail
 refine (heldLogRecord_own ⟨xrecord_kind, xrecord_txn, xrecord_prev, xrecord_page, xrecord_slot, ⟨xrecord_before_used, ⟨xrecord_before_data_e, xrecord_before_data_a, xrecord_before_data_c, xrecord_before_data_b⟩⟩, ⟨xrecord_after_used, ⟨xrecord_after_data_e, xrecord_after_data_a, xrecord_after_data_c, xrecord_after_data_b⟩⟩, xrecord_uN, xrecord_nT, ⟨xrecord_txns_e, xrecord_txns_a, xrecord_txns_n, xrecord_txns_c, xrecord_txns_b⟩, ⟨xrecord_dirty_e, xrecord_dirty_a, xrecord_dirty_n, xrecord_dirty_c, xrecord_dirty_b⟩, ⟨xrecord_image_e, xrecord_image_a, xrecord_image_c, xrecord_image_b⟩⟩ (k0) _ (by omega) (by omega) (HO0.out.same HK0.out)).mono ?_
 rintro e w1 ⟨rfl, hk⟩
 have HK1 := hid (HK0.out.trans hk)
 have HB1 := (show Hid (Blk w1 w.heap.size 39 [.int .i64 xcode, .int .i64 xfsz, .int .i64 xepoch, .int .i64 xrecord_kind, .int .i64 xrecord_txn, .int .i64 xrecord_prev, .int .i64 xrecord_page, .int .i64 xrecord_slot, .bool xrecord_before_used, .slice xrecord_before_data_a xrecord_before_data_b.length xrecord_before_data_c, .bool xrecord_after_used, .slice xrecord_after_data_a xrecord_after_data_b.length xrecord_after_data_c, .int .i64 xrecord_uN, .int .i64 xrecord_nT, .slice xrecord_txns_a xrecord_txns_n xrecord_txns_c, .slice xrecord_dirty_a xrecord_dirty_n xrecord_dirty_c, .slice xrecord_image_a xrecord_image_b.length xrecord_image_c]) from HB0.out.same hk)
 clear hk
 go_wp2
 go_ret
 exact ⟨rfl, HK1.out⟩
theorem decF_small {y : StFrameResult} {bs : List Int} {lsn least most : Int} (hB : IsB bs) (h : y.dat = decF bs lsn least most) : y.size ≤ 1099511627776 := by
 have hz0 : sizeD zeroR ≤ 140000 := by unfold sizeD zeroR; simp
 have hp : ∀ xs : List Int, IsB xs → sizeD (decD xs).2 ≤ 140000 := fun xs hx => by
  unfold decD
  split
  ·exact (rdBody_good (hx.drop 13)).2.2.2
  ·exact hz0
 have hz : sizeD (y.record.dat) ≤ 140000 := by
  have e : y.record.dat = (decF bs lsn least most).2.2.2 := congrArg (fun x => x.2.2.2) h
  rw [e]
  unfold decF decG zeroF
  split
  ·split
   ·exact hz0
   split
   ·exact hz0
   split
   ·exact hz0
   split
   ·exact hp _ ((hB.dropI 20).tk _)
   ·exact hz0
  ·exact hz0
 unfold StFrameResult.size StLogRecord.size StPageRecord.size
 simp only [sizeD, StLogRecord.dat, StPageRecord.dat] at hz
 omega
theorem specFrL (v : Value) (bs : List Int) (lsn least most : Int) (w : World) (hB : IsB bs) (hl : bs.length ≤ 1099511627776) (hv : Rd .u8 w v bs) (hlI : IsI lsn) : Calls Tryz.prog 13 #[v, .int .i64 lsn, .int .i64 least, .int .i64 most] w fun e w' => ∃ y : StFrameResult, e = .returned y.val ∧ y.dat = decF bs lsn least most ∧ (∀ b, FootL y.rows b → w.heap.size ≤ b) ∧ OwnL w' y.rows ∧ Same w w' := specFr_any v bs lsn least most w hB hlI hl hv
theorem implFrL (v : Value) (bs : List Int) (lsn least most : Int) (w : World) (hB : IsB bs) (hl : bs.length ≤ 1099511627776) (hv : Rd .u8 w v bs) (hlI : IsI lsn) : Calls Tryz.prog 14 #[v, .int .i64 lsn, .int .i64 least, .int .i64 most] w fun e w' => ∃ y : StFrameResult, e = .returned y.val ∧ y.dat = decF bs lsn least most ∧ (∀ b, FootL y.rows b → w.heap.size ≤ b) ∧ OwnL w' y.rows ∧ Same w w' := implFr_any v bs lsn least most w hB hlI hl hv
end Go.Proofs.YtaeikeglaobeeaaGreat
