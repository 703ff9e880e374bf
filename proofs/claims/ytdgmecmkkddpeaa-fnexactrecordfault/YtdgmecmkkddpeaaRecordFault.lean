import Derived.Test.YtdgmecmkkddpeaaG18
import Derived.Deep.DeepCutAuto
import Derived.Deep.RegionWith
import Derived.Deep.DeepMust
namespace Go.Proofs.Ytdgmecmkkddpeaa
set_option maxRecDepth 100000
set_option maxHeartbeats 16000000
set_option linter.unusedVariables false
open Go.RowKit
theorem recordFault_law (x0 : StLogRecord) (w : World) (hv0 : StLogRecord.rd w x0) (hB0 : x0.isB) :
  Calls Try.prog 3 #[x0.val] w fun e w' => e = .returned (.bool true) ∧ Same w w' := by
 obtain ⟨p0kind, p0txn, p0prev, p0page, p0slot, ⟨p0bU, ⟨p0bDe, p0bDa, p0bDc, p0bDb⟩⟩, ⟨p0aU, ⟨p0aDe, p0aDa, p0aDc, p0aDb⟩⟩, p0uN, p0nT, ⟨p0tXe, p0tXa, p0tXn, p0tXc, p0tXb⟩, ⟨p0dYe, p0dYa, p0dYn, p0dYc, p0dYb⟩, ⟨p0iMe, p0iMa, p0iMc, p0iMb⟩⟩ := x0
 have HV0 := (show Hid (StLogRecord.rd w ⟨p0kind, p0txn, p0prev, p0page, p0slot, ⟨p0bU, ⟨p0bDe, p0bDa, p0bDc, p0bDb⟩⟩, ⟨p0aU, ⟨p0aDe, p0aDa, p0aDc, p0aDb⟩⟩, p0uN, p0nT, ⟨p0tXe, p0tXa, p0tXn, p0tXc, p0tXb⟩, ⟨p0dYe, p0dYa, p0dYn, p0dYc, p0dYb⟩, ⟨p0iMe, p0iMa, p0iMc, p0iMb⟩⟩) from hv0)
 clear hv0
 have HB0 := (show Hid (StLogRecord.isB ⟨p0kind, p0txn, p0prev, p0page, p0slot, ⟨p0bU, ⟨p0bDe, p0bDa, p0bDc, p0bDb⟩⟩, ⟨p0aU, ⟨p0aDe, p0aDa, p0aDc, p0aDb⟩⟩, p0uN, p0nT, ⟨p0tXe, p0tXa, p0tXn, p0tXc, p0tXb⟩, ⟨p0dYe, p0dYa, p0dYn, p0dYc, p0dYb⟩, ⟨p0iMe, p0iMa, p0iMc, p0iMb⟩⟩) from hB0)
 clear hB0
 dsimp only [StLogRecord.val, StPageRecord.val, BS.v, FR.v]
 go_enter Try.func3, Try.ntmps3
 have HKw : Hid (Same w w) := Kept.refl _ _
 go_wp2_with fail
 refine (szLogRecord_any ⟨p0kind, p0txn, p0prev, p0page, p0slot, ⟨p0bU, ⟨p0bDe, p0bDa, p0bDc, p0bDb⟩⟩, ⟨p0aU, ⟨p0aDe, p0aDa, p0aDc, p0aDb⟩⟩, p0uN, p0nT, ⟨p0tXe, p0tXa, p0tXn, p0tXc, p0tXb⟩, ⟨p0dYe, p0dYa, p0dYn, p0dYc, p0dYb⟩, ⟨p0iMe, p0iMa, p0iMc, p0iMb⟩⟩ _ _ (by omega) (by omega) (HV0.out.same ((Kept.refl _ _).alloc _))).mono ?_
 rintro e w1 ⟨sz0, rfl, hr, hk⟩
 have hkk : Same w w1 := ((Kept.refl _ _).alloc _).trans hk
 have hzw1 := hk.size
 rw [World.size_alloc] at hzw1
 have HA0w1 := (show Hid (Blk w1 (w.heap.size) 28 [.int .i64 p0kind, .int .i64 p0txn, .int .i64 p0prev, .int .i64 p0page, .int .i64 p0slot, .bool p0bU, .slice p0bDa p0bDb.length p0bDc, .bool p0aU, .slice p0aDa p0aDb.length p0aDc, .int .i64 p0uN, .int .i64 p0nT, .slice p0tXa p0tXn p0tXc, .slice p0dYa p0dYn p0dYc, .slice p0iMa p0iMb.length p0iMc]) from (Blk.new w #[.int .i64 p0kind, .int .i64 p0txn, .int .i64 p0prev, .int .i64 p0page, .int .i64 p0slot, .bool p0bU, .slice p0bDa p0bDb.length p0bDc, .bool p0aU, .slice p0aDa p0aDb.length p0aDc, .int .i64 p0uN, .int .i64 p0nT, .slice p0tXa p0tXn p0tXc, .slice p0dYa p0dYn p0dYc, .slice p0iMa p0iMb.length p0iMc] 28).same hk)
 have HKw1 := hid (HKw.out.trans hkk)
 clear hkk hk
 rcases hr with rfl | ⟨hr, hr0⟩
 ·go_wp2
  go_ret
  exact ⟨rfl, HKw1.out⟩
 have hsz0 : StLogRecord.szs ⟨p0kind, p0txn, p0prev, p0page, p0slot, ⟨p0bU, ⟨p0bDe, p0bDa, p0bDc, p0bDb⟩⟩, ⟨p0aU, ⟨p0aDe, p0aDa, p0aDc, p0aDb⟩⟩, p0uN, p0nT, ⟨p0tXe, p0tXa, p0tXn, p0tXc, p0tXb⟩, ⟨p0dYe, p0dYa, p0dYn, p0dYc, p0dYb⟩, ⟨p0iMe, p0iMa, p0iMc, p0iMb⟩⟩ ≤ 1048576 := by omega
 clear hr
 obtain ⟨cA0_0, cA0_1, cA0_2, cA0_3, cA0_4, cA0_5, cA0_6, cA0_7, cA0_8, cA0_9, cA0_10, cA0_11, cA0_12, cA0_13⟩ := HA0w1.out.all14
 have lA0 := HA0w1.out.lt
 go_wp2_with fail
 refine (toLogRecord_any ⟨p0kind, p0txn, p0prev, p0page, p0slot, ⟨p0bU, ⟨p0bDe, p0bDa, p0bDc, p0bDb⟩⟩, ⟨p0aU, ⟨p0aDe, p0aDa, p0aDc, p0aDb⟩⟩, p0uN, p0nT, ⟨p0tXe, p0tXa, p0tXn, p0tXc, p0tXb⟩, ⟨p0dYe, p0dYa, p0dYn, p0dYc, p0dYb⟩, ⟨p0iMe, p0iMa, p0iMc, p0iMb⟩⟩ _ (by omega) (HV0.out.same HKw1.out)).mono ?_
 rintro e w2 ⟨⟨C0kind, C0txn, C0prev, C0page, C0slot, ⟨C0bU, ⟨C0bDe, C0bDa, C0bDc, C0bDb⟩⟩, ⟨C0aU, ⟨C0aDe, C0aDa, C0aDc, C0aDb⟩⟩, C0uN, C0nT, ⟨C0tXe, C0tXa, C0tXn, C0tXc, C0tXb⟩, ⟨C0dYe, C0dYa, C0dYn, C0dYc, C0dYb⟩, ⟨C0iMe, C0iMa, C0iMc, C0iMb⟩⟩, rfl, hd, hz, hf, ho, hk⟩
 have HCC0 := (show Hid (StLogRecord.dat ⟨C0kind, C0txn, C0prev, C0page, C0slot, ⟨C0bU, ⟨C0bDe, C0bDa, C0bDc, C0bDb⟩⟩, ⟨C0aU, ⟨C0aDe, C0aDa, C0aDc, C0aDb⟩⟩, C0uN, C0nT, ⟨C0tXe, C0tXa, C0tXn, C0tXc, C0tXb⟩, ⟨C0dYe, C0dYa, C0dYn, C0dYc, C0dYb⟩, ⟨C0iMe, C0iMa, C0iMc, C0iMb⟩⟩ = StLogRecord.dat ⟨p0kind, p0txn, p0prev, p0page, p0slot, ⟨p0bU, ⟨p0bDe, p0bDa, p0bDc, p0bDb⟩⟩, ⟨p0aU, ⟨p0aDe, p0aDa, p0aDc, p0aDb⟩⟩, p0uN, p0nT, ⟨p0tXe, p0tXa, p0tXn, p0tXc, p0tXb⟩, ⟨p0dYe, p0dYa, p0dYn, p0dYc, p0dYb⟩, ⟨p0iMe, p0iMa, p0iMc, p0iMb⟩⟩) from hd)
 have HZC0 := (show Hid (StLogRecord.szs ⟨C0kind, C0txn, C0prev, C0page, C0slot, ⟨C0bU, ⟨C0bDe, C0bDa, C0bDc, C0bDb⟩⟩, ⟨C0aU, ⟨C0aDe, C0aDa, C0aDc, C0aDb⟩⟩, C0uN, C0nT, ⟨C0tXe, C0tXa, C0tXn, C0tXc, C0tXb⟩, ⟨C0dYe, C0dYa, C0dYn, C0dYc, C0dYb⟩, ⟨C0iMe, C0iMa, C0iMc, C0iMb⟩⟩ = StLogRecord.szs ⟨p0kind, p0txn, p0prev, p0page, p0slot, ⟨p0bU, ⟨p0bDe, p0bDa, p0bDc, p0bDb⟩⟩, ⟨p0aU, ⟨p0aDe, p0aDa, p0aDc, p0aDb⟩⟩, p0uN, p0nT, ⟨p0tXe, p0tXa, p0tXn, p0tXc, p0tXb⟩, ⟨p0dYe, p0dYa, p0dYn, p0dYc, p0dYb⟩, ⟨p0iMe, p0iMa, p0iMc, p0iMb⟩⟩) from hz)
 clear hd hz
 dsimp only [StLogRecord.val, StPageRecord.val, BS.v, FR.v]
 have HFC0 := (show Hid (∀ b, FootL (StLogRecord.rows ⟨C0kind, C0txn, C0prev, C0page, C0slot, ⟨C0bU, ⟨C0bDe, C0bDa, C0bDc, C0bDb⟩⟩, ⟨C0aU, ⟨C0aDe, C0aDa, C0aDc, C0aDb⟩⟩, C0uN, C0nT, ⟨C0tXe, C0tXa, C0tXn, C0tXc, C0tXb⟩, ⟨C0dYe, C0dYa, C0dYn, C0dYc, C0dYb⟩, ⟨C0iMe, C0iMa, C0iMc, C0iMb⟩⟩) b → w1.heap.size ≤ b ∧ b < w2.heap.size) from fun b hb => ⟨hf b hb, ho.lt b hb⟩)
 have HC0w2 := (show Hid (OwnL w2 (StLogRecord.rows ⟨C0kind, C0txn, C0prev, C0page, C0slot, ⟨C0bU, ⟨C0bDe, C0bDa, C0bDc, C0bDb⟩⟩, ⟨C0aU, ⟨C0aDe, C0aDa, C0aDc, C0aDb⟩⟩, C0uN, C0nT, ⟨C0tXe, C0tXa, C0tXn, C0tXc, C0tXb⟩, ⟨C0dYe, C0dYa, C0dYn, C0dYc, C0dYb⟩, ⟨C0iMe, C0iMa, C0iMc, C0iMb⟩⟩)) from ho)
 clear hf ho
 have hkk : Same w1 w2 := hk
 have hzw2 := hkk.size
 have HA0w2 := hid (HA0w1.out.same hkk)
 have HKw2 := hid (HKw1.out.trans hkk)
 clear hkk hk
 clear cA0_0 cA0_1 cA0_2 cA0_3 cA0_4 cA0_5 cA0_6 cA0_7 cA0_8 cA0_9 cA0_10 cA0_11 cA0_12 cA0_13 lA0
 obtain ⟨cA0_0, cA0_1, cA0_2, cA0_3, cA0_4, cA0_5, cA0_6, cA0_7, cA0_8, cA0_9, cA0_10, cA0_11, cA0_12, cA0_13⟩ := HA0w2.out.all14
 have lA0 := HA0w2.out.lt
 go_wp2_with fail
 refine (specRec_any ⟨C0kind, C0txn, C0prev, C0page, C0slot, ⟨C0bU, ⟨C0bDe, C0bDa, C0bDc, C0bDb⟩⟩, ⟨C0aU, ⟨C0aDe, C0aDa, C0aDc, C0aDb⟩⟩, C0uN, C0nT, ⟨C0tXe, C0tXa, C0tXn, C0tXc, C0tXb⟩, ⟨C0dYe, C0dYa, C0dYn, C0dYc, C0dYb⟩, ⟨C0iMe, C0iMa, C0iMc, C0iMb⟩⟩ _ (StLogRecord.isB_dat HCC0.out HB0.out) (by have := HZC0.out; omega) (StLogRecord.own_rd HC0w2.out)).mono ?_
 rintro e w3 ⟨rfl, hk⟩
 rw [HCC0.out]
 obtain ⟨r0, hR⟩ : ∃ r, recFd (StLogRecord.dat ⟨p0kind, p0txn, p0prev, p0page, p0slot, ⟨p0bU, ⟨p0bDe, p0bDa, p0bDc, p0bDb⟩⟩, ⟨p0aU, ⟨p0aDe, p0aDa, p0aDc, p0aDb⟩⟩, p0uN, p0nT, ⟨p0tXe, p0tXa, p0tXn, p0tXc, p0tXb⟩, ⟨p0dYe, p0dYa, p0dYn, p0dYc, p0dYb⟩, ⟨p0iMe, p0iMa, p0iMc, p0iMb⟩⟩) = r := ⟨_, rfl⟩
 have HR : Hid (recFd (StLogRecord.dat ⟨p0kind, p0txn, p0prev, p0page, p0slot, ⟨p0bU, ⟨p0bDe, p0bDa, p0bDc, p0bDb⟩⟩, ⟨p0aU, ⟨p0aDe, p0aDa, p0aDc, p0aDb⟩⟩, p0uN, p0nT, ⟨p0tXe, p0tXa, p0tXn, p0tXc, p0tXb⟩, ⟨p0dYe, p0dYa, p0dYn, p0dYc, p0dYb⟩, ⟨p0iMe, p0iMa, p0iMc, p0iMb⟩⟩) = r0) := hR
 clear hR
 rw [HR.out]
 have hkk : Same w2 w3 := hk
 have hzw3 := hkk.size
 have HA0w3 := hid (HA0w2.out.same hkk)
 have HC0w3 := hid (HC0w2.out.same hkk)
 have HKw3 := hid (HKw2.out.trans hkk)
 clear hkk hk
 clear cA0_0 cA0_1 cA0_2 cA0_3 cA0_4 cA0_5 cA0_6 cA0_7 cA0_8 cA0_9 cA0_10 cA0_11 cA0_12 cA0_13 lA0
 obtain ⟨cA0_0, cA0_1, cA0_2, cA0_3, cA0_4, cA0_5, cA0_6, cA0_7, cA0_8, cA0_9, cA0_10, cA0_11, cA0_12, cA0_13⟩ := HA0w3.out.all14
 have lA0 := HA0w3.out.lt
 go_wp2_with fail
 refine (toLogRecord_any ⟨p0kind, p0txn, p0prev, p0page, p0slot, ⟨p0bU, ⟨p0bDe, p0bDa, p0bDc, p0bDb⟩⟩, ⟨p0aU, ⟨p0aDe, p0aDa, p0aDc, p0aDb⟩⟩, p0uN, p0nT, ⟨p0tXe, p0tXa, p0tXn, p0tXc, p0tXb⟩, ⟨p0dYe, p0dYa, p0dYn, p0dYc, p0dYb⟩, ⟨p0iMe, p0iMa, p0iMc, p0iMb⟩⟩ _ (by omega) (HV0.out.same HKw3.out)).mono ?_
 rintro e w4 ⟨⟨X0kind, X0txn, X0prev, X0page, X0slot, ⟨X0bU, ⟨X0bDe, X0bDa, X0bDc, X0bDb⟩⟩, ⟨X0aU, ⟨X0aDe, X0aDa, X0aDc, X0aDb⟩⟩, X0uN, X0nT, ⟨X0tXe, X0tXa, X0tXn, X0tXc, X0tXb⟩, ⟨X0dYe, X0dYa, X0dYn, X0dYc, X0dYb⟩, ⟨X0iMe, X0iMa, X0iMc, X0iMb⟩⟩, rfl, hd, hz, hf, ho, hk⟩
 have HCX0 := (show Hid (StLogRecord.dat ⟨X0kind, X0txn, X0prev, X0page, X0slot, ⟨X0bU, ⟨X0bDe, X0bDa, X0bDc, X0bDb⟩⟩, ⟨X0aU, ⟨X0aDe, X0aDa, X0aDc, X0aDb⟩⟩, X0uN, X0nT, ⟨X0tXe, X0tXa, X0tXn, X0tXc, X0tXb⟩, ⟨X0dYe, X0dYa, X0dYn, X0dYc, X0dYb⟩, ⟨X0iMe, X0iMa, X0iMc, X0iMb⟩⟩ = StLogRecord.dat ⟨p0kind, p0txn, p0prev, p0page, p0slot, ⟨p0bU, ⟨p0bDe, p0bDa, p0bDc, p0bDb⟩⟩, ⟨p0aU, ⟨p0aDe, p0aDa, p0aDc, p0aDb⟩⟩, p0uN, p0nT, ⟨p0tXe, p0tXa, p0tXn, p0tXc, p0tXb⟩, ⟨p0dYe, p0dYa, p0dYn, p0dYc, p0dYb⟩, ⟨p0iMe, p0iMa, p0iMc, p0iMb⟩⟩) from hd)
 have HZX0 := (show Hid (StLogRecord.szs ⟨X0kind, X0txn, X0prev, X0page, X0slot, ⟨X0bU, ⟨X0bDe, X0bDa, X0bDc, X0bDb⟩⟩, ⟨X0aU, ⟨X0aDe, X0aDa, X0aDc, X0aDb⟩⟩, X0uN, X0nT, ⟨X0tXe, X0tXa, X0tXn, X0tXc, X0tXb⟩, ⟨X0dYe, X0dYa, X0dYn, X0dYc, X0dYb⟩, ⟨X0iMe, X0iMa, X0iMc, X0iMb⟩⟩ = StLogRecord.szs ⟨p0kind, p0txn, p0prev, p0page, p0slot, ⟨p0bU, ⟨p0bDe, p0bDa, p0bDc, p0bDb⟩⟩, ⟨p0aU, ⟨p0aDe, p0aDa, p0aDc, p0aDb⟩⟩, p0uN, p0nT, ⟨p0tXe, p0tXa, p0tXn, p0tXc, p0tXb⟩, ⟨p0dYe, p0dYa, p0dYn, p0dYc, p0dYb⟩, ⟨p0iMe, p0iMa, p0iMc, p0iMb⟩⟩) from hz)
 clear hd hz
 dsimp only [StLogRecord.val, StPageRecord.val, BS.v, FR.v]
 have HFX0 := (show Hid (∀ b, FootL (StLogRecord.rows ⟨X0kind, X0txn, X0prev, X0page, X0slot, ⟨X0bU, ⟨X0bDe, X0bDa, X0bDc, X0bDb⟩⟩, ⟨X0aU, ⟨X0aDe, X0aDa, X0aDc, X0aDb⟩⟩, X0uN, X0nT, ⟨X0tXe, X0tXa, X0tXn, X0tXc, X0tXb⟩, ⟨X0dYe, X0dYa, X0dYn, X0dYc, X0dYb⟩, ⟨X0iMe, X0iMa, X0iMc, X0iMb⟩⟩) b → w3.heap.size ≤ b ∧ b < w4.heap.size) from fun b hb => ⟨hf b hb, ho.lt b hb⟩)
 have HX0w4 := (show Hid (OwnL w4 (StLogRecord.rows ⟨X0kind, X0txn, X0prev, X0page, X0slot, ⟨X0bU, ⟨X0bDe, X0bDa, X0bDc, X0bDb⟩⟩, ⟨X0aU, ⟨X0aDe, X0aDa, X0aDc, X0aDb⟩⟩, X0uN, X0nT, ⟨X0tXe, X0tXa, X0tXn, X0tXc, X0tXb⟩, ⟨X0dYe, X0dYa, X0dYn, X0dYc, X0dYb⟩, ⟨X0iMe, X0iMa, X0iMc, X0iMb⟩⟩)) from ho)
 clear hf ho
 have hkk : Same w3 w4 := hk
 have hzw4 := hkk.size
 have HA0w4 := hid (HA0w3.out.same hkk)
 have HKw4 := hid (HKw3.out.trans hkk)
 clear hkk hk
 clear cA0_0 cA0_1 cA0_2 cA0_3 cA0_4 cA0_5 cA0_6 cA0_7 cA0_8 cA0_9 cA0_10 cA0_11 cA0_12 cA0_13 lA0
 obtain ⟨cA0_0, cA0_1, cA0_2, cA0_3, cA0_4, cA0_5, cA0_6, cA0_7, cA0_8, cA0_9, cA0_10, cA0_11, cA0_12, cA0_13⟩ := HA0w4.out.all14
 have lA0 := HA0w4.out.lt
 go_wp2_with fail
 refine (implRec_any ⟨X0kind, X0txn, X0prev, X0page, X0slot, ⟨X0bU, ⟨X0bDe, X0bDa, X0bDc, X0bDb⟩⟩, ⟨X0aU, ⟨X0aDe, X0aDa, X0aDc, X0aDb⟩⟩, X0uN, X0nT, ⟨X0tXe, X0tXa, X0tXn, X0tXc, X0tXb⟩, ⟨X0dYe, X0dYa, X0dYn, X0dYc, X0dYb⟩, ⟨X0iMe, X0iMa, X0iMc, X0iMb⟩⟩ _ (StLogRecord.isB_dat HCX0.out HB0.out) (by have := HZX0.out; omega) (StLogRecord.own_rd (HX0w4.out.same ((Kept.refl _ _).alloc _)))).mono ?_
 rintro e w5 ⟨rfl, hk⟩
 rw [HCX0.out]
 rw [HR.out]
 have hkk : Same w4 w5 := ((Kept.refl _ _).alloc _).trans hk
 have hzw5 := hk.size
 rw [World.size_alloc] at hzw5
 have HA0w5 := hid (HA0w4.out.same hkk)
 have HX0w5 := hid (HX0w4.out.same hkk)
 have HT0w5 := (show Hid (Blk w5 (w4.heap.size) 35 [.int .i64 X0kind, .int .i64 X0txn, .int .i64 X0prev, .int .i64 X0page, .int .i64 X0slot, .bool X0bU, .slice X0bDa X0bDb.length X0bDc, .bool X0aU, .slice X0aDa X0aDb.length X0aDc, .int .i64 X0uN, .int .i64 X0nT, .slice X0tXa X0tXn X0tXc, .slice X0dYa X0dYn X0dYc, .slice X0iMa X0iMb.length X0iMc]) from (Blk.new w4 #[.int .i64 X0kind, .int .i64 X0txn, .int .i64 X0prev, .int .i64 X0page, .int .i64 X0slot, .bool X0bU, .slice X0bDa X0bDb.length X0bDc, .bool X0aU, .slice X0aDa X0aDb.length X0aDc, .int .i64 X0uN, .int .i64 X0nT, .slice X0tXa X0tXn X0tXc, .slice X0dYa X0dYn X0dYc, .slice X0iMa X0iMb.length X0iMc] 35).same hk)
 have HKw5 := hid (HKw4.out.trans hkk)
 clear hkk hk
 clear cA0_0 cA0_1 cA0_2 cA0_3 cA0_4 cA0_5 cA0_6 cA0_7 cA0_8 cA0_9 cA0_10 cA0_11 cA0_12 cA0_13 lA0
 obtain ⟨cA0_0, cA0_1, cA0_2, cA0_3, cA0_4, cA0_5, cA0_6, cA0_7, cA0_8, cA0_9, cA0_10, cA0_11, cA0_12, cA0_13⟩ := HA0w5.out.all14
 have lA0 := HA0w5.out.lt
 obtain ⟨cT0_0, cT0_1, cT0_2, cT0_3, cT0_4, cT0_5, cT0_6, cT0_7, cT0_8, cT0_9, cT0_10, cT0_11, cT0_12, cT0_13⟩ := HT0w5.out.all14
 have lT0 := HT0w5.out.lt
 go_wp2_with fail
 go_cut [26] (fun v wc => v = .bool false ∧ Hid (Same w5 wc))
 case first =>
  have HD1 : Hid (Same w w5.drew) := HKw5.out.drew
  have HD2 : Hid (Same w5 w5.drew) := (Kept.refl _ _).drew
  go_region_with (first | (go_at_call 9; refine (toLogRecord_any ⟨p0kind, p0txn, p0prev, p0page, p0slot, ⟨p0bU, ⟨p0bDe, p0bDa, p0bDc, p0bDb⟩⟩, ⟨p0aU, ⟨p0aDe, p0aDa, p0aDc, p0aDb⟩⟩, p0uN, p0nT, ⟨p0tXe, p0tXa, p0tXn, p0tXc, p0tXb⟩, ⟨p0dYe, p0dYa, p0dYn, p0dYc, p0dYb⟩, ⟨p0iMe, p0iMa, p0iMc, p0iMb⟩⟩ _ (by omega) (by exact HV0.out.same HD1.out)).mono ?_; rintro e wx7 ⟨⟨zkind, ztxn, zprev, zpage, zslot, ⟨zbU, ⟨zbDe, zbDa, zbDc, zbDb⟩⟩, ⟨zaU, ⟨zaDe, zaDa, zaDc, zaDb⟩⟩, zuN, znT, ⟨ztXe, ztXa, ztXn, ztXc, ztXb⟩, ⟨zdYe, zdYa, zdYn, zdYc, zdYb⟩, ⟨ziMe, ziMa, ziMc, ziMb⟩⟩, rfl, hd7, _, hf7, ho7, hk7⟩; have HO7 := (show Hid (OwnL wx7 (StLogRecord.rows ⟨zkind, ztxn, zprev, zpage, zslot, ⟨zbU, ⟨zbDe, zbDa, zbDc, zbDb⟩⟩, ⟨zaU, ⟨zaDe, zaDa, zaDc, zaDb⟩⟩, zuN, znT, ⟨ztXe, ztXa, ztXn, ztXc, ztXb⟩, ⟨zdYe, zdYa, zdYn, zdYc, zdYb⟩, ⟨ziMe, ziMa, ziMc, ziMb⟩⟩)) from ho7); have HQ7 := (show Hid (StLogRecord.dat ⟨zkind, ztxn, zprev, zpage, zslot, ⟨zbU, ⟨zbDe, zbDa, zbDc, zbDb⟩⟩, ⟨zaU, ⟨zaDe, zaDa, zaDc, zaDb⟩⟩, zuN, znT, ⟨ztXe, ztXa, ztXn, ztXc, ztXb⟩, ⟨zdYe, zdYa, zdYn, zdYc, zdYb⟩, ⟨ziMe, ziMa, ziMc, ziMb⟩⟩ = StLogRecord.dat ⟨p0kind, p0txn, p0prev, p0page, p0slot, ⟨p0bU, ⟨p0bDe, p0bDa, p0bDc, p0bDb⟩⟩, ⟨p0aU, ⟨p0aDe, p0aDa, p0aDc, p0aDb⟩⟩, p0uN, p0nT, ⟨p0tXe, p0tXa, p0tXn, p0tXc, p0tXb⟩, ⟨p0dYe, p0dYa, p0dYn, p0dYc, p0dYb⟩, ⟨p0iMe, p0iMa, p0iMc, p0iMb⟩⟩) from hd7); have HK7 : Hid (Same w5 wx7) := HD2.out.trans hk7; clear ho7 hd7 hf7 hk7; dsimp only [StLogRecord.val, StPageRecord.val, BS.v, FR.v]; have y0 : wx7.cell? ⟨w4.heap.size, 0, none⟩ = some (.int .i64 X0kind) := (HT0w5.out.same HK7.out).cell 0; have y1 : wx7.cell? ⟨w4.heap.size, 1, none⟩ = some (.int .i64 X0txn) := (HT0w5.out.same HK7.out).cell 1; have y2 : wx7.cell? ⟨w4.heap.size, 2, none⟩ = some (.int .i64 X0prev) := (HT0w5.out.same HK7.out).cell 2; have y3 : wx7.cell? ⟨w4.heap.size, 3, none⟩ = some (.int .i64 X0page) := (HT0w5.out.same HK7.out).cell 3; have y4 : wx7.cell? ⟨w4.heap.size, 4, none⟩ = some (.int .i64 X0slot) := (HT0w5.out.same HK7.out).cell 4; have y5 : wx7.cell? ⟨w4.heap.size, 5, none⟩ = some (.bool X0bU) := (HT0w5.out.same HK7.out).cell 5; have y6 : wx7.cell? ⟨w4.heap.size, 6, none⟩ = some (.slice X0bDa X0bDb.length X0bDc) := (HT0w5.out.same HK7.out).cell 6; have y7 : wx7.cell? ⟨w4.heap.size, 7, none⟩ = some (.bool X0aU) := (HT0w5.out.same HK7.out).cell 7; have y8 : wx7.cell? ⟨w4.heap.size, 8, none⟩ = some (.slice X0aDa X0aDb.length X0aDc) := (HT0w5.out.same HK7.out).cell 8; have y9 : wx7.cell? ⟨w4.heap.size, 9, none⟩ = some (.int .i64 X0uN) := (HT0w5.out.same HK7.out).cell 9; have y10 : wx7.cell? ⟨w4.heap.size, 10, none⟩ = some (.int .i64 X0nT) := (HT0w5.out.same HK7.out).cell 10; have y11 : wx7.cell? ⟨w4.heap.size, 11, none⟩ = some (.slice X0tXa X0tXn X0tXc) := (HT0w5.out.same HK7.out).cell 11; have y12 : wx7.cell? ⟨w4.heap.size, 12, none⟩ = some (.slice X0dYa X0dYn X0dYc) := (HT0w5.out.same HK7.out).cell 12; have y13 : wx7.cell? ⟨w4.heap.size, 13, none⟩ = some (.slice X0iMa X0iMb.length X0iMc) := (HT0w5.out.same HK7.out).cell 13) | (go_at_call 11; refine (eqLogRecord_own ⟨X0kind, X0txn, X0prev, X0page, X0slot, ⟨X0bU, ⟨X0bDe, X0bDa, X0bDc, X0bDb⟩⟩, ⟨X0aU, ⟨X0aDe, X0aDa, X0aDc, X0aDb⟩⟩, X0uN, X0nT, ⟨X0tXe, X0tXa, X0tXn, X0tXc, X0tXb⟩, ⟨X0dYe, X0dYa, X0dYn, X0dYc, X0dYb⟩, ⟨X0iMe, X0iMa, X0iMc, X0iMb⟩⟩ ⟨zkind, ztxn, zprev, zpage, zslot, ⟨zbU, ⟨zbDe, zbDa, zbDc, zbDb⟩⟩, ⟨zaU, ⟨zaDe, zaDa, zaDc, zaDb⟩⟩, zuN, znT, ⟨ztXe, ztXa, ztXn, ztXc, ztXb⟩, ⟨zdYe, zdYa, zdYn, zdYc, zdYb⟩, ⟨ziMe, ziMa, ziMc, ziMb⟩⟩ _ (by have h1 := StLogRecord.size_rd (StLogRecord.own_rd HX0w5.out); have h2 := HZX0.out; omega) (HCX0.out.trans HQ7.out.symm) (HX0w5.out.same HK7.out) HO7.out).mono ?_; rintro e wx8 ⟨rfl, hk8⟩))
  all_goals
   have HK8 : Hid (Same w5 wx8) := HK7.out.trans hk8
   clear hk8
   go_wp2_with fail
   go_meet
   case rel => exact ⟨rfl, HK8⟩
 case rest =>
 obtain ⟨rfl, HKC⟩ := hcut
 obtain ⟨w6, hwc⟩ : ∃ x, x = wc := ⟨_, rfl⟩
 subst hwc
 clear cA0_0 cA0_1 cA0_2 cA0_3 cA0_4 cA0_5 cA0_6 cA0_7 cA0_8 cA0_9 cA0_10 cA0_11 cA0_12 cA0_13 lA0 cT0_0 cT0_1 cT0_2 cT0_3 cT0_4 cT0_5 cT0_6 cT0_7 cT0_8 cT0_9 cT0_10 cT0_11 cT0_12 cT0_13 lT0
 have hkk : Same w5 w6 := HKC.out
 have hzw6 := hkk.size
 have HA0w6 := hid (HA0w5.out.same hkk)
 have HX0w6 := hid (HX0w5.out.same hkk)
 have HT0w6 := hid (HT0w5.out.same hkk)
 have HKw6 := hid (HKw5.out.trans hkk)
 clear hkk
 go_wp2
 go_ret
 exact ⟨rfl, HKw6.out⟩
end Go.Proofs.Ytdgmecmkkddpeaa
