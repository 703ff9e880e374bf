import Derived.Test.YtdgmecmkkddpeaaG26
import Derived.Test.YtdgmecmkkddpeaaG18
import Derived.Test.YtdgmecmkkddpeaaG20
import Derived.Test.YtdgmecmkkddpeaaG00
import Derived.Test.YtdgmecmkkddpeaaOpenRec
import Derived.Deep.DeepCutAuto
import Derived.Deep.RegionWith
import Derived.Deep.DeepMust


namespace Go.Proofs.Ytdgmecmkkddpeaa
set_option maxRecDepth 100000
set_option maxHeartbeats 16000000
open Go.RowKit
set_option linter.unusedVariables false
theorem encodeRecord_law (x0 : StLogRecord) (w : World) (hv0 : StLogRecord.rd w x0) (hB0 : x0.isB) :
    Calls Try.prog 4 #[x0.val] w fun e w' => e = .returned (.bool true) ∧ Same w w' := by
  obtain ⟨p0kind, p0txn, p0prev, p0page, p0slot, ⟨p0bU, ⟨p0bDe, p0bDa, p0bDc, p0bDb⟩⟩, ⟨p0aU, ⟨p0aDe, p0aDa, p0aDc, p0aDb⟩⟩, p0uN, p0nT, ⟨p0tXe, p0tXa, p0tXn, p0tXc, p0tXb⟩, ⟨p0dYe, p0dYa, p0dYn, p0dYc, p0dYb⟩, ⟨p0iMe, p0iMa, p0iMc, p0iMb⟩⟩ := x0
  have HV0 := (show Hid (StLogRecord.rd w ⟨p0kind, p0txn, p0prev, p0page, p0slot, ⟨p0bU, ⟨p0bDe, p0bDa, p0bDc, p0bDb⟩⟩, ⟨p0aU, ⟨p0aDe, p0aDa, p0aDc, p0aDb⟩⟩, p0uN, p0nT, ⟨p0tXe, p0tXa, p0tXn, p0tXc, p0tXb⟩, ⟨p0dYe, p0dYa, p0dYn, p0dYc, p0dYb⟩, ⟨p0iMe, p0iMa, p0iMc, p0iMb⟩⟩) from hv0)
  clear hv0
  have HB0 := (show Hid (StLogRecord.isB ⟨p0kind, p0txn, p0prev, p0page, p0slot, ⟨p0bU, ⟨p0bDe, p0bDa, p0bDc, p0bDb⟩⟩, ⟨p0aU, ⟨p0aDe, p0aDa, p0aDc, p0aDb⟩⟩, p0uN, p0nT, ⟨p0tXe, p0tXa, p0tXn, p0tXc, p0tXb⟩, ⟨p0dYe, p0dYa, p0dYn, p0dYc, p0dYb⟩, ⟨p0iMe, p0iMa, p0iMc, p0iMb⟩⟩) from hB0)
  clear hB0
  dsimp only [StLogRecord.val, StPageRecord.val, BS.v, FR.v]
  go_enter Try.func4, Try.ntmps4
  have HKw : Hid (Same w w) := Kept.refl _ _
  go_wp2_with fail
  refine (szLogRecord_any ⟨p0kind, p0txn, p0prev, p0page, p0slot, ⟨p0bU, ⟨p0bDe, p0bDa, p0bDc, p0bDb⟩⟩, ⟨p0aU, ⟨p0aDe, p0aDa, p0aDc, p0aDb⟩⟩, p0uN, p0nT, ⟨p0tXe, p0tXa, p0tXn, p0tXc, p0tXb⟩, ⟨p0dYe, p0dYa, p0dYn, p0dYc, p0dYb⟩, ⟨p0iMe, p0iMa, p0iMc, p0iMb⟩⟩ _ _ (by omega) (by omega) (HV0.out.same ((Kept.refl _ _).alloc _))).mono ?_
  rintro e w1 ⟨sz0, rfl, hr, hk⟩
  have hkk : Same w w1 := ((Kept.refl _ _).alloc _).trans hk
  have hzw1 := hk.size
  rw [World.size_alloc] at hzw1
  have HA0w1 := (show Hid (Blk w1 (w.heap.size) 28 [.int .i64 p0kind, .int .i64 p0txn, .int .i64 p0prev, .int .i64 p0page, .int .i64 p0slot, .bool p0bU, .slice p0bDa p0bDb.length p0bDc, .bool p0aU, .slice p0aDa p0aDb.length p0aDc, .int .i64 p0uN, .int .i64 p0nT, .slice p0tXa p0tXn p0tXc, .slice p0dYa p0dYn p0dYc, .slice p0iMa p0iMb.length p0iMc]) from (Blk.new w #[.int .i64 p0kind, .int .i64 p0txn, .int .i64 p0prev, .int .i64 p0page, .int .i64 p0slot, .bool p0bU, .slice p0bDa p0bDb.length p0bDc, .bool p0aU, .slice p0aDa p0aDb.length p0aDc, .int .i64 p0uN, .int .i64 p0nT, .slice p0tXa p0tXn p0tXc, .slice p0dYa p0dYn p0dYc, .slice p0iMa p0iMb.length p0iMc] 28).same hk)
  have HKw1 := (show Hid (Same w w1) from HKw.out.trans hkk)
  clear hkk hk
  rcases hr with rfl | ⟨hr, hr0⟩
  · go_wp2
    go_ret
    exact ⟨rfl, HKw1.out⟩
  have hsz0 : StLogRecord.szs ⟨p0kind, p0txn, p0prev, p0page, p0slot, ⟨p0bU, ⟨p0bDe, p0bDa, p0bDc, p0bDb⟩⟩, ⟨p0aU, ⟨p0aDe, p0aDa, p0aDc, p0aDb⟩⟩, p0uN, p0nT, ⟨p0tXe, p0tXa, p0tXn, p0tXc, p0tXb⟩, ⟨p0dYe, p0dYa, p0dYn, p0dYc, p0dYb⟩, ⟨p0iMe, p0iMa, p0iMc, p0iMb⟩⟩ ≤ 1048576 := by omega
  clear hr
  obtain ⟨cA0_0, cA0_1, cA0_2, cA0_3, cA0_4, cA0_5, cA0_6, cA0_7, cA0_8, cA0_9, cA0_10, cA0_11, cA0_12, cA0_13⟩ := HA0w1.out.all14
  have lA0 := HA0w1.out.lt
  go_wp2_with fail
  refine (toLogRecord_any ⟨p0kind, p0txn, p0prev, p0page, p0slot, ⟨p0bU, ⟨p0bDe, p0bDa, p0bDc, p0bDb⟩⟩, ⟨p0aU, ⟨p0aDe, p0aDa, p0aDc, p0aDb⟩⟩, p0uN, p0nT, ⟨p0tXe, p0tXa, p0tXn, p0tXc, p0tXb⟩, ⟨p0dYe, p0dYa, p0dYn, p0dYc, p0dYb⟩, ⟨p0iMe, p0iMa, p0iMc, p0iMb⟩⟩ _ (by omega) (HV0.out.same HKw1.out)).mono ?_
  rintro e w2 ⟨⟨C0kind, C0txn, C0prev, C0page, C0slot, ⟨C0bU, ⟨C0bDe, C0bDa, C0bDc, C0bDb⟩⟩, ⟨C0aU, ⟨C0aDe, C0aDa, C0aDc, C0aDb⟩⟩, C0uN, C0nT, ⟨C0tXe, C0tXa, C0tXn, C0tXc, C0tXb⟩, ⟨C0dYe, C0dYa, C0dYn, C0dYc, C0dYb⟩, ⟨C0iMe, C0iMa, C0iMc, C0iMb⟩⟩, rfl, hd, hz, hf, ho, hk⟩
  have HCC0 := (show Hid (StLogRecord.dat ⟨C0kind, C0txn, C0prev, C0page, C0slot, ⟨C0bU, ⟨C0bDe, C0bDa, C0bDc, C0bDb⟩⟩, ⟨C0aU, ⟨C0aDe, C0aDa, C0aDc, C0aDb⟩⟩, C0uN, C0nT, ⟨C0tXe, C0tXa, C0tXn, C0tXc, C0tXb⟩, ⟨C0dYe, C0dYa, C0dYn, C0dYc, C0dYb⟩, ⟨C0iMe, C0iMa, C0iMc, C0iMb⟩⟩ = StLogRecord.dat ⟨p0kind, p0txn, p0prev, p0page, p0slot, ⟨p0bU, ⟨p0bDe, p0bDa, p0bDc, p0bDb⟩⟩, ⟨p0aU, ⟨p0aDe, p0aDa, p0aDc, p0aDb⟩⟩, p0uN, p0nT, ⟨p0tXe, p0tXa, p0tXn, p0tXc, p0tXb⟩, ⟨p0dYe, p0dYa, p0dYn, p0dYc, p0dYb⟩, ⟨p0iMe, p0iMa, p0iMc, p0iMb⟩⟩) from hd)
  have HZC0 := (show Hid (StLogRecord.szs ⟨C0kind, C0txn, C0prev, C0page, C0slot, ⟨C0bU, ⟨C0bDe, C0bDa, C0bDc, C0bDb⟩⟩, ⟨C0aU, ⟨C0aDe, C0aDa, C0aDc, C0aDb⟩⟩, C0uN, C0nT, ⟨C0tXe, C0tXa, C0tXn, C0tXc, C0tXb⟩, ⟨C0dYe, C0dYa, C0dYn, C0dYc, C0dYb⟩, ⟨C0iMe, C0iMa, C0iMc, C0iMb⟩⟩ = StLogRecord.szs ⟨p0kind, p0txn, p0prev, p0page, p0slot, ⟨p0bU, ⟨p0bDe, p0bDa, p0bDc, p0bDb⟩⟩, ⟨p0aU, ⟨p0aDe, p0aDa, p0aDc, p0aDb⟩⟩, p0uN, p0nT, ⟨p0tXe, p0tXa, p0tXn, p0tXc, p0tXb⟩, ⟨p0dYe, p0dYa, p0dYn, p0dYc, p0dYb⟩, ⟨p0iMe, p0iMa, p0iMc, p0iMb⟩⟩) from hz)
  clear hd hz
  dsimp only [StLogRecord.val, StPageRecord.val, BS.v, FR.v]
  have HFC0 := (show Hid (∀ b, FootL (StLogRecord.rows ⟨C0kind, C0txn, C0prev, C0page, C0slot, ⟨C0bU, ⟨C0bDe, C0bDa, C0bDc, C0bDb⟩⟩, ⟨C0aU, ⟨C0aDe, C0aDa, C0aDc, C0aDb⟩⟩, C0uN, C0nT, ⟨C0tXe, C0tXa, C0tXn, C0tXc, C0tXb⟩, ⟨C0dYe, C0dYa, C0dYn, C0dYc, C0dYb⟩, ⟨C0iMe, C0iMa, C0iMc, C0iMb⟩⟩) b → w1.heap.size ≤ b ∧ b < w2.heap.size) from fun b hb => ⟨hf b hb, ho.lt b hb⟩)
  have HC0w2 := (show Hid (OwnL w2 (StLogRecord.rows ⟨C0kind, C0txn, C0prev, C0page, C0slot, ⟨C0bU, ⟨C0bDe, C0bDa, C0bDc, C0bDb⟩⟩, ⟨C0aU, ⟨C0aDe, C0aDa, C0aDc, C0aDb⟩⟩, C0uN, C0nT, ⟨C0tXe, C0tXa, C0tXn, C0tXc, C0tXb⟩, ⟨C0dYe, C0dYa, C0dYn, C0dYc, C0dYb⟩, ⟨C0iMe, C0iMa, C0iMc, C0iMb⟩⟩)) from ho)
  clear hf ho
  have hkk : Same w1 w2 := hk
  have hzw2 := hkk.size
  have HA0w2 := hid (HA0w1.out.same hkk)
  have HKw2 := (show Hid (Same w w2) from HKw1.out.trans hkk)
  clear hkk hk
  clear cA0_0 cA0_1 cA0_2 cA0_3 cA0_4 cA0_5 cA0_6 cA0_7 cA0_8 cA0_9 cA0_10 cA0_11 cA0_12 cA0_13 lA0
  obtain ⟨cA0_0, cA0_1, cA0_2, cA0_3, cA0_4, cA0_5, cA0_6, cA0_7, cA0_8, cA0_9, cA0_10, cA0_11, cA0_12, cA0_13⟩ := HA0w2.out.all14
  have lA0 := HA0w2.out.lt
  go_wp2_with fail
  refine (specEnc_any ⟨C0kind, C0txn, C0prev, C0page, C0slot, ⟨C0bU, ⟨C0bDe, C0bDa, C0bDc, C0bDb⟩⟩, ⟨C0aU, ⟨C0aDe, C0aDa, C0aDc, C0aDb⟩⟩, C0uN, C0nT, ⟨C0tXe, C0tXa, C0tXn, C0tXc, C0tXb⟩, ⟨C0dYe, C0dYa, C0dYn, C0dYc, C0dYb⟩, ⟨C0iMe, C0iMa, C0iMc, C0iMb⟩⟩ _ (StLogRecord.isB_dat HCC0.out HB0.out) (by have := HZC0.out; omega) (StLogRecord.own_rd HC0w2.out)).mono ?_
  rintro e w3 ⟨aW, cW, rfl, hf, ho, hk⟩
  rw [HCC0.out] at hf ho ⊢
  have hrl : (encFd (StLogRecord.dat ⟨p0kind, p0txn, p0prev, p0page, p0slot, ⟨p0bU, ⟨p0bDe, p0bDa, p0bDc, p0bDb⟩⟩, ⟨p0aU, ⟨p0aDe, p0aDa, p0aDc, p0aDb⟩⟩, p0uN, p0nT, ⟨p0tXe, p0tXa, p0tXn, p0tXc, p0tXb⟩, ⟨p0dYe, p0dYa, p0dYn, p0dYc, p0dYb⟩, ⟨p0iMe, p0iMa, p0iMc, p0iMb⟩⟩)).length ≤ 1048576 := Nat.le_trans (encFd_length _) (by omega)
  obtain ⟨r0, hR⟩ : ∃ r, encFd (StLogRecord.dat ⟨p0kind, p0txn, p0prev, p0page, p0slot, ⟨p0bU, ⟨p0bDe, p0bDa, p0bDc, p0bDb⟩⟩, ⟨p0aU, ⟨p0aDe, p0aDa, p0aDc, p0aDb⟩⟩, p0uN, p0nT, ⟨p0tXe, p0tXa, p0tXn, p0tXc, p0tXb⟩, ⟨p0dYe, p0dYa, p0dYn, p0dYc, p0dYb⟩, ⟨p0iMe, p0iMa, p0iMc, p0iMb⟩⟩) = r := ⟨_, rfl⟩
  have HR : Hid (encFd (StLogRecord.dat ⟨p0kind, p0txn, p0prev, p0page, p0slot, ⟨p0bU, ⟨p0bDe, p0bDa, p0bDc, p0bDb⟩⟩, ⟨p0aU, ⟨p0aDe, p0aDa, p0aDc, p0aDb⟩⟩, p0uN, p0nT, ⟨p0tXe, p0tXa, p0tXn, p0tXc, p0tXb⟩, ⟨p0dYe, p0dYa, p0dYn, p0dYc, p0dYb⟩, ⟨p0iMe, p0iMa, p0iMc, p0iMb⟩⟩) = r0) := hR
  rw [hR] at hrl
  clear hR
  rw [HR.out] at hf ho ⊢
  have HFW := (show Hid (∀ b, (Value.slice aW r0.length cW).ownBlock = some b → w2.heap.size ≤ b ∧ b < w3.heap.size) from fun b hb => ⟨hf b hb, (ho.lt b hb).2⟩)
  have HWw3 := (show Hid (Own 0 5 .u8 w3 (.slice aW r0.length cW) r0) from ho)
  clear hf ho
  have hkk : Same w2 w3 := hk
  have hzw3 := hkk.size
  have HA0w3 := hid (HA0w2.out.same hkk)
  have HC0w3 := hid (HC0w2.out.same hkk)
  have HKw3 := (show Hid (Same w w3) from HKw2.out.trans hkk)
  clear hkk hk
  clear cA0_0 cA0_1 cA0_2 cA0_3 cA0_4 cA0_5 cA0_6 cA0_7 cA0_8 cA0_9 cA0_10 cA0_11 cA0_12 cA0_13 lA0
  obtain ⟨cA0_0, cA0_1, cA0_2, cA0_3, cA0_4, cA0_5, cA0_6, cA0_7, cA0_8, cA0_9, cA0_10, cA0_11, cA0_12, cA0_13⟩ := HA0w3.out.all14
  have lA0 := HA0w3.out.lt
  go_wp2_with fail
  refine (toLogRecord_any ⟨p0kind, p0txn, p0prev, p0page, p0slot, ⟨p0bU, ⟨p0bDe, p0bDa, p0bDc, p0bDb⟩⟩, ⟨p0aU, ⟨p0aDe, p0aDa, p0aDc, p0aDb⟩⟩, p0uN, p0nT, ⟨p0tXe, p0tXa, p0tXn, p0tXc, p0tXb⟩, ⟨p0dYe, p0dYa, p0dYn, p0dYc, p0dYb⟩, ⟨p0iMe, p0iMa, p0iMc, p0iMb⟩⟩ _ (by omega) (HV0.out.same HKw3.out)).mono ?_
  rintro e w4 ⟨⟨X0kind, X0txn, X0prev, X0page, X0slot, ⟨X0bU, ⟨X0bDe, X0bDa, X0bDc, X0bDb⟩⟩, ⟨X0aU, ⟨X0aDe, X0aDa, X0aDc, X0aDb⟩⟩, X0uN, X0nT, ⟨X0tXe, X0tXa, X0tXn, X0tXc, X0tXb⟩, ⟨X0dYe, X0dYa, X0dYn, X0dYc, X0dYb⟩, ⟨X0iMe, X0iMa, X0iMc, X0iMb⟩⟩, rfl, hd, hz, hf, ho, hk⟩
  have HCX0 := (show Hid (StLogRecord.dat ⟨X0kind, X0txn, X0prev, X0page, X0slot, ⟨X0bU, ⟨X0bDe, X0bDa, X0bDc, X0bDb⟩⟩, ⟨X0aU, ⟨X0aDe, X0aDa, X0aDc, X0aDb⟩⟩, X0uN, X0nT, ⟨X0tXe, X0tXa, X0tXn, X0tXc, X0tXb⟩, ⟨X0dYe, X0dYa, X0dYn, X0dYc, X0dYb⟩, ⟨X0iMe, X0iMa, X0iMc, X0iMb⟩⟩ = StLogRecord.dat ⟨p0kind, p0txn, p0prev, p0page, p0slot, ⟨p0bU, ⟨p0bDe, p0bDa, p0bDc, p0bDb⟩⟩, ⟨p0aU, ⟨p0aDe, p0aDa, p0aDc, p0aDb⟩⟩, p0uN, p0nT, ⟨p0tXe, p0tXa, p0tXn, p0tXc, p0tXb⟩, ⟨p0dYe, p0dYa, p0dYn, p0dYc, p0dYb⟩, ⟨p0iMe, p0iMa, p0iMc, p0iMb⟩⟩) from hd)
  have HZX0 := (show Hid (StLogRecord.szs ⟨X0kind, X0txn, X0prev, X0page, X0slot, ⟨X0bU, ⟨X0bDe, X0bDa, X0bDc, X0bDb⟩⟩, ⟨X0aU, ⟨X0aDe, X0aDa, X0aDc, X0aDb⟩⟩, X0uN, X0nT, ⟨X0tXe, X0tXa, X0tXn, X0tXc, X0tXb⟩, ⟨X0dYe, X0dYa, X0dYn, X0dYc, X0dYb⟩, ⟨X0iMe, X0iMa, X0iMc, X0iMb⟩⟩ = StLogRecord.szs ⟨p0kind, p0txn, p0prev, p0page, p0slot, ⟨p0bU, ⟨p0bDe, p0bDa, p0bDc, p0bDb⟩⟩, ⟨p0aU, ⟨p0aDe, p0aDa, p0aDc, p0aDb⟩⟩, p0uN, p0nT, ⟨p0tXe, p0tXa, p0tXn, p0tXc, p0tXb⟩, ⟨p0dYe, p0dYa, p0dYn, p0dYc, p0dYb⟩, ⟨p0iMe, p0iMa, p0iMc, p0iMb⟩⟩) from hz)
  clear hd hz
  dsimp only [StLogRecord.val, StPageRecord.val, BS.v, FR.v]
  have HFX0 := (show Hid (∀ b, FootL (StLogRecord.rows ⟨X0kind, X0txn, X0prev, X0page, X0slot, ⟨X0bU, ⟨X0bDe, X0bDa, X0bDc, X0bDb⟩⟩, ⟨X0aU, ⟨X0aDe, X0aDa, X0aDc, X0aDb⟩⟩, X0uN, X0nT, ⟨X0tXe, X0tXa, X0tXn, X0tXc, X0tXb⟩, ⟨X0dYe, X0dYa, X0dYn, X0dYc, X0dYb⟩, ⟨X0iMe, X0iMa, X0iMc, X0iMb⟩⟩) b → w3.heap.size ≤ b ∧ b < w4.heap.size) from fun b hb => ⟨hf b hb, ho.lt b hb⟩)
  have HX0w4 := (show Hid (OwnL w4 (StLogRecord.rows ⟨X0kind, X0txn, X0prev, X0page, X0slot, ⟨X0bU, ⟨X0bDe, X0bDa, X0bDc, X0bDb⟩⟩, ⟨X0aU, ⟨X0aDe, X0aDa, X0aDc, X0aDb⟩⟩, X0uN, X0nT, ⟨X0tXe, X0tXa, X0tXn, X0tXc, X0tXb⟩, ⟨X0dYe, X0dYa, X0dYn, X0dYc, X0dYb⟩, ⟨X0iMe, X0iMa, X0iMc, X0iMb⟩⟩)) from ho)
  clear hf ho
  have hkk : Same w3 w4 := hk
  have hzw4 := hkk.size
  have HA0w4 := hid (HA0w3.out.same hkk)
  have HWw4 := (show Hid (Own 0 5 .u8 w4 (.slice aW r0.length cW) r0) from HWw3.out.same hkk)
  have HKw4 := (show Hid (Same w w4) from HKw3.out.trans hkk)
  clear hkk hk
  clear cA0_0 cA0_1 cA0_2 cA0_3 cA0_4 cA0_5 cA0_6 cA0_7 cA0_8 cA0_9 cA0_10 cA0_11 cA0_12 cA0_13 lA0
  obtain ⟨cA0_0, cA0_1, cA0_2, cA0_3, cA0_4, cA0_5, cA0_6, cA0_7, cA0_8, cA0_9, cA0_10, cA0_11, cA0_12, cA0_13⟩ := HA0w4.out.all14
  have lA0 := HA0w4.out.lt
  go_wp2_with fail
  refine (implEnc_any ⟨X0kind, X0txn, X0prev, X0page, X0slot, ⟨X0bU, ⟨X0bDe, X0bDa, X0bDc, X0bDb⟩⟩, ⟨X0aU, ⟨X0aDe, X0aDa, X0aDc, X0aDb⟩⟩, X0uN, X0nT, ⟨X0tXe, X0tXa, X0tXn, X0tXc, X0tXb⟩, ⟨X0dYe, X0dYa, X0dYn, X0dYc, X0dYb⟩, ⟨X0iMe, X0iMa, X0iMc, X0iMb⟩⟩ _ (StLogRecord.isB_dat HCX0.out HB0.out) (by have := HZX0.out; omega) (StLogRecord.own_rd (HX0w4.out.same ((Kept.refl _ _).alloc _)))).mono ?_
  rintro e w5 ⟨aG, cG, rfl, hf, ho, hk⟩
  rw [HCX0.out] at hf ho ⊢
  rw [HR.out] at hf ho ⊢
  simp only [World.size_alloc] at hf
  have HFG := (show Hid (∀ b, (Value.slice aG r0.length cG).ownBlock = some b → w4.heap.size < b ∧ b < w5.heap.size) from fun b hb => ⟨by have := hf b hb; omega, (ho.lt b hb).2⟩)
  have HGw5 := (show Hid (Own 0 5 .u8 w5 (.slice aG r0.length cG) r0) from ho)
  clear hf ho
  have hkk : Same w4 w5 := ((Kept.refl _ _).alloc _).trans hk
  have hzw5 := hk.size
  rw [World.size_alloc] at hzw5
  have HA0w5 := hid (HA0w4.out.same hkk)
  have HWw5 := (show Hid (Own 0 5 .u8 w5 (.slice aW r0.length cW) r0) from HWw4.out.same hkk)
  have HX0w5 := hid (HX0w4.out.same hkk)
  have HT0w5 := (show Hid (Blk w5 (w4.heap.size) 35 [.int .i64 X0kind, .int .i64 X0txn, .int .i64 X0prev, .int .i64 X0page, .int .i64 X0slot, .bool X0bU, .slice X0bDa X0bDb.length X0bDc, .bool X0aU, .slice X0aDa X0aDb.length X0aDc, .int .i64 X0uN, .int .i64 X0nT, .slice X0tXa X0tXn X0tXc, .slice X0dYa X0dYn X0dYc, .slice X0iMa X0iMb.length X0iMc]) from (Blk.new w4 #[.int .i64 X0kind, .int .i64 X0txn, .int .i64 X0prev, .int .i64 X0page, .int .i64 X0slot, .bool X0bU, .slice X0bDa X0bDb.length X0bDc, .bool X0aU, .slice X0aDa X0aDb.length X0aDc, .int .i64 X0uN, .int .i64 X0nT, .slice X0tXa X0tXn X0tXc, .slice X0dYa X0dYn X0dYc, .slice X0iMa X0iMb.length X0iMc] 35).same hk)
  have HKw5 := (show Hid (Same w w5) from HKw4.out.trans hkk)
  clear hkk hk
  clear cA0_0 cA0_1 cA0_2 cA0_3 cA0_4 cA0_5 cA0_6 cA0_7 cA0_8 cA0_9 cA0_10 cA0_11 cA0_12 cA0_13 lA0
  obtain ⟨cA0_0, cA0_1, cA0_2, cA0_3, cA0_4, cA0_5, cA0_6, cA0_7, cA0_8, cA0_9, cA0_10, cA0_11, cA0_12, cA0_13⟩ := HA0w5.out.all14
  have lA0 := HA0w5.out.lt
  obtain ⟨cT0_0, cT0_1, cT0_2, cT0_3, cT0_4, cT0_5, cT0_6, cT0_7, cT0_8, cT0_9, cT0_10, cT0_11, cT0_12, cT0_13⟩ := HT0w5.out.all14
  have lT0 := HT0w5.out.lt
  go_wp2_with fail
  refine (eqByteS_own 0 _ _ r0 _ (by omega) HGw5.out HWw5.out).mono ?_
  rintro e w6 ⟨rfl, nn, hww⟩
  have hk : Same w5 w6 := by rw [hww]; exact (Kept.refl _ _).drewN _
  clear hww
  have hkk : Same w5 w6 := hk
  have hzw6 := hkk.size
  have HA0w6 := hid (HA0w5.out.same hkk)
  have HWw6 := (show Hid (Own 0 5 .u8 w6 (.slice aW r0.length cW) r0) from HWw5.out.same hkk)
  have HX0w6 := hid (HX0w5.out.same hkk)
  have HT0w6 := hid (HT0w5.out.same hkk)
  have HGw6 := (show Hid (Own 0 5 .u8 w6 (.slice aG r0.length cG) r0) from HGw5.out.same hkk)
  have HKw6 := (show Hid (Same w w6) from HKw5.out.trans hkk)
  clear hkk hk
  clear cA0_0 cA0_1 cA0_2 cA0_3 cA0_4 cA0_5 cA0_6 cA0_7 cA0_8 cA0_9 cA0_10 cA0_11 cA0_12 cA0_13 lA0 cT0_0 cT0_1 cT0_2 cT0_3 cT0_4 cT0_5 cT0_6 cT0_7 cT0_8 cT0_9 cT0_10 cT0_11 cT0_12 cT0_13 lT0
  obtain ⟨cA0_0, cA0_1, cA0_2, cA0_3, cA0_4, cA0_5, cA0_6, cA0_7, cA0_8, cA0_9, cA0_10, cA0_11, cA0_12, cA0_13⟩ := HA0w6.out.all14
  have lA0 := HA0w6.out.lt
  obtain ⟨cT0_0, cT0_1, cT0_2, cT0_3, cT0_4, cT0_5, cT0_6, cT0_7, cT0_8, cT0_9, cT0_10, cT0_11, cT0_12, cT0_13⟩ := HT0w6.out.all14
  have lT0 := HT0w6.out.lt
  go_wp2_with fail
  go_cut [31] (fun v wc => v = .bool false ∧ Hid (Same w6 wc))
  case first =>
    have HD1 : Hid (Same w w6.drew) := HKw6.out.drew
    have HD2 : Hid (Same w6 w6.drew) := (Kept.refl _ _).drew
    go_region_with (first | (go_at_call 9; refine (toLogRecord_any ⟨p0kind, p0txn, p0prev, p0page, p0slot, ⟨p0bU, ⟨p0bDe, p0bDa, p0bDc, p0bDb⟩⟩, ⟨p0aU, ⟨p0aDe, p0aDa, p0aDc, p0aDb⟩⟩, p0uN, p0nT, ⟨p0tXe, p0tXa, p0tXn, p0tXc, p0tXb⟩, ⟨p0dYe, p0dYa, p0dYn, p0dYc, p0dYb⟩, ⟨p0iMe, p0iMa, p0iMc, p0iMb⟩⟩ _ (by omega) (by exact HV0.out.same HD1.out)).mono ?_; rintro e wx7 ⟨⟨zkind, ztxn, zprev, zpage, zslot, ⟨zbU, ⟨zbDe, zbDa, zbDc, zbDb⟩⟩, ⟨zaU, ⟨zaDe, zaDa, zaDc, zaDb⟩⟩, zuN, znT, ⟨ztXe, ztXa, ztXn, ztXc, ztXb⟩, ⟨zdYe, zdYa, zdYn, zdYc, zdYb⟩, ⟨ziMe, ziMa, ziMc, ziMb⟩⟩, rfl, hd7, _, hf7, ho7, hk7⟩; have HO7 := (show Hid (OwnL wx7 (StLogRecord.rows ⟨zkind, ztxn, zprev, zpage, zslot, ⟨zbU, ⟨zbDe, zbDa, zbDc, zbDb⟩⟩, ⟨zaU, ⟨zaDe, zaDa, zaDc, zaDb⟩⟩, zuN, znT, ⟨ztXe, ztXa, ztXn, ztXc, ztXb⟩, ⟨zdYe, zdYa, zdYn, zdYc, zdYb⟩, ⟨ziMe, ziMa, ziMc, ziMb⟩⟩)) from ho7); have HQ7 := (show Hid (StLogRecord.dat ⟨zkind, ztxn, zprev, zpage, zslot, ⟨zbU, ⟨zbDe, zbDa, zbDc, zbDb⟩⟩, ⟨zaU, ⟨zaDe, zaDa, zaDc, zaDb⟩⟩, zuN, znT, ⟨ztXe, ztXa, ztXn, ztXc, ztXb⟩, ⟨zdYe, zdYa, zdYn, zdYc, zdYb⟩, ⟨ziMe, ziMa, ziMc, ziMb⟩⟩ = StLogRecord.dat ⟨p0kind, p0txn, p0prev, p0page, p0slot, ⟨p0bU, ⟨p0bDe, p0bDa, p0bDc, p0bDb⟩⟩, ⟨p0aU, ⟨p0aDe, p0aDa, p0aDc, p0aDb⟩⟩, p0uN, p0nT, ⟨p0tXe, p0tXa, p0tXn, p0tXc, p0tXb⟩, ⟨p0dYe, p0dYa, p0dYn, p0dYc, p0dYb⟩, ⟨p0iMe, p0iMa, p0iMc, p0iMb⟩⟩) from hd7); have HK7 : Hid (Same w6 wx7) := HD2.out.trans hk7; clear ho7 hd7 hf7 hk7; dsimp only [StLogRecord.val, StPageRecord.val, BS.v, FR.v]; have y0 : wx7.cell? ⟨w4.heap.size, 0, none⟩ = some (.int .i64 X0kind) := (HT0w6.out.same HK7.out).cell 0; have y1 : wx7.cell? ⟨w4.heap.size, 1, none⟩ = some (.int .i64 X0txn) := (HT0w6.out.same HK7.out).cell 1; have y2 : wx7.cell? ⟨w4.heap.size, 2, none⟩ = some (.int .i64 X0prev) := (HT0w6.out.same HK7.out).cell 2; have y3 : wx7.cell? ⟨w4.heap.size, 3, none⟩ = some (.int .i64 X0page) := (HT0w6.out.same HK7.out).cell 3; have y4 : wx7.cell? ⟨w4.heap.size, 4, none⟩ = some (.int .i64 X0slot) := (HT0w6.out.same HK7.out).cell 4; have y5 : wx7.cell? ⟨w4.heap.size, 5, none⟩ = some (.bool X0bU) := (HT0w6.out.same HK7.out).cell 5; have y6 : wx7.cell? ⟨w4.heap.size, 6, none⟩ = some (.slice X0bDa X0bDb.length X0bDc) := (HT0w6.out.same HK7.out).cell 6; have y7 : wx7.cell? ⟨w4.heap.size, 7, none⟩ = some (.bool X0aU) := (HT0w6.out.same HK7.out).cell 7; have y8 : wx7.cell? ⟨w4.heap.size, 8, none⟩ = some (.slice X0aDa X0aDb.length X0aDc) := (HT0w6.out.same HK7.out).cell 8; have y9 : wx7.cell? ⟨w4.heap.size, 9, none⟩ = some (.int .i64 X0uN) := (HT0w6.out.same HK7.out).cell 9; have y10 : wx7.cell? ⟨w4.heap.size, 10, none⟩ = some (.int .i64 X0nT) := (HT0w6.out.same HK7.out).cell 10; have y11 : wx7.cell? ⟨w4.heap.size, 11, none⟩ = some (.slice X0tXa X0tXn X0tXc) := (HT0w6.out.same HK7.out).cell 11; have y12 : wx7.cell? ⟨w4.heap.size, 12, none⟩ = some (.slice X0dYa X0dYn X0dYc) := (HT0w6.out.same HK7.out).cell 12; have y13 : wx7.cell? ⟨w4.heap.size, 13, none⟩ = some (.slice X0iMa X0iMb.length X0iMc) := (HT0w6.out.same HK7.out).cell 13) | (go_at_call 11; refine (eqLogRecord_own ⟨X0kind, X0txn, X0prev, X0page, X0slot, ⟨X0bU, ⟨X0bDe, X0bDa, X0bDc, X0bDb⟩⟩, ⟨X0aU, ⟨X0aDe, X0aDa, X0aDc, X0aDb⟩⟩, X0uN, X0nT, ⟨X0tXe, X0tXa, X0tXn, X0tXc, X0tXb⟩, ⟨X0dYe, X0dYa, X0dYn, X0dYc, X0dYb⟩, ⟨X0iMe, X0iMa, X0iMc, X0iMb⟩⟩ ⟨zkind, ztxn, zprev, zpage, zslot, ⟨zbU, ⟨zbDe, zbDa, zbDc, zbDb⟩⟩, ⟨zaU, ⟨zaDe, zaDa, zaDc, zaDb⟩⟩, zuN, znT, ⟨ztXe, ztXa, ztXn, ztXc, ztXb⟩, ⟨zdYe, zdYa, zdYn, zdYc, zdYb⟩, ⟨ziMe, ziMa, ziMc, ziMb⟩⟩ _ (by have h1 := StLogRecord.size_rd (StLogRecord.own_rd HX0w6.out); have h2 := HZX0.out; omega) (HCX0.out.trans HQ7.out.symm) (HX0w6.out.same HK7.out) HO7.out).mono ?_; rintro e wx8 ⟨rfl, hk8⟩))
    all_goals
      have HK8 : Hid (Same w6 wx8) := HK7.out.trans hk8
      clear hk8
      go_wp2_with fail
      go_meet
      case rel => exact ⟨rfl, HK8⟩
  case rest =>
  obtain ⟨rfl, HKC⟩ := hcut
  obtain ⟨w7, hwc⟩ : ∃ x, x = wc := ⟨_, rfl⟩
  subst hwc
  clear cA0_0 cA0_1 cA0_2 cA0_3 cA0_4 cA0_5 cA0_6 cA0_7 cA0_8 cA0_9 cA0_10 cA0_11 cA0_12 cA0_13 lA0 cT0_0 cT0_1 cT0_2 cT0_3 cT0_4 cT0_5 cT0_6 cT0_7 cT0_8 cT0_9 cT0_10 cT0_11 cT0_12 cT0_13 lT0
  have hkk : Same w6 w7 := HKC.out
  have hzw7 := hkk.size
  have HA0w7 := hid (HA0w6.out.same hkk)
  have HWw7 := (show Hid (Own 0 5 .u8 w7 (.slice aW r0.length cW) r0) from HWw6.out.same hkk)
  have HX0w7 := hid (HX0w6.out.same hkk)
  have HT0w7 := hid (HT0w6.out.same hkk)
  have HGw7 := (show Hid (Own 0 5 .u8 w7 (.slice aG r0.length cG) r0) from HGw6.out.same hkk)
  have HKw7 := (show Hid (Same w w7) from HKw6.out.trans hkk)
  clear hkk
  have hE0 : (0 : Int) ≤ 1 := by omega
  have hE0b : (1 : Int) ≤ 1 := by omega
  have hxz0 := StLogRecord.size_rd (StLogRecord.own_rd HX0w7.out)
  have hxy0 := HZX0.out
  have hxx0 := StLogRecord.size_le ⟨X0kind, X0txn, X0prev, X0page, X0slot, ⟨X0bU, ⟨X0bDe, X0bDa, X0bDc, X0bDb⟩⟩, ⟨X0aU, ⟨X0aDe, X0aDa, X0aDc, X0aDb⟩⟩, X0uN, X0nT, ⟨X0tXe, X0tXa, X0tXn, X0tXc, X0tXb⟩, ⟨X0dYe, X0dYa, X0dYn, X0dYc, X0dYb⟩, ⟨X0iMe, X0iMa, X0iMc, X0iMb⟩⟩
  obtain ⟨E1, hE⟩ : ∃ E, 1 + StLogRecord.size ⟨X0kind, X0txn, X0prev, X0page, X0slot, ⟨X0bU, ⟨X0bDe, X0bDa, X0bDc, X0bDb⟩⟩, ⟨X0aU, ⟨X0aDe, X0aDa, X0aDc, X0aDb⟩⟩, X0uN, X0nT, ⟨X0tXe, X0tXa, X0tXn, X0tXc, X0tXb⟩, ⟨X0dYe, X0dYa, X0dYn, X0dYc, X0dYb⟩, ⟨X0iMe, X0iMa, X0iMc, X0iMb⟩⟩ = E := ⟨_, rfl⟩
  have hE1 : 0 ≤ E1 := by omega
  have hE1b : E1 ≤ 5000001 := by omega
  have HE1 := (show Hid (1 + StLogRecord.size ⟨X0kind, X0txn, X0prev, X0page, X0slot, ⟨X0bU, ⟨X0bDe, X0bDa, X0bDc, X0bDb⟩⟩, ⟨X0aU, ⟨X0aDe, X0aDa, X0aDc, X0aDb⟩⟩, X0uN, X0nT, ⟨X0tXe, X0tXa, X0tXn, X0tXc, X0tXb⟩, ⟨X0dYe, X0dYa, X0dYn, X0dYc, X0dYb⟩, ⟨X0iMe, X0iMa, X0iMc, X0iMb⟩⟩ = E1) from hE)
  clear hE hxz0 hxy0 hxx0
  obtain ⟨cA0_0, cA0_1, cA0_2, cA0_3, cA0_4, cA0_5, cA0_6, cA0_7, cA0_8, cA0_9, cA0_10, cA0_11, cA0_12, cA0_13⟩ := HA0w7.out.all14
  have lA0 := HA0w7.out.lt
  obtain ⟨cT0_0, cT0_1, cT0_2, cT0_3, cT0_4, cT0_5, cT0_6, cT0_7, cT0_8, cT0_9, cT0_10, cT0_11, cT0_12, cT0_13⟩ := HT0w7.out.all14
  have lT0 := HT0w7.out.lt
  go_wp2_with fail
  have hm := markLogRecord_own ⟨X0kind, X0txn, X0prev, X0page, X0slot, ⟨X0bU, ⟨X0bDe, X0bDa, X0bDc, X0bDb⟩⟩, ⟨X0aU, ⟨X0aDe, X0aDa, X0aDc, X0aDb⟩⟩, X0uN, X0nT, ⟨X0tXe, X0tXa, X0tXn, X0tXc, X0tXb⟩, ⟨X0dYe, X0dYa, X0dYn, X0dYc, X0dYb⟩, ⟨X0iMe, X0iMa, X0iMc, X0iMb⟩⟩ 1 w7 (by omega) (by rw [HE1.out]; omega) HX0w7.out
  rw [HE1.out] at hm
  dsimp only [StLogRecord.val, StPageRecord.val, BS.v, FR.v] at hm
  refine hm.mono ?_
  clear hm
  rintro e w8 ⟨rfl, _, hk⟩
  have hzw8 := hk.size
  have HA0w8 := (show Hid (Blk w8 (w.heap.size) 28 [.int .i64 p0kind, .int .i64 p0txn, .int .i64 p0prev, .int .i64 p0page, .int .i64 p0slot, .bool p0bU, .slice p0bDa p0bDb.length p0bDc, .bool p0aU, .slice p0aDa p0aDb.length p0aDc, .int .i64 p0uN, .int .i64 p0nT, .slice p0tXa p0tXn p0tXc, .slice p0dYa p0dYn p0dYc, .slice p0iMa p0iMb.length p0iMc]) from HA0w7.out.kept hk (fun e => by have h1 := HFX0.out _ e; omega))
  have HWw8 := (show Hid (Own 0 5 .u8 w8 (.slice aW r0.length cW) r0) from HWw7.out.kept hk (fun b hb e => by have h1 := HFX0.out _ e; have h2 := HFW.out b hb; omega))
  have HT0w8 := (show Hid (Blk w8 (w4.heap.size) 35 [.int .i64 X0kind, .int .i64 X0txn, .int .i64 X0prev, .int .i64 X0page, .int .i64 X0slot, .bool X0bU, .slice X0bDa X0bDb.length X0bDc, .bool X0aU, .slice X0aDa X0aDb.length X0aDc, .int .i64 X0uN, .int .i64 X0nT, .slice X0tXa X0tXn X0tXc, .slice X0dYa X0dYn X0dYc, .slice X0iMa X0iMb.length X0iMc]) from HT0w7.out.kept hk (fun e => by have h1 := HFX0.out _ e; omega))
  have HGw8 := (show Hid (Own 0 5 .u8 w8 (.slice aG r0.length cG) r0) from HGw7.out.kept hk (fun b hb e => by have h1 := HFX0.out _ e; have h2 := HFG.out b hb; omega))
  have HKw8 := (show Hid (Same w w8) from HKw7.out.next hk (fun b hb e => by have h1 := HFX0.out _ e; omega))
  clear cA0_0 cA0_1 cA0_2 cA0_3 cA0_4 cA0_5 cA0_6 cA0_7 cA0_8 cA0_9 cA0_10 cA0_11 cA0_12 cA0_13 lA0 cT0_0 cT0_1 cT0_2 cT0_3 cT0_4 cT0_5 cT0_6 cT0_7 cT0_8 cT0_9 cT0_10 cT0_11 cT0_12 cT0_13 lT0
  clear hk
  have hEn : ¬ E1 < 0 := by omega
  obtain ⟨cA0_0, cA0_1, cA0_2, cA0_3, cA0_4, cA0_5, cA0_6, cA0_7, cA0_8, cA0_9, cA0_10, cA0_11, cA0_12, cA0_13⟩ := HA0w8.out.all14
  have lA0 := HA0w8.out.lt
  go_wp2_with fail
  refine (eqByteS_own 0 _ _ r0 _ (by omega) HGw8.out HWw8.out).mono ?_
  rintro e w9 ⟨rfl, nn, hww⟩
  have hk : Same w8 w9 := by rw [hww]; exact (Kept.refl _ _).drewN _
  clear hww
  have hkk : Same w8 w9 := hk
  have hzw9 := hkk.size
  have HA0w9 := hid (HA0w8.out.same hkk)
  have HWw9 := (show Hid (Own 0 5 .u8 w9 (.slice aW r0.length cW) r0) from HWw8.out.same hkk)
  have HGw9 := (show Hid (Own 0 5 .u8 w9 (.slice aG r0.length cG) r0) from HGw8.out.same hkk)
  have HKw9 := (show Hid (Same w w9) from HKw8.out.trans hkk)
  clear hkk hk
  clear cA0_0 cA0_1 cA0_2 cA0_3 cA0_4 cA0_5 cA0_6 cA0_7 cA0_8 cA0_9 cA0_10 cA0_11 cA0_12 cA0_13 lA0
  have hM2 : ¬ (1 + (r0.length : Int)) < 0 := by omega
  obtain ⟨cA0_0, cA0_1, cA0_2, cA0_3, cA0_4, cA0_5, cA0_6, cA0_7, cA0_8, cA0_9, cA0_10, cA0_11, cA0_12, cA0_13⟩ := HA0w9.out.all14
  have lA0 := HA0w9.out.lt
  go_wp2_with fail
  refine (markByteS_own 0 _ r0 1 _ (by omega) (by omega) (by omega) HGw9.out).mono ?_
  rintro e w10 ⟨rfl, ho, hk⟩
  have hzw10 := hk.size
  have HA0w10 := (show Hid (Blk w10 (w.heap.size) 28 [.int .i64 p0kind, .int .i64 p0txn, .int .i64 p0prev, .int .i64 p0page, .int .i64 p0slot, .bool p0bU, .slice p0bDa p0bDb.length p0bDc, .bool p0aU, .slice p0aDa p0aDb.length p0aDc, .int .i64 p0uN, .int .i64 p0nT, .slice p0tXa p0tXn p0tXc, .slice p0dYa p0dYn p0dYc, .slice p0iMa p0iMb.length p0iMc]) from HA0w9.out.kept hk (fun e => by have h1 := HFG.out _ e; omega))
  have HWw10 := (show Hid (Own 0 5 .u8 w10 (.slice aW r0.length cW) r0) from HWw9.out.kept hk (fun b hb e => by have h1 := HFG.out _ e; have h2 := HFW.out b hb; omega))
  have HKw10 := (show Hid (Same w w10) from HKw9.out.next hk (fun b hb e => by have h1 := HFG.out _ e; omega))
  have HUw10 := (show Hid (Own 0 5 .u8 w10 (.slice aG r0.length cG) (marks 1 r0.length)) from ho)
  clear cA0_0 cA0_1 cA0_2 cA0_3 cA0_4 cA0_5 cA0_6 cA0_7 cA0_8 cA0_9 cA0_10 cA0_11 cA0_12 cA0_13 lA0
  clear hk ho
  obtain ⟨cA0_0, cA0_1, cA0_2, cA0_3, cA0_4, cA0_5, cA0_6, cA0_7, cA0_8, cA0_9, cA0_10, cA0_11, cA0_12, cA0_13⟩ := HA0w10.out.all14
  have lA0 := HA0w10.out.lt
  go_wp2_with fail
  refine (heldByteS_own 0 _ r0.length 1 _ (by omega) (by omega) (by omega) HUw10.out).mono ?_
  rintro e w11 ⟨rfl, hww⟩
  have hk : Same w10 w11 := by rw [hww]; exact Kept.refl _ _
  clear hww
  have hkk : Same w10 w11 := hk
  have hzw11 := hkk.size
  have HA0w11 := hid (HA0w10.out.same hkk)
  have HWw11 := (show Hid (Own 0 5 .u8 w11 (.slice aW r0.length cW) r0) from HWw10.out.same hkk)
  have HUw11 := hid (HUw10.out.same hkk)
  have HKw11 := (show Hid (Same w w11) from HKw10.out.trans hkk)
  clear hkk hk
  clear cA0_0 cA0_1 cA0_2 cA0_3 cA0_4 cA0_5 cA0_6 cA0_7 cA0_8 cA0_9 cA0_10 cA0_11 cA0_12 cA0_13 lA0
  obtain ⟨cA0_0, cA0_1, cA0_2, cA0_3, cA0_4, cA0_5, cA0_6, cA0_7, cA0_8, cA0_9, cA0_10, cA0_11, cA0_12, cA0_13⟩ := HA0w11.out.all14
  have lA0 := HA0w11.out.lt
  go_wp2_with fail
  refine (toLogRecord_any ⟨p0kind, p0txn, p0prev, p0page, p0slot, ⟨p0bU, ⟨p0bDe, p0bDa, p0bDc, p0bDb⟩⟩, ⟨p0aU, ⟨p0aDe, p0aDa, p0aDc, p0aDb⟩⟩, p0uN, p0nT, ⟨p0tXe, p0tXa, p0tXn, p0tXc, p0tXb⟩, ⟨p0dYe, p0dYa, p0dYn, p0dYc, p0dYb⟩, ⟨p0iMe, p0iMa, p0iMc, p0iMb⟩⟩ _ (by omega) (HV0.out.same HKw11.out)).mono ?_
  rintro e w12 ⟨⟨J0kind, J0txn, J0prev, J0page, J0slot, ⟨J0bU, ⟨J0bDe, J0bDa, J0bDc, J0bDb⟩⟩, ⟨J0aU, ⟨J0aDe, J0aDa, J0aDc, J0aDb⟩⟩, J0uN, J0nT, ⟨J0tXe, J0tXa, J0tXn, J0tXc, J0tXb⟩, ⟨J0dYe, J0dYa, J0dYn, J0dYc, J0dYb⟩, ⟨J0iMe, J0iMa, J0iMc, J0iMb⟩⟩, rfl, hd, hz, hf, ho, hk⟩
  have HCJ0 := (show Hid (StLogRecord.dat ⟨J0kind, J0txn, J0prev, J0page, J0slot, ⟨J0bU, ⟨J0bDe, J0bDa, J0bDc, J0bDb⟩⟩, ⟨J0aU, ⟨J0aDe, J0aDa, J0aDc, J0aDb⟩⟩, J0uN, J0nT, ⟨J0tXe, J0tXa, J0tXn, J0tXc, J0tXb⟩, ⟨J0dYe, J0dYa, J0dYn, J0dYc, J0dYb⟩, ⟨J0iMe, J0iMa, J0iMc, J0iMb⟩⟩ = StLogRecord.dat ⟨p0kind, p0txn, p0prev, p0page, p0slot, ⟨p0bU, ⟨p0bDe, p0bDa, p0bDc, p0bDb⟩⟩, ⟨p0aU, ⟨p0aDe, p0aDa, p0aDc, p0aDb⟩⟩, p0uN, p0nT, ⟨p0tXe, p0tXa, p0tXn, p0tXc, p0tXb⟩, ⟨p0dYe, p0dYa, p0dYn, p0dYc, p0dYb⟩, ⟨p0iMe, p0iMa, p0iMc, p0iMb⟩⟩) from hd)
  have HZJ0 := (show Hid (StLogRecord.szs ⟨J0kind, J0txn, J0prev, J0page, J0slot, ⟨J0bU, ⟨J0bDe, J0bDa, J0bDc, J0bDb⟩⟩, ⟨J0aU, ⟨J0aDe, J0aDa, J0aDc, J0aDb⟩⟩, J0uN, J0nT, ⟨J0tXe, J0tXa, J0tXn, J0tXc, J0tXb⟩, ⟨J0dYe, J0dYa, J0dYn, J0dYc, J0dYb⟩, ⟨J0iMe, J0iMa, J0iMc, J0iMb⟩⟩ = StLogRecord.szs ⟨p0kind, p0txn, p0prev, p0page, p0slot, ⟨p0bU, ⟨p0bDe, p0bDa, p0bDc, p0bDb⟩⟩, ⟨p0aU, ⟨p0aDe, p0aDa, p0aDc, p0aDb⟩⟩, p0uN, p0nT, ⟨p0tXe, p0tXa, p0tXn, p0tXc, p0tXb⟩, ⟨p0dYe, p0dYa, p0dYn, p0dYc, p0dYb⟩, ⟨p0iMe, p0iMa, p0iMc, p0iMb⟩⟩) from hz)
  clear hd hz
  dsimp only [StLogRecord.val, StPageRecord.val, BS.v, FR.v]
  have HFJ0 := (show Hid (∀ b, FootL (StLogRecord.rows ⟨J0kind, J0txn, J0prev, J0page, J0slot, ⟨J0bU, ⟨J0bDe, J0bDa, J0bDc, J0bDb⟩⟩, ⟨J0aU, ⟨J0aDe, J0aDa, J0aDc, J0aDb⟩⟩, J0uN, J0nT, ⟨J0tXe, J0tXa, J0tXn, J0tXc, J0tXb⟩, ⟨J0dYe, J0dYa, J0dYn, J0dYc, J0dYb⟩, ⟨J0iMe, J0iMa, J0iMc, J0iMb⟩⟩) b → w11.heap.size ≤ b ∧ b < w12.heap.size) from fun b hb => ⟨hf b hb, ho.lt b hb⟩)
  have HJ0w12 := (show Hid (OwnL w12 (StLogRecord.rows ⟨J0kind, J0txn, J0prev, J0page, J0slot, ⟨J0bU, ⟨J0bDe, J0bDa, J0bDc, J0bDb⟩⟩, ⟨J0aU, ⟨J0aDe, J0aDa, J0aDc, J0aDb⟩⟩, J0uN, J0nT, ⟨J0tXe, J0tXa, J0tXn, J0tXc, J0tXb⟩, ⟨J0dYe, J0dYa, J0dYn, J0dYc, J0dYb⟩, ⟨J0iMe, J0iMa, J0iMc, J0iMb⟩⟩)) from ho)
  clear hf ho
  have hkk : Same w11 w12 := hk
  have hzw12 := hkk.size
  have HA0w12 := hid (HA0w11.out.same hkk)
  have HWw12 := (show Hid (Own 0 5 .u8 w12 (.slice aW r0.length cW) r0) from HWw11.out.same hkk)
  have HUw12 := hid (HUw11.out.same hkk)
  have HKw12 := (show Hid (Same w w12) from HKw11.out.trans hkk)
  clear hkk hk
  clear cA0_0 cA0_1 cA0_2 cA0_3 cA0_4 cA0_5 cA0_6 cA0_7 cA0_8 cA0_9 cA0_10 cA0_11 cA0_12 cA0_13 lA0
  obtain ⟨cA0_0, cA0_1, cA0_2, cA0_3, cA0_4, cA0_5, cA0_6, cA0_7, cA0_8, cA0_9, cA0_10, cA0_11, cA0_12, cA0_13⟩ := HA0w12.out.all14
  have lA0 := HA0w12.out.lt
  go_wp2_with fail
  refine (implEnc_any ⟨J0kind, J0txn, J0prev, J0page, J0slot, ⟨J0bU, ⟨J0bDe, J0bDa, J0bDc, J0bDb⟩⟩, ⟨J0aU, ⟨J0aDe, J0aDa, J0aDc, J0aDb⟩⟩, J0uN, J0nT, ⟨J0tXe, J0tXa, J0tXn, J0tXc, J0tXb⟩, ⟨J0dYe, J0dYa, J0dYn, J0dYc, J0dYb⟩, ⟨J0iMe, J0iMa, J0iMc, J0iMb⟩⟩ _ (StLogRecord.isB_dat HCJ0.out HB0.out) (by have := HZJ0.out; omega) (StLogRecord.own_rd HJ0w12.out)).mono ?_
  rintro e w13 ⟨aL, cL, rfl, hf, ho, hk⟩
  rw [HCJ0.out] at hf ho ⊢
  rw [HR.out] at hf ho ⊢
  have HFL := (show Hid (∀ b, (Value.slice aL r0.length cL).ownBlock = some b → w12.heap.size ≤ b ∧ b < w13.heap.size) from fun b hb => ⟨hf b hb, (ho.lt b hb).2⟩)
  have HLw13 := (show Hid (Own 0 5 .u8 w13 (.slice aL r0.length cL) r0) from ho)
  clear hf ho
  have hkk : Same w12 w13 := hk
  have hzw13 := hkk.size
  have HA0w13 := hid (HA0w12.out.same hkk)
  have HWw13 := (show Hid (Own 0 5 .u8 w13 (.slice aW r0.length cW) r0) from HWw12.out.same hkk)
  have HUw13 := hid (HUw12.out.same hkk)
  have HJ0w13 := hid (HJ0w12.out.same hkk)
  have HKw13 := (show Hid (Same w w13) from HKw12.out.trans hkk)
  clear hkk hk
  clear cA0_0 cA0_1 cA0_2 cA0_3 cA0_4 cA0_5 cA0_6 cA0_7 cA0_8 cA0_9 cA0_10 cA0_11 cA0_12 cA0_13 lA0
  obtain ⟨cA0_0, cA0_1, cA0_2, cA0_3, cA0_4, cA0_5, cA0_6, cA0_7, cA0_8, cA0_9, cA0_10, cA0_11, cA0_12, cA0_13⟩ := HA0w13.out.all14
  have lA0 := HA0w13.out.lt
  go_wp2_with fail
  refine (eqByteS_own 0 _ _ r0 _ (by omega) HLw13.out HWw13.out).mono ?_
  rintro e w14 ⟨rfl, nn, hww⟩
  have hk : Same w13 w14 := by rw [hww]; exact (Kept.refl _ _).drewN _
  clear hww
  have hkk : Same w13 w14 := hk
  have hzw14 := hkk.size
  have HA0w14 := hid (HA0w13.out.same hkk)
  have HWw14 := (show Hid (Own 0 5 .u8 w14 (.slice aW r0.length cW) r0) from HWw13.out.same hkk)
  have HUw14 := hid (HUw13.out.same hkk)
  have HLw14 := (show Hid (Own 0 5 .u8 w14 (.slice aL r0.length cL) r0) from HLw13.out.same hkk)
  have HKw14 := (show Hid (Same w w14) from HKw13.out.trans hkk)
  clear hkk hk
  clear cA0_0 cA0_1 cA0_2 cA0_3 cA0_4 cA0_5 cA0_6 cA0_7 cA0_8 cA0_9 cA0_10 cA0_11 cA0_12 cA0_13 lA0
  obtain ⟨cA0_0, cA0_1, cA0_2, cA0_3, cA0_4, cA0_5, cA0_6, cA0_7, cA0_8, cA0_9, cA0_10, cA0_11, cA0_12, cA0_13⟩ := HA0w14.out.all14
  have lA0 := HA0w14.out.lt
  go_wp2_with fail
  refine (heldByteS_own 0 _ r0.length 1 _ (by omega) (by omega) (by omega) HUw14.out).mono ?_
  rintro e w15 ⟨rfl, hww⟩
  have hk : Same w14 w15 := by rw [hww]; exact Kept.refl _ _
  clear hww
  have hkk : Same w14 w15 := hk
  have hzw15 := hkk.size
  have HA0w15 := hid (HA0w14.out.same hkk)
  have HUw15 := hid (HUw14.out.same hkk)
  have HKw15 := (show Hid (Same w w15) from HKw14.out.trans hkk)
  clear hkk hk
  clear cA0_0 cA0_1 cA0_2 cA0_3 cA0_4 cA0_5 cA0_6 cA0_7 cA0_8 cA0_9 cA0_10 cA0_11 cA0_12 cA0_13 lA0
  go_wp2
  go_ret
  exact ⟨rfl, HKw15.out⟩
end Go.Proofs.Ytdgmecmkkddpeaa

namespace Go.Proofs.Ytdgmecmkkddpeaa.fnExactEncodeRecord
open Go.ChangeShapes Go.WideShapes Go.ChangeAt Go.RowKit
set_option linter.unusedVariables false
theorem own : ownKnob Try.prog.godebug = none := by kernel_rfl
theorem laidOut : laidOutB Try.prog = true := by kernel_rfl
set_option maxRecDepth 100000 in
theorem lifted (os : Os) (started : os.Started) (H : Type) (enc : TypeId × Value → H) :
    ReturnsInHanded {} Try.checked os 4 .any (Rows.fnExactEncodeRecordSpec.pre6 enc Try.prog Try.f4 Rows.fnExactEncodeRecordRow.domain false) (Rows.fnExactEncodeRecordSpec.post enc Try.prog Try.f4 false true false false) := by
  refine returnsInHanded_of_change (C := Try.checked) own started (by kernel_rfl) Try.func4
    (ChangeSpec.witness6 (enc := enc) (C := Try.checked) false ⟨#[], #[.agg #[.int .i64 0, .int .i64 0, .int .i64 0, .int .i64 0, .int .i64 0, .bool false, .slice none 0 0, .bool false, .slice none 0 0, .int .i64 0, .int .i64 0, .slice none 0 0, .slice none 0 0, .slice none 0 0]], []⟩ 8 (by kernel_rfl) (by kernel_rfl) (by kernel_rfl) (by kernel_rfl)) ?_
  intro W base args ds gs before hval0 hW hcnd _
  have hval : ∀ (j : Nat) t v, Try.f4.params[j]? = some t → args[j]? = some v → Value.okWide Try.prog W .any base t v := hval0
  have hW' := hW
  obtain ⟨p, q, hA0, hV, rfl, hfz, hnd⟩ := hW
  have hA : DataW.TrodAll enc Try.prog W 0 (fun _ => true) true Try.f4.params.toList args.toList ds p := hA0
  rw [Try.params4] at hA hval
  obtain ⟨v0, vs0, d0, ds0, p0, q0, hargs, rfl, rfl, h0, r0⟩ := trodAll_cons hA
  obtain ⟨rfl, rfl, rfl⟩ := trodAll_nil r0
  obtain rfl : args = #[v0] := by cases args; simp_all
  obtain ⟨rfl, rfl⟩ := trodVars_none hV
  have k0 := h0
  have lt0 : ∀ x ∈ p0, x.block < W.heap.size := by obtain ⟨m, hm⟩ := k0; exact DataW.trod_lt m _ _ _ hm
  obtain ⟨x0, rfl, rd0, bd0⟩ := open_logRecord (hval 0 28 v0 rfl rfl) h0
  clear hA0 hval0
  refine (encodeRecord_law x0 W rd0 bd0).mono fun e W' ⟨he, hk⟩ => ?_
  have bel : Below W.heap.size W W' := hk.below (Nat.le_refl _) (fun _ _ => id)
  subst he
  exact ⟨_, rfl, _, _, _, [], _, [], hW', trodAll_mk1 (shut_bool Try.underlying4 _), (trodAll_cons_mk (Below.trod laidOut (by kernel_rfl) (of_decide_eq_true (by kernel_rfl)) k0 bel lt0) trodAll_mk0), rfl, bel.frame _, fun h => by cases h⟩
theorem over : Rows.fnExactEncodeRecordRow.holds Try.pinned (OpenSpec.ofChange Rows.fnExactEncodeRecordSpec) :=
  OpenClaim.holds_of_wide 4 Try.f4 rfl rfl rfl rfl rfl rfl rfl ⟨rfl, rfl, rfl, rfl, rfl⟩ rfl rfl rfl rfl rfl (by kernel_rfl) Try.func4 (by kernel_rfl)
    (of_decide_eq_true (by kernel_rfl)) (by unfold Func.isWrapper; first | (rw [if_pos (by decide +kernel)]; kernel_rfl) | (rw [if_neg (by decide +kernel)]; exact ⟨rfl, rfl⟩))
    (fun os started H enc _ => lifted os started H enc)
end Go.Proofs.Ytdgmecmkkddpeaa.fnExactEncodeRecord
namespace Go.Proofs.Ytdgmecmkkddpeaa
theorem encodeRecord_proved : Rows.FnExactEncodeRecordSaid := fnExactEncodeRecord.over
#print axioms encodeRecord_proved
end Go.Proofs.Ytdgmecmkkddpeaa
