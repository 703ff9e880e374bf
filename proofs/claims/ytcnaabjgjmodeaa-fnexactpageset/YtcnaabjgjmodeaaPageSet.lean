import Derived.Test.YtcnaabjgjmodeaaG11
import Derived.Deep.DeepCutAuto
import Derived.Deep.RegionWith
import Derived.Deep.DeepMust
namespace Go.Proofs.Ytcnaabjgjmodeaa
open Go.RowKit
set_option linter.unusedVariables false
set_option maxRecDepth 100000 in
set_option maxHeartbeats 16000000 in
theorem pageSet_law (v0 : Value) (bs0 : List Int) (s1 : Int) (x2 : StPageRecord) (s3 : Int) (w : World) (hv0 : Rd .u8 w v0 bs0) (hB0 : IsB bs0) (hv2 : StPageRecord.rd w x2) (hB2 : x2.isB) :
    Calls Try.prog 4 #[v0, .int .i64 s1, x2.val, .int .i64 s3] w fun e w' => e = .returned (.bool true) ∧ Same w w' := by
  obtain ⟨a0a, c0a, rfl⟩ := hv0.form
  have hm0 := hv0.1
  unfold maxLen at hm0
  have HB0 := (show Hid (IsB bs0) from hB0)
  clear hB0
  have HV0 := (show Hid (Rd .u8 w (.slice a0a bs0.length c0a) bs0) from hv0)
  clear hv0
  obtain ⟨p2used, ⟨p2data_e, p2data_a, p2data_c, p2data_b⟩⟩ := x2
  have HV2 := (show Hid (StPageRecord.rd w ⟨p2used, ⟨p2data_e, p2data_a, p2data_c, p2data_b⟩⟩) from hv2)
  clear hv2
  have HB2 := (show Hid (StPageRecord.isB ⟨p2used, ⟨p2data_e, p2data_a, p2data_c, p2data_b⟩⟩) from hB2)
  clear hB2
  dsimp only [StPageRecord.val, BS.v]
  go_enter Try.func4, Try.ntmps4
  have HKw : Hid (Same w w) := Kept.refl _ _
  by_cases hb0 : (1048576 : Int) < (bs0.length : Int)
  · go_wp2
    go_ret
    exact ⟨rfl, by first | exact Kept.refl _ _ | exact (Kept.refl _ _).alloc _ | exact ((Kept.refl _ _).alloc _).alloc _⟩
  go_wp2_with fail
  refine (szPageRecord_any ⟨p2used, ⟨p2data_e, p2data_a, p2data_c, p2data_b⟩⟩ _ _ (by omega) (by omega) (HV2.out.same ((Kept.refl _ _).alloc _))).mono ?_
  rintro e w1 ⟨sz2, rfl, hr, hk⟩
  have hkk : Same w w1 := ((Kept.refl _ _).alloc _).trans hk
  have hzw1 := hk.size
  rw [World.size_alloc] at hzw1
  have HA2w1 := (show Hid (Blk w1 (w.heap.size) 36 [.bool p2used, .slice p2data_a p2data_b.length p2data_c]) from (Blk.new w #[.bool p2used, .slice p2data_a p2data_b.length p2data_c] 36).same hk)
  have HKw1 := (show Hid (Same w w1) from HKw.out.trans hkk)
  clear hkk hk
  rcases hr with rfl | ⟨hr, hr0⟩
  · go_wp2
    go_ret
    exact ⟨rfl, HKw1.out⟩
  have hsz2 : StPageRecord.szs ⟨p2used, ⟨p2data_e, p2data_a, p2data_c, p2data_b⟩⟩ ≤ 1048576 := by omega
  clear hr
  have cA2_0 : w1.cell? ⟨w.heap.size, 0, none⟩ = some (.bool p2used) := HA2w1.out.cell 0
  have cA2_1 : w1.cell? ⟨w.heap.size, 1, none⟩ = some (.slice p2data_a p2data_b.length p2data_c) := HA2w1.out.cell 1
  have lA2 := HA2w1.out.lt
  go_wp2_with fail
  clear cA2_0 cA2_1 lA2
  go_cut [10] (fun v wc => Hid (PRes w1 wc (pageSetD bs0 s1 (StPageRecord.dat ⟨p2used, ⟨p2data_e, p2data_a, p2data_c, p2data_b⟩⟩) s3) v))
  case first =>
    refine wp_region_V (fun wx : World => wx.cell? ⟨w.heap.size, 0, none⟩ = some (.bool p2used) ∧ wx.cell? ⟨w.heap.size, 1, none⟩ = some (.slice p2data_a p2data_b.length p2data_c)) 8 9 rfl (by kernel_rfl) ?_
    have HQQw1 : Hid (SameP w1 w1) := Kept.refl _ _
    generalize hwd : World.drew w1 = w2
    have hk : Same w1 w2 := by rw [← hwd]; exact (Kept.refl _ _).drew
    clear hwd
    have hkk : Same w1 w2 := hk
    have hzw2 := hkk.size
    have HA2w2 := (show Hid (Blk w2 (w.heap.size) 36 [.bool p2used, .slice p2data_a p2data_b.length p2data_c]) from HA2w1.out.same hkk)
    have HQQw2 := (show Hid (SameP w1 w2) from HQQw1.out.same hkk)
    have HKw2 := (show Hid (Same w w2) from HKw1.out.trans hkk)
    clear hkk hk
    have hS : (fun wx : World => wx.cell? ⟨w.heap.size, 0, none⟩ = some (.bool p2used) ∧ wx.cell? ⟨w.heap.size, 1, none⟩ = some (.slice p2data_a p2data_b.length p2data_c)) w2 := ⟨HA2w2.out.cell 0, HA2w2.out.cell 1⟩
    refine tk 0 26 hS ?_
    refine tk 2 28 hS ?_
    refine tk 3 29 hS ?_
    refine tk 5 31 hS ?_
    refine wpAnyV_two (i := 1) (j := 7) (by kernel_rfl) rfl rfl (fun K hK => ?_) (fun K hK => ?_)
    ·
      go_simp
      refine (toByteS_any _ bs0 _ (by omega) (HV0.out.same HKw2.out)).mono ?_
      rintro e w3 ⟨gC0, rfl, hf, ho, hk⟩
      have hf : ∀ b, (Value.slice (some ⟨gC0, 0, none⟩) bs0.length bs0.length).ownBlock = some b → _ ≤ b := fun b hb => by rw [← (Option.some.inj hb : gC0 = b)]; exact hf
      have HFC0 := (show Hid (∀ b, (Value.slice (some ⟨gC0, 0, none⟩) bs0.length bs0.length).ownBlock = some b → w2.heap.size ≤ b ∧ b < w3.heap.size) from fun b hb => ⟨hf b hb, (ho.lt b hb).2⟩)
      have HC0w3 := (show Hid (Own 0 5 .u8 w3 (.slice (some ⟨gC0, 0, none⟩) bs0.length bs0.length) bs0) from ho)
      clear hf ho
      have hkk : Same w2 w3 := hk
      have hzw3 := hkk.size
      have HA2w3 := (show Hid (Blk w3 (w.heap.size) 36 [.bool p2used, .slice p2data_a p2data_b.length p2data_c]) from HA2w2.out.same hkk)
      have HQQw3 := (show Hid (SameP w1 w3) from HQQw2.out.same hkk)
      have HKw3 := (show Hid (Same w w3) from HKw2.out.trans hkk)
      clear hkk hk
      have hS : (fun wx : World => wx.cell? ⟨w.heap.size, 0, none⟩ = some (.bool p2used) ∧ wx.cell? ⟨w.heap.size, 1, none⟩ = some (.slice p2data_a p2data_b.length p2data_c)) w3 := ⟨HA2w3.out.cell 0, HA2w3.out.cell 1⟩
      refine hK.out _ _ (fun _ => hS) ?_
      clear hK K
      try simp only [Act.put, sA, s0, sS]
      refine wpAnyV_two (i := 4) (j := 7) (by kernel_rfl) rfl rfl (fun K hK => ?_) (fun K hK => ?_)
      ·
        go_simp
        refine (toPageRecord_any ⟨p2used, ⟨p2data_e, p2data_a, p2data_c, p2data_b⟩⟩ _ (by omega) (HV2.out.same HKw3.out)).mono ?_
        rintro e w4 ⟨⟨C2used, ⟨C2data_e, C2data_a, C2data_c, C2data_b⟩⟩, rfl, hd, hz, hf, ho, hk⟩
        have HCC2 := (show Hid (StPageRecord.dat ⟨C2used, ⟨C2data_e, C2data_a, C2data_c, C2data_b⟩⟩ = StPageRecord.dat ⟨p2used, ⟨p2data_e, p2data_a, p2data_c, p2data_b⟩⟩) from hd)
        have HZC2 := (show Hid (StPageRecord.szs ⟨C2used, ⟨C2data_e, C2data_a, C2data_c, C2data_b⟩⟩ = StPageRecord.szs ⟨p2used, ⟨p2data_e, p2data_a, p2data_c, p2data_b⟩⟩) from hz)
        clear hd hz
        dsimp only [StPageRecord.val, BS.v]
        have HFC2 := (show Hid (∀ b, FootL (StPageRecord.rows ⟨C2used, ⟨C2data_e, C2data_a, C2data_c, C2data_b⟩⟩) b → w3.heap.size ≤ b ∧ b < w4.heap.size) from fun b hb => ⟨hf b hb, ho.lt b hb⟩)
        have HC2w4 := (show Hid (OwnL w4 (StPageRecord.rows ⟨C2used, ⟨C2data_e, C2data_a, C2data_c, C2data_b⟩⟩)) from ho)
        clear hf ho
        have hkk : Same w3 w4 := hk
        have hzw4 := hkk.size
        have HA2w4 := (show Hid (Blk w4 (w.heap.size) 36 [.bool p2used, .slice p2data_a p2data_b.length p2data_c]) from HA2w3.out.same hkk)
        have HQQw4 := (show Hid (SameP w1 w4) from HQQw3.out.same hkk)
        have HC0w4 := (show Hid (Own 0 5 .u8 w4 (.slice (some ⟨gC0, 0, none⟩) bs0.length bs0.length) bs0) from HC0w3.out.same hkk)
        have HKw4 := (show Hid (Same w w4) from HKw3.out.trans hkk)
        clear hkk hk
        have hS : (fun wx : World => wx.cell? ⟨w.heap.size, 0, none⟩ = some (.bool p2used) ∧ wx.cell? ⟨w.heap.size, 1, none⟩ = some (.slice p2data_a p2data_b.length p2data_c)) w4 := ⟨HA2w4.out.cell 0, HA2w4.out.cell 1⟩
        refine hK.out _ _ (fun _ => hS) ?_
        clear hK K
        try simp only [Act.put, sA, s0, sS]
        refine wpAnyV_two (i := 6) (j := 7) (by kernel_rfl) rfl rfl (fun K hK => ?_) (fun K hK => ?_)
        ·
          go_simp
          refine (specSetL_any _ bs0 s1 ⟨C2used, ⟨C2data_e, C2data_a, C2data_c, C2data_b⟩⟩ s3 _ HB0.out (by omega) (HC0w4.out.rd) (StPageRecord.isB_dat HCC2.out HB2.out) (by have := HZC2.out; omega) (StPageRecord.own_rd HC2w4.out)).mono ?_
          rintro e w5 ⟨⟨Wcode, ⟨Wpage_e, Wpage_a, Wpage_c, Wpage_b⟩⟩, rfl, hd, hf, ho, hk⟩
          rw [HCC2.out] at hd
          have hnW : StPageResult.size ⟨Wcode, ⟨Wpage_e, Wpage_a, Wpage_c, Wpage_b⟩⟩ ≤ 1099511627776 := pageSetD_small HB0.out HB2.out hd
          have hnW0 := StPageResult.size_le ⟨Wcode, ⟨Wpage_e, Wpage_a, Wpage_c, Wpage_b⟩⟩
          have HDW := (show Hid (StPageResult.dat ⟨Wcode, ⟨Wpage_e, Wpage_a, Wpage_c, Wpage_b⟩⟩ = pageSetD bs0 s1 (StPageRecord.dat ⟨p2used, ⟨p2data_e, p2data_a, p2data_c, p2data_b⟩⟩) s3) from hd)
          dsimp only [StPageResult.val, BS.v]
          have HFW := (show Hid (∀ b, FootL (StPageResult.rows ⟨Wcode, ⟨Wpage_e, Wpage_a, Wpage_c, Wpage_b⟩⟩) b → w4.heap.size ≤ b ∧ b < w5.heap.size) from fun b hb => ⟨hf b hb, ho.lt b hb⟩)
          have HWw5 := (show Hid (OwnL w5 (StPageResult.rows ⟨Wcode, ⟨Wpage_e, Wpage_a, Wpage_c, Wpage_b⟩⟩)) from ho)
          clear hd hf ho
          have hkk : Same w4 w5 := hk
          have hzw5 := hkk.size
          have HA2w5 := (show Hid (Blk w5 (w.heap.size) 36 [.bool p2used, .slice p2data_a p2data_b.length p2data_c]) from HA2w4.out.same hkk)
          have HQQw5 := (show Hid (SameP w1 w5) from HQQw4.out.same hkk)
          have HC0w5 := (show Hid (Own 0 5 .u8 w5 (.slice (some ⟨gC0, 0, none⟩) bs0.length bs0.length) bs0) from HC0w4.out.same hkk)
          have HC2w5 := (show Hid (OwnL w5 (StPageRecord.rows ⟨C2used, ⟨C2data_e, C2data_a, C2data_c, C2data_b⟩⟩)) from HC2w4.out.same hkk)
          have HKw5 := (show Hid (Same w w5) from HKw4.out.trans hkk)
          clear hkk hk
          have hS : (fun wx : World => wx.cell? ⟨w.heap.size, 0, none⟩ = some (.bool p2used) ∧ wx.cell? ⟨w.heap.size, 1, none⟩ = some (.slice p2data_a p2data_b.length p2data_c)) w5 := ⟨HA2w5.out.cell 0, HA2w5.out.cell 1⟩
          refine hK.out _ _ (fun _ => hS) ?_
          clear hK K
          try simp only [Act.put, sA, s0, sS]
          refine wpAnyV_one (i := 7) (by kernel_rfl) rfl (fun K hK => ?_)
          go_simp
          generalize hwd : (w5.alloc (.cells #[.int .i64 0, .slice none 0 0] 28)) = w6
          have hk : Same (w5.alloc (.cells #[.int .i64 0, .slice none 0 0] 28)) w6 := by rw [← hwd]; exact Kept.refl _ _
          clear hwd
          have hkk : Same w5 w6 := ((Kept.refl _ _).alloc _).trans hk
          have hzw6 := hk.size
          rw [World.size_alloc] at hzw6
          have HA2w6 := (show Hid (Blk w6 (w.heap.size) 36 [.bool p2used, .slice p2data_a p2data_b.length p2data_c]) from HA2w5.out.same hkk)
          have HQQw6 := (show Hid (SameP w1 w6) from HQQw5.out.same hkk)
          have HC0w6 := (show Hid (Own 0 5 .u8 w6 (.slice (some ⟨gC0, 0, none⟩) bs0.length bs0.length) bs0) from HC0w5.out.same hkk)
          have HC2w6 := (show Hid (OwnL w6 (StPageRecord.rows ⟨C2used, ⟨C2data_e, C2data_a, C2data_c, C2data_b⟩⟩)) from HC2w5.out.same hkk)
          have HWw6 := (show Hid (OwnL w6 (StPageResult.rows ⟨Wcode, ⟨Wpage_e, Wpage_a, Wpage_c, Wpage_b⟩⟩)) from HWw5.out.same hkk)
          have HZw6 := (show Hid (Blk w6 (w5.heap.size) 28 [.int .i64 0, .slice none 0 0]) from (Blk.new w5 #[.int .i64 0, .slice none 0 0] 28).same hk)
          have HKw6 := (show Hid (Same w w6) from HKw5.out.trans hkk)
          clear hkk hk
          have hS : (fun wx : World => wx.cell? ⟨w.heap.size, 0, none⟩ = some (.bool p2used) ∧ wx.cell? ⟨w.heap.size, 1, none⟩ = some (.slice p2data_a p2data_b.length p2data_c)) w6 := ⟨HA2w6.out.cell 0, HA2w6.out.cell 1⟩
          refine hK.out _ _ (fun _ => hS) ?_
          clear hK K
          try simp only [Act.put, sA, s0, sS]
          obtain ⟨z0, z1⟩ := HZw6.out.all2
          have fz := HZw6.out.frozen
          refine wpAnyV_one (i := 8) (by kernel_rfl) rfl (fun K hK => ?_)
          go_simp
          refine hK.out _ _ (fun h => absurd rfl h) ?_
          clear hK K
          refine wpAnyV_done (by kernel_rfl) ?_
          try simp only [Act.put, sA, s0, sS]
          have hk6 : Kept (fun b => b = w5.heap.size) w6 ((w6.setCell ⟨w5.heap.size, 0, none⟩ (.int .i64 Wcode)).setCell ⟨w5.heap.size, 1, none⟩ (.slice Wpage_a Wpage_b.length Wpage_c)) := Kept.setCell (R := fun b => b = w5.heap.size) (Kept.setCell (R := fun b => b = w5.heap.size) (Kept.refl _ _) (p := ⟨w5.heap.size, 0, none⟩) (.inr rfl) _) (p := ⟨w5.heap.size, 1, none⟩) (.inr rfl) _
          have hB6 := (HZw6.out.stored 0 (.int .i64 Wcode)).stored 1 (.slice Wpage_a Wpage_b.length Wpage_c)
          have HZ6 := (show Hid (PRes w1 ((w6.setCell ⟨w5.heap.size, 0, none⟩ (.int .i64 Wcode)).setCell ⟨w5.heap.size, 1, none⟩ (.slice Wpage_a Wpage_b.length Wpage_c)) (pageSetD bs0 s1 (StPageRecord.dat ⟨p2used, ⟨p2data_e, p2data_a, p2data_c, p2data_b⟩⟩) s3) (.pointer (some ⟨w5.heap.size, 0, none⟩))) from ⟨⟨Wcode, ⟨Wpage_e, Wpage_a, Wpage_c, Wpage_b⟩⟩, w5.heap.size, rfl, by omega, hB6.lt, hB6, HDW.out, fun b hb => by have h1 := HFW.out b hb; omega, HWw6.out.kept hk6 (fun b hb e => by have h1 := HFW.out b hb; omega), Kept.next (HQQw6.out : Same w1 w6) hk6 (fun j hj e => by omega)⟩)
          clear hk6 hB6 hS z0 z1 fz
          go_wp2_with fail
          go_meet
          case rel => exact HZ6
        ·
          go_simp
          generalize hwd : (w4.alloc (.cells #[.int .i64 0, .slice none 0 0] 28)) = w5
          have hk : Same (w4.alloc (.cells #[.int .i64 0, .slice none 0 0] 28)) w5 := by rw [← hwd]; exact Kept.refl _ _
          clear hwd
          have hkk : Same w4 w5 := ((Kept.refl _ _).alloc _).trans hk
          have hzw5 := hk.size
          rw [World.size_alloc] at hzw5
          have HA2w5 := (show Hid (Blk w5 (w.heap.size) 36 [.bool p2used, .slice p2data_a p2data_b.length p2data_c]) from HA2w4.out.same hkk)
          have HQQw5 := (show Hid (SameP w1 w5) from HQQw4.out.same hkk)
          have HC0w5 := (show Hid (Own 0 5 .u8 w5 (.slice (some ⟨gC0, 0, none⟩) bs0.length bs0.length) bs0) from HC0w4.out.same hkk)
          have HC2w5 := (show Hid (OwnL w5 (StPageRecord.rows ⟨C2used, ⟨C2data_e, C2data_a, C2data_c, C2data_b⟩⟩)) from HC2w4.out.same hkk)
          have HZw5 := (show Hid (Blk w5 (w4.heap.size) 28 [.int .i64 0, .slice none 0 0]) from (Blk.new w4 #[.int .i64 0, .slice none 0 0] 28).same hk)
          have HKw5 := (show Hid (Same w w5) from HKw4.out.trans hkk)
          clear hkk hk
          have hS : (fun wx : World => wx.cell? ⟨w.heap.size, 0, none⟩ = some (.bool p2used) ∧ wx.cell? ⟨w.heap.size, 1, none⟩ = some (.slice p2data_a p2data_b.length p2data_c)) w5 := ⟨HA2w5.out.cell 0, HA2w5.out.cell 1⟩
          refine hK.out _ _ (fun _ => hS) ?_
          clear hK K
          try simp only [Act.put, sA, s0, sS]
          refine wpAnyV_one (i := 6) (by kernel_rfl) rfl (fun K hK => ?_)
          go_simp
          refine (specSetL_any _ bs0 s1 ⟨C2used, ⟨C2data_e, C2data_a, C2data_c, C2data_b⟩⟩ s3 _ HB0.out (by omega) (HC0w5.out.rd) (StPageRecord.isB_dat HCC2.out HB2.out) (by have := HZC2.out; omega) (StPageRecord.own_rd HC2w5.out)).mono ?_
          rintro e w6 ⟨⟨Wcode, ⟨Wpage_e, Wpage_a, Wpage_c, Wpage_b⟩⟩, rfl, hd, hf, ho, hk⟩
          rw [HCC2.out] at hd
          have hnW : StPageResult.size ⟨Wcode, ⟨Wpage_e, Wpage_a, Wpage_c, Wpage_b⟩⟩ ≤ 1099511627776 := pageSetD_small HB0.out HB2.out hd
          have hnW0 := StPageResult.size_le ⟨Wcode, ⟨Wpage_e, Wpage_a, Wpage_c, Wpage_b⟩⟩
          have HDW := (show Hid (StPageResult.dat ⟨Wcode, ⟨Wpage_e, Wpage_a, Wpage_c, Wpage_b⟩⟩ = pageSetD bs0 s1 (StPageRecord.dat ⟨p2used, ⟨p2data_e, p2data_a, p2data_c, p2data_b⟩⟩) s3) from hd)
          dsimp only [StPageResult.val, BS.v]
          have HFW := (show Hid (∀ b, FootL (StPageResult.rows ⟨Wcode, ⟨Wpage_e, Wpage_a, Wpage_c, Wpage_b⟩⟩) b → w5.heap.size ≤ b ∧ b < w6.heap.size) from fun b hb => ⟨hf b hb, ho.lt b hb⟩)
          have HWw6 := (show Hid (OwnL w6 (StPageResult.rows ⟨Wcode, ⟨Wpage_e, Wpage_a, Wpage_c, Wpage_b⟩⟩)) from ho)
          clear hd hf ho
          have hkk : Same w5 w6 := hk
          have hzw6 := hkk.size
          have HA2w6 := (show Hid (Blk w6 (w.heap.size) 36 [.bool p2used, .slice p2data_a p2data_b.length p2data_c]) from HA2w5.out.same hkk)
          have HQQw6 := (show Hid (SameP w1 w6) from HQQw5.out.same hkk)
          have HC0w6 := (show Hid (Own 0 5 .u8 w6 (.slice (some ⟨gC0, 0, none⟩) bs0.length bs0.length) bs0) from HC0w5.out.same hkk)
          have HC2w6 := (show Hid (OwnL w6 (StPageRecord.rows ⟨C2used, ⟨C2data_e, C2data_a, C2data_c, C2data_b⟩⟩)) from HC2w5.out.same hkk)
          have HZw6 := (show Hid (Blk w6 (w4.heap.size) 28 [.int .i64 0, .slice none 0 0]) from HZw5.out.same hkk)
          have HKw6 := (show Hid (Same w w6) from HKw5.out.trans hkk)
          clear hkk hk
          have hS : (fun wx : World => wx.cell? ⟨w.heap.size, 0, none⟩ = some (.bool p2used) ∧ wx.cell? ⟨w.heap.size, 1, none⟩ = some (.slice p2data_a p2data_b.length p2data_c)) w6 := ⟨HA2w6.out.cell 0, HA2w6.out.cell 1⟩
          refine hK.out _ _ (fun _ => hS) ?_
          clear hK K
          try simp only [Act.put, sA, s0, sS]
          obtain ⟨z0, z1⟩ := HZw6.out.all2
          have fz := HZw6.out.frozen
          refine wpAnyV_one (i := 8) (by kernel_rfl) rfl (fun K hK => ?_)
          go_simp
          refine hK.out _ _ (fun h => absurd rfl h) ?_
          clear hK K
          refine wpAnyV_done (by kernel_rfl) ?_
          try simp only [Act.put, sA, s0, sS]
          have hk6 : Kept (fun b => b = w4.heap.size) w6 ((w6.setCell ⟨w4.heap.size, 0, none⟩ (.int .i64 Wcode)).setCell ⟨w4.heap.size, 1, none⟩ (.slice Wpage_a Wpage_b.length Wpage_c)) := Kept.setCell (R := fun b => b = w4.heap.size) (Kept.setCell (R := fun b => b = w4.heap.size) (Kept.refl _ _) (p := ⟨w4.heap.size, 0, none⟩) (.inr rfl) _) (p := ⟨w4.heap.size, 1, none⟩) (.inr rfl) _
          have hB6 := (HZw6.out.stored 0 (.int .i64 Wcode)).stored 1 (.slice Wpage_a Wpage_b.length Wpage_c)
          have HZ6 := (show Hid (PRes w1 ((w6.setCell ⟨w4.heap.size, 0, none⟩ (.int .i64 Wcode)).setCell ⟨w4.heap.size, 1, none⟩ (.slice Wpage_a Wpage_b.length Wpage_c)) (pageSetD bs0 s1 (StPageRecord.dat ⟨p2used, ⟨p2data_e, p2data_a, p2data_c, p2data_b⟩⟩) s3) (.pointer (some ⟨w4.heap.size, 0, none⟩))) from ⟨⟨Wcode, ⟨Wpage_e, Wpage_a, Wpage_c, Wpage_b⟩⟩, w4.heap.size, rfl, by omega, hB6.lt, hB6, HDW.out, fun b hb => by have h1 := HFW.out b hb; omega, HWw6.out.kept hk6 (fun b hb e => by have h1 := HFW.out b hb; omega), Kept.next (HQQw6.out : Same w1 w6) hk6 (fun j hj e => by omega)⟩)
          clear hk6 hB6 hS z0 z1 fz
          go_wp2_with fail
          go_meet
          case rel => exact HZ6
      ·
        go_simp
        generalize hwd : (w3.alloc (.cells #[.int .i64 0, .slice none 0 0] 28)) = w4
        have hk : Same (w3.alloc (.cells #[.int .i64 0, .slice none 0 0] 28)) w4 := by rw [← hwd]; exact Kept.refl _ _
        clear hwd
        have hkk : Same w3 w4 := ((Kept.refl _ _).alloc _).trans hk
        have hzw4 := hk.size
        rw [World.size_alloc] at hzw4
        have HA2w4 := (show Hid (Blk w4 (w.heap.size) 36 [.bool p2used, .slice p2data_a p2data_b.length p2data_c]) from HA2w3.out.same hkk)
        have HQQw4 := (show Hid (SameP w1 w4) from HQQw3.out.same hkk)
        have HC0w4 := (show Hid (Own 0 5 .u8 w4 (.slice (some ⟨gC0, 0, none⟩) bs0.length bs0.length) bs0) from HC0w3.out.same hkk)
        have HZw4 := (show Hid (Blk w4 (w3.heap.size) 28 [.int .i64 0, .slice none 0 0]) from (Blk.new w3 #[.int .i64 0, .slice none 0 0] 28).same hk)
        have HKw4 := (show Hid (Same w w4) from HKw3.out.trans hkk)
        clear hkk hk
        have hS : (fun wx : World => wx.cell? ⟨w.heap.size, 0, none⟩ = some (.bool p2used) ∧ wx.cell? ⟨w.heap.size, 1, none⟩ = some (.slice p2data_a p2data_b.length p2data_c)) w4 := ⟨HA2w4.out.cell 0, HA2w4.out.cell 1⟩
        refine hK.out _ _ (fun _ => hS) ?_
        clear hK K
        try simp only [Act.put, sA, s0, sS]
        refine wpAnyV_one (i := 4) (by kernel_rfl) rfl (fun K hK => ?_)
        go_simp
        refine (toPageRecord_any ⟨p2used, ⟨p2data_e, p2data_a, p2data_c, p2data_b⟩⟩ _ (by omega) (HV2.out.same HKw4.out)).mono ?_
        rintro e w5 ⟨⟨C2used, ⟨C2data_e, C2data_a, C2data_c, C2data_b⟩⟩, rfl, hd, hz, hf, ho, hk⟩
        have HCC2 := (show Hid (StPageRecord.dat ⟨C2used, ⟨C2data_e, C2data_a, C2data_c, C2data_b⟩⟩ = StPageRecord.dat ⟨p2used, ⟨p2data_e, p2data_a, p2data_c, p2data_b⟩⟩) from hd)
        have HZC2 := (show Hid (StPageRecord.szs ⟨C2used, ⟨C2data_e, C2data_a, C2data_c, C2data_b⟩⟩ = StPageRecord.szs ⟨p2used, ⟨p2data_e, p2data_a, p2data_c, p2data_b⟩⟩) from hz)
        clear hd hz
        dsimp only [StPageRecord.val, BS.v]
        have HFC2 := (show Hid (∀ b, FootL (StPageRecord.rows ⟨C2used, ⟨C2data_e, C2data_a, C2data_c, C2data_b⟩⟩) b → w4.heap.size ≤ b ∧ b < w5.heap.size) from fun b hb => ⟨hf b hb, ho.lt b hb⟩)
        have HC2w5 := (show Hid (OwnL w5 (StPageRecord.rows ⟨C2used, ⟨C2data_e, C2data_a, C2data_c, C2data_b⟩⟩)) from ho)
        clear hf ho
        have hkk : Same w4 w5 := hk
        have hzw5 := hkk.size
        have HA2w5 := (show Hid (Blk w5 (w.heap.size) 36 [.bool p2used, .slice p2data_a p2data_b.length p2data_c]) from HA2w4.out.same hkk)
        have HQQw5 := (show Hid (SameP w1 w5) from HQQw4.out.same hkk)
        have HC0w5 := (show Hid (Own 0 5 .u8 w5 (.slice (some ⟨gC0, 0, none⟩) bs0.length bs0.length) bs0) from HC0w4.out.same hkk)
        have HZw5 := (show Hid (Blk w5 (w3.heap.size) 28 [.int .i64 0, .slice none 0 0]) from HZw4.out.same hkk)
        have HKw5 := (show Hid (Same w w5) from HKw4.out.trans hkk)
        clear hkk hk
        have hS : (fun wx : World => wx.cell? ⟨w.heap.size, 0, none⟩ = some (.bool p2used) ∧ wx.cell? ⟨w.heap.size, 1, none⟩ = some (.slice p2data_a p2data_b.length p2data_c)) w5 := ⟨HA2w5.out.cell 0, HA2w5.out.cell 1⟩
        refine hK.out _ _ (fun _ => hS) ?_
        clear hK K
        try simp only [Act.put, sA, s0, sS]
        refine wpAnyV_one (i := 6) (by kernel_rfl) rfl (fun K hK => ?_)
        go_simp
        refine (specSetL_any _ bs0 s1 ⟨C2used, ⟨C2data_e, C2data_a, C2data_c, C2data_b⟩⟩ s3 _ HB0.out (by omega) (HC0w5.out.rd) (StPageRecord.isB_dat HCC2.out HB2.out) (by have := HZC2.out; omega) (StPageRecord.own_rd HC2w5.out)).mono ?_
        rintro e w6 ⟨⟨Wcode, ⟨Wpage_e, Wpage_a, Wpage_c, Wpage_b⟩⟩, rfl, hd, hf, ho, hk⟩
        rw [HCC2.out] at hd
        have hnW : StPageResult.size ⟨Wcode, ⟨Wpage_e, Wpage_a, Wpage_c, Wpage_b⟩⟩ ≤ 1099511627776 := pageSetD_small HB0.out HB2.out hd
        have hnW0 := StPageResult.size_le ⟨Wcode, ⟨Wpage_e, Wpage_a, Wpage_c, Wpage_b⟩⟩
        have HDW := (show Hid (StPageResult.dat ⟨Wcode, ⟨Wpage_e, Wpage_a, Wpage_c, Wpage_b⟩⟩ = pageSetD bs0 s1 (StPageRecord.dat ⟨p2used, ⟨p2data_e, p2data_a, p2data_c, p2data_b⟩⟩) s3) from hd)
        dsimp only [StPageResult.val, BS.v]
        have HFW := (show Hid (∀ b, FootL (StPageResult.rows ⟨Wcode, ⟨Wpage_e, Wpage_a, Wpage_c, Wpage_b⟩⟩) b → w5.heap.size ≤ b ∧ b < w6.heap.size) from fun b hb => ⟨hf b hb, ho.lt b hb⟩)
        have HWw6 := (show Hid (OwnL w6 (StPageResult.rows ⟨Wcode, ⟨Wpage_e, Wpage_a, Wpage_c, Wpage_b⟩⟩)) from ho)
        clear hd hf ho
        have hkk : Same w5 w6 := hk
        have hzw6 := hkk.size
        have HA2w6 := (show Hid (Blk w6 (w.heap.size) 36 [.bool p2used, .slice p2data_a p2data_b.length p2data_c]) from HA2w5.out.same hkk)
        have HQQw6 := (show Hid (SameP w1 w6) from HQQw5.out.same hkk)
        have HC0w6 := (show Hid (Own 0 5 .u8 w6 (.slice (some ⟨gC0, 0, none⟩) bs0.length bs0.length) bs0) from HC0w5.out.same hkk)
        have HZw6 := (show Hid (Blk w6 (w3.heap.size) 28 [.int .i64 0, .slice none 0 0]) from HZw5.out.same hkk)
        have HC2w6 := (show Hid (OwnL w6 (StPageRecord.rows ⟨C2used, ⟨C2data_e, C2data_a, C2data_c, C2data_b⟩⟩)) from HC2w5.out.same hkk)
        have HKw6 := (show Hid (Same w w6) from HKw5.out.trans hkk)
        clear hkk hk
        have hS : (fun wx : World => wx.cell? ⟨w.heap.size, 0, none⟩ = some (.bool p2used) ∧ wx.cell? ⟨w.heap.size, 1, none⟩ = some (.slice p2data_a p2data_b.length p2data_c)) w6 := ⟨HA2w6.out.cell 0, HA2w6.out.cell 1⟩
        refine hK.out _ _ (fun _ => hS) ?_
        clear hK K
        try simp only [Act.put, sA, s0, sS]
        obtain ⟨z0, z1⟩ := HZw6.out.all2
        have fz := HZw6.out.frozen
        refine wpAnyV_one (i := 8) (by kernel_rfl) rfl (fun K hK => ?_)
        go_simp
        refine hK.out _ _ (fun h => absurd rfl h) ?_
        clear hK K
        refine wpAnyV_done (by kernel_rfl) ?_
        try simp only [Act.put, sA, s0, sS]
        have hk6 : Kept (fun b => b = w3.heap.size) w6 ((w6.setCell ⟨w3.heap.size, 0, none⟩ (.int .i64 Wcode)).setCell ⟨w3.heap.size, 1, none⟩ (.slice Wpage_a Wpage_b.length Wpage_c)) := Kept.setCell (R := fun b => b = w3.heap.size) (Kept.setCell (R := fun b => b = w3.heap.size) (Kept.refl _ _) (p := ⟨w3.heap.size, 0, none⟩) (.inr rfl) _) (p := ⟨w3.heap.size, 1, none⟩) (.inr rfl) _
        have hB6 := (HZw6.out.stored 0 (.int .i64 Wcode)).stored 1 (.slice Wpage_a Wpage_b.length Wpage_c)
        have HZ6 := (show Hid (PRes w1 ((w6.setCell ⟨w3.heap.size, 0, none⟩ (.int .i64 Wcode)).setCell ⟨w3.heap.size, 1, none⟩ (.slice Wpage_a Wpage_b.length Wpage_c)) (pageSetD bs0 s1 (StPageRecord.dat ⟨p2used, ⟨p2data_e, p2data_a, p2data_c, p2data_b⟩⟩) s3) (.pointer (some ⟨w3.heap.size, 0, none⟩))) from ⟨⟨Wcode, ⟨Wpage_e, Wpage_a, Wpage_c, Wpage_b⟩⟩, w3.heap.size, rfl, by omega, hB6.lt, hB6, HDW.out, fun b hb => by have h1 := HFW.out b hb; omega, HWw6.out.kept hk6 (fun b hb e => by have h1 := HFW.out b hb; omega), Kept.next (HQQw6.out : Same w1 w6) hk6 (fun j hj e => by omega)⟩)
        clear hk6 hB6 hS z0 z1 fz
        go_wp2_with fail
        go_meet
        case rel => exact HZ6
    ·
      go_simp
      generalize hwd : (w2.alloc (.cells #[.int .i64 0, .slice none 0 0] 28)) = w3
      have hk : Same (w2.alloc (.cells #[.int .i64 0, .slice none 0 0] 28)) w3 := by rw [← hwd]; exact Kept.refl _ _
      clear hwd
      have hkk : Same w2 w3 := ((Kept.refl _ _).alloc _).trans hk
      have hzw3 := hk.size
      rw [World.size_alloc] at hzw3
      have HA2w3 := (show Hid (Blk w3 (w.heap.size) 36 [.bool p2used, .slice p2data_a p2data_b.length p2data_c]) from HA2w2.out.same hkk)
      have HQQw3 := (show Hid (SameP w1 w3) from HQQw2.out.same hkk)
      have HZw3 := (show Hid (Blk w3 (w2.heap.size) 28 [.int .i64 0, .slice none 0 0]) from (Blk.new w2 #[.int .i64 0, .slice none 0 0] 28).same hk)
      have HKw3 := (show Hid (Same w w3) from HKw2.out.trans hkk)
      clear hkk hk
      have hS : (fun wx : World => wx.cell? ⟨w.heap.size, 0, none⟩ = some (.bool p2used) ∧ wx.cell? ⟨w.heap.size, 1, none⟩ = some (.slice p2data_a p2data_b.length p2data_c)) w3 := ⟨HA2w3.out.cell 0, HA2w3.out.cell 1⟩
      refine hK.out _ _ (fun _ => hS) ?_
      clear hK K
      try simp only [Act.put, sA, s0, sS]
      refine wpAnyV_one (i := 1) (by kernel_rfl) rfl (fun K hK => ?_)
      go_simp
      refine (toByteS_any _ bs0 _ (by omega) (HV0.out.same HKw3.out)).mono ?_
      rintro e w4 ⟨gC0, rfl, hf, ho, hk⟩
      have hf : ∀ b, (Value.slice (some ⟨gC0, 0, none⟩) bs0.length bs0.length).ownBlock = some b → _ ≤ b := fun b hb => by rw [← (Option.some.inj hb : gC0 = b)]; exact hf
      have HFC0 := (show Hid (∀ b, (Value.slice (some ⟨gC0, 0, none⟩) bs0.length bs0.length).ownBlock = some b → w3.heap.size ≤ b ∧ b < w4.heap.size) from fun b hb => ⟨hf b hb, (ho.lt b hb).2⟩)
      have HC0w4 := (show Hid (Own 0 5 .u8 w4 (.slice (some ⟨gC0, 0, none⟩) bs0.length bs0.length) bs0) from ho)
      clear hf ho
      have hkk : Same w3 w4 := hk
      have hzw4 := hkk.size
      have HA2w4 := (show Hid (Blk w4 (w.heap.size) 36 [.bool p2used, .slice p2data_a p2data_b.length p2data_c]) from HA2w3.out.same hkk)
      have HQQw4 := (show Hid (SameP w1 w4) from HQQw3.out.same hkk)
      have HZw4 := (show Hid (Blk w4 (w2.heap.size) 28 [.int .i64 0, .slice none 0 0]) from HZw3.out.same hkk)
      have HKw4 := (show Hid (Same w w4) from HKw3.out.trans hkk)
      clear hkk hk
      have hS : (fun wx : World => wx.cell? ⟨w.heap.size, 0, none⟩ = some (.bool p2used) ∧ wx.cell? ⟨w.heap.size, 1, none⟩ = some (.slice p2data_a p2data_b.length p2data_c)) w4 := ⟨HA2w4.out.cell 0, HA2w4.out.cell 1⟩
      refine hK.out _ _ (fun _ => hS) ?_
      clear hK K
      try simp only [Act.put, sA, s0, sS]
      refine wpAnyV_one (i := 4) (by kernel_rfl) rfl (fun K hK => ?_)
      go_simp
      refine (toPageRecord_any ⟨p2used, ⟨p2data_e, p2data_a, p2data_c, p2data_b⟩⟩ _ (by omega) (HV2.out.same HKw4.out)).mono ?_
      rintro e w5 ⟨⟨C2used, ⟨C2data_e, C2data_a, C2data_c, C2data_b⟩⟩, rfl, hd, hz, hf, ho, hk⟩
      have HCC2 := (show Hid (StPageRecord.dat ⟨C2used, ⟨C2data_e, C2data_a, C2data_c, C2data_b⟩⟩ = StPageRecord.dat ⟨p2used, ⟨p2data_e, p2data_a, p2data_c, p2data_b⟩⟩) from hd)
      have HZC2 := (show Hid (StPageRecord.szs ⟨C2used, ⟨C2data_e, C2data_a, C2data_c, C2data_b⟩⟩ = StPageRecord.szs ⟨p2used, ⟨p2data_e, p2data_a, p2data_c, p2data_b⟩⟩) from hz)
      clear hd hz
      dsimp only [StPageRecord.val, BS.v]
      have HFC2 := (show Hid (∀ b, FootL (StPageRecord.rows ⟨C2used, ⟨C2data_e, C2data_a, C2data_c, C2data_b⟩⟩) b → w4.heap.size ≤ b ∧ b < w5.heap.size) from fun b hb => ⟨hf b hb, ho.lt b hb⟩)
      have HC2w5 := (show Hid (OwnL w5 (StPageRecord.rows ⟨C2used, ⟨C2data_e, C2data_a, C2data_c, C2data_b⟩⟩)) from ho)
      clear hf ho
      have hkk : Same w4 w5 := hk
      have hzw5 := hkk.size
      have HA2w5 := (show Hid (Blk w5 (w.heap.size) 36 [.bool p2used, .slice p2data_a p2data_b.length p2data_c]) from HA2w4.out.same hkk)
      have HQQw5 := (show Hid (SameP w1 w5) from HQQw4.out.same hkk)
      have HZw5 := (show Hid (Blk w5 (w2.heap.size) 28 [.int .i64 0, .slice none 0 0]) from HZw4.out.same hkk)
      have HC0w5 := (show Hid (Own 0 5 .u8 w5 (.slice (some ⟨gC0, 0, none⟩) bs0.length bs0.length) bs0) from HC0w4.out.same hkk)
      have HKw5 := (show Hid (Same w w5) from HKw4.out.trans hkk)
      clear hkk hk
      have hS : (fun wx : World => wx.cell? ⟨w.heap.size, 0, none⟩ = some (.bool p2used) ∧ wx.cell? ⟨w.heap.size, 1, none⟩ = some (.slice p2data_a p2data_b.length p2data_c)) w5 := ⟨HA2w5.out.cell 0, HA2w5.out.cell 1⟩
      refine hK.out _ _ (fun _ => hS) ?_
      clear hK K
      try simp only [Act.put, sA, s0, sS]
      refine wpAnyV_one (i := 6) (by kernel_rfl) rfl (fun K hK => ?_)
      go_simp
      refine (specSetL_any _ bs0 s1 ⟨C2used, ⟨C2data_e, C2data_a, C2data_c, C2data_b⟩⟩ s3 _ HB0.out (by omega) (HC0w5.out.rd) (StPageRecord.isB_dat HCC2.out HB2.out) (by have := HZC2.out; omega) (StPageRecord.own_rd HC2w5.out)).mono ?_
      rintro e w6 ⟨⟨Wcode, ⟨Wpage_e, Wpage_a, Wpage_c, Wpage_b⟩⟩, rfl, hd, hf, ho, hk⟩
      rw [HCC2.out] at hd
      have hnW : StPageResult.size ⟨Wcode, ⟨Wpage_e, Wpage_a, Wpage_c, Wpage_b⟩⟩ ≤ 1099511627776 := pageSetD_small HB0.out HB2.out hd
      have hnW0 := StPageResult.size_le ⟨Wcode, ⟨Wpage_e, Wpage_a, Wpage_c, Wpage_b⟩⟩
      have HDW := (show Hid (StPageResult.dat ⟨Wcode, ⟨Wpage_e, Wpage_a, Wpage_c, Wpage_b⟩⟩ = pageSetD bs0 s1 (StPageRecord.dat ⟨p2used, ⟨p2data_e, p2data_a, p2data_c, p2data_b⟩⟩) s3) from hd)
      dsimp only [StPageResult.val, BS.v]
      have HFW := (show Hid (∀ b, FootL (StPageResult.rows ⟨Wcode, ⟨Wpage_e, Wpage_a, Wpage_c, Wpage_b⟩⟩) b → w5.heap.size ≤ b ∧ b < w6.heap.size) from fun b hb => ⟨hf b hb, ho.lt b hb⟩)
      have HWw6 := (show Hid (OwnL w6 (StPageResult.rows ⟨Wcode, ⟨Wpage_e, Wpage_a, Wpage_c, Wpage_b⟩⟩)) from ho)
      clear hd hf ho
      have hkk : Same w5 w6 := hk
      have hzw6 := hkk.size
      have HA2w6 := (show Hid (Blk w6 (w.heap.size) 36 [.bool p2used, .slice p2data_a p2data_b.length p2data_c]) from HA2w5.out.same hkk)
      have HQQw6 := (show Hid (SameP w1 w6) from HQQw5.out.same hkk)
      have HZw6 := (show Hid (Blk w6 (w2.heap.size) 28 [.int .i64 0, .slice none 0 0]) from HZw5.out.same hkk)
      have HC0w6 := (show Hid (Own 0 5 .u8 w6 (.slice (some ⟨gC0, 0, none⟩) bs0.length bs0.length) bs0) from HC0w5.out.same hkk)
      have HC2w6 := (show Hid (OwnL w6 (StPageRecord.rows ⟨C2used, ⟨C2data_e, C2data_a, C2data_c, C2data_b⟩⟩)) from HC2w5.out.same hkk)
      have HKw6 := (show Hid (Same w w6) from HKw5.out.trans hkk)
      clear hkk hk
      have hS : (fun wx : World => wx.cell? ⟨w.heap.size, 0, none⟩ = some (.bool p2used) ∧ wx.cell? ⟨w.heap.size, 1, none⟩ = some (.slice p2data_a p2data_b.length p2data_c)) w6 := ⟨HA2w6.out.cell 0, HA2w6.out.cell 1⟩
      refine hK.out _ _ (fun _ => hS) ?_
      clear hK K
      try simp only [Act.put, sA, s0, sS]
      obtain ⟨z0, z1⟩ := HZw6.out.all2
      have fz := HZw6.out.frozen
      refine wpAnyV_one (i := 8) (by kernel_rfl) rfl (fun K hK => ?_)
      go_simp
      refine hK.out _ _ (fun h => absurd rfl h) ?_
      clear hK K
      refine wpAnyV_done (by kernel_rfl) ?_
      try simp only [Act.put, sA, s0, sS]
      have hk6 : Kept (fun b => b = w2.heap.size) w6 ((w6.setCell ⟨w2.heap.size, 0, none⟩ (.int .i64 Wcode)).setCell ⟨w2.heap.size, 1, none⟩ (.slice Wpage_a Wpage_b.length Wpage_c)) := Kept.setCell (R := fun b => b = w2.heap.size) (Kept.setCell (R := fun b => b = w2.heap.size) (Kept.refl _ _) (p := ⟨w2.heap.size, 0, none⟩) (.inr rfl) _) (p := ⟨w2.heap.size, 1, none⟩) (.inr rfl) _
      have hB6 := (HZw6.out.stored 0 (.int .i64 Wcode)).stored 1 (.slice Wpage_a Wpage_b.length Wpage_c)
      have HZ6 := (show Hid (PRes w1 ((w6.setCell ⟨w2.heap.size, 0, none⟩ (.int .i64 Wcode)).setCell ⟨w2.heap.size, 1, none⟩ (.slice Wpage_a Wpage_b.length Wpage_c)) (pageSetD bs0 s1 (StPageRecord.dat ⟨p2used, ⟨p2data_e, p2data_a, p2data_c, p2data_b⟩⟩) s3) (.pointer (some ⟨w2.heap.size, 0, none⟩))) from ⟨⟨Wcode, ⟨Wpage_e, Wpage_a, Wpage_c, Wpage_b⟩⟩, w2.heap.size, rfl, by omega, hB6.lt, hB6, HDW.out, fun b hb => by have h1 := HFW.out b hb; omega, HWw6.out.kept hk6 (fun b hb e => by have h1 := HFW.out b hb; omega), Kept.next (HQQw6.out : Same w1 w6) hk6 (fun j hj e => by omega)⟩)
      clear hk6 hB6 hS z0 z1 fz
      go_wp2_with fail
      go_meet
      case rel => exact HZ6
  case rest =>
  obtain ⟨w27, hwc⟩ : ∃ x, x = wc := ⟨_, rfl⟩
  subst hwc
  obtain ⟨⟨Wcode, ⟨Wpage_e, Wpage_a, Wpage_c, Wpage_b⟩⟩, BW, rfl, hBaW, hBbW, hb, hd, hf, ho, hk⟩ := hcut.out
  clear hcut
  have hnW : StPageResult.size ⟨Wcode, ⟨Wpage_e, Wpage_a, Wpage_c, Wpage_b⟩⟩ ≤ 1099511627776 := pageSetD_small HB0.out HB2.out hd
  have hnW0 := StPageResult.size_le ⟨Wcode, ⟨Wpage_e, Wpage_a, Wpage_c, Wpage_b⟩⟩
  have HDW := (show Hid (StPageResult.dat ⟨Wcode, ⟨Wpage_e, Wpage_a, Wpage_c, Wpage_b⟩⟩ = pageSetD bs0 s1 (StPageRecord.dat ⟨p2used, ⟨p2data_e, p2data_a, p2data_c, p2data_b⟩⟩) s3) from hd)
  have HFW := (show Hid (∀ b, FootL (StPageResult.rows ⟨Wcode, ⟨Wpage_e, Wpage_a, Wpage_c, Wpage_b⟩⟩) b → (w1.heap.size ≤ b ∧ b < w27.heap.size) ∧ b ≠ BW) from fun b hb => ⟨⟨(hf b hb).1, ho.lt b hb⟩, (hf b hb).2⟩)
  have HWw27 := (show Hid (OwnL w27 (StPageResult.rows ⟨Wcode, ⟨Wpage_e, Wpage_a, Wpage_c, Wpage_b⟩⟩)) from ho)
  have HZw27 := (show Hid (Blk w27 (BW) 28 [.int .i64 Wcode, .slice Wpage_a Wpage_b.length Wpage_c]) from hb)
  clear hd hf ho hb
  have hkk : Same w1 w27 := hk
  have hzw27 := hkk.size
  have HA2w27 := (show Hid (Blk w27 (w.heap.size) 36 [.bool p2used, .slice p2data_a p2data_b.length p2data_c]) from HA2w1.out.same hkk)
  have HKw27 := (show Hid (Same w w27) from HKw1.out.trans hkk)
  clear hkk hk
  have cA2_0 : w27.cell? ⟨w.heap.size, 0, none⟩ = some (.bool p2used) := HA2w27.out.cell 0
  have cA2_1 : w27.cell? ⟨w.heap.size, 1, none⟩ = some (.slice p2data_a p2data_b.length p2data_c) := HA2w27.out.cell 1
  have lA2 := HA2w27.out.lt
  have cZ_0 : w27.cell? ⟨BW, 0, none⟩ = some (.int .i64 Wcode) := HZw27.out.cell 0
  have cZ_1 : w27.cell? ⟨BW, 1, none⟩ = some (.slice Wpage_a Wpage_b.length Wpage_c) := HZw27.out.cell 1
  have lZ := HZw27.out.lt
  go_wp2_with fail
  refine (toByteS_any _ bs0 _ (by omega) (HV0.out.same HKw27.out)).mono ?_
  rintro e w28 ⟨gX0, rfl, hf, ho, hk⟩
  have hf : ∀ b, (Value.slice (some ⟨gX0, 0, none⟩) bs0.length bs0.length).ownBlock = some b → _ ≤ b := fun b hb => by rw [← (Option.some.inj hb : gX0 = b)]; exact hf
  have HFX0 := (show Hid (∀ b, (Value.slice (some ⟨gX0, 0, none⟩) bs0.length bs0.length).ownBlock = some b → w27.heap.size ≤ b ∧ b < w28.heap.size) from fun b hb => ⟨hf b hb, (ho.lt b hb).2⟩)
  have HX0w28 := (show Hid (Own 0 5 .u8 w28 (.slice (some ⟨gX0, 0, none⟩) bs0.length bs0.length) bs0) from ho)
  clear hf ho
  have hkk : Same w27 w28 := hk
  have hzw28 := hkk.size
  have HA2w28 := (show Hid (Blk w28 (w.heap.size) 36 [.bool p2used, .slice p2data_a p2data_b.length p2data_c]) from HA2w27.out.same hkk)
  have HWw28 := (show Hid (OwnL w28 (StPageResult.rows ⟨Wcode, ⟨Wpage_e, Wpage_a, Wpage_c, Wpage_b⟩⟩)) from HWw27.out.same hkk)
  have HZw28 := (show Hid (Blk w28 (BW) 28 [.int .i64 Wcode, .slice Wpage_a Wpage_b.length Wpage_c]) from HZw27.out.same hkk)
  have HKw28 := (show Hid (Same w w28) from HKw27.out.trans hkk)
  clear hkk hk
  clear cA2_0 cA2_1 lA2 cZ_0 cZ_1 lZ
  have cA2_0 : w28.cell? ⟨w.heap.size, 0, none⟩ = some (.bool p2used) := HA2w28.out.cell 0
  have cA2_1 : w28.cell? ⟨w.heap.size, 1, none⟩ = some (.slice p2data_a p2data_b.length p2data_c) := HA2w28.out.cell 1
  have lA2 := HA2w28.out.lt
  have cZ_0 : w28.cell? ⟨BW, 0, none⟩ = some (.int .i64 Wcode) := HZw28.out.cell 0
  have cZ_1 : w28.cell? ⟨BW, 1, none⟩ = some (.slice Wpage_a Wpage_b.length Wpage_c) := HZw28.out.cell 1
  have lZ := HZw28.out.lt
  go_wp2_with fail
  refine (toPageRecord_any ⟨p2used, ⟨p2data_e, p2data_a, p2data_c, p2data_b⟩⟩ _ (by omega) (HV2.out.same HKw28.out)).mono ?_
  rintro e w29 ⟨⟨X2used, ⟨X2data_e, X2data_a, X2data_c, X2data_b⟩⟩, rfl, hd, hz, hf, ho, hk⟩
  have HCX2 := (show Hid (StPageRecord.dat ⟨X2used, ⟨X2data_e, X2data_a, X2data_c, X2data_b⟩⟩ = StPageRecord.dat ⟨p2used, ⟨p2data_e, p2data_a, p2data_c, p2data_b⟩⟩) from hd)
  have HZX2 := (show Hid (StPageRecord.szs ⟨X2used, ⟨X2data_e, X2data_a, X2data_c, X2data_b⟩⟩ = StPageRecord.szs ⟨p2used, ⟨p2data_e, p2data_a, p2data_c, p2data_b⟩⟩) from hz)
  clear hd hz
  dsimp only [StPageRecord.val, BS.v]
  have HFX2 := (show Hid (∀ b, FootL (StPageRecord.rows ⟨X2used, ⟨X2data_e, X2data_a, X2data_c, X2data_b⟩⟩) b → w28.heap.size ≤ b ∧ b < w29.heap.size) from fun b hb => ⟨hf b hb, ho.lt b hb⟩)
  have HX2w29 := (show Hid (OwnL w29 (StPageRecord.rows ⟨X2used, ⟨X2data_e, X2data_a, X2data_c, X2data_b⟩⟩)) from ho)
  clear hf ho
  have hkk : Same w28 w29 := hk
  have hzw29 := hkk.size
  have HA2w29 := (show Hid (Blk w29 (w.heap.size) 36 [.bool p2used, .slice p2data_a p2data_b.length p2data_c]) from HA2w28.out.same hkk)
  have HWw29 := (show Hid (OwnL w29 (StPageResult.rows ⟨Wcode, ⟨Wpage_e, Wpage_a, Wpage_c, Wpage_b⟩⟩)) from HWw28.out.same hkk)
  have HZw29 := (show Hid (Blk w29 (BW) 28 [.int .i64 Wcode, .slice Wpage_a Wpage_b.length Wpage_c]) from HZw28.out.same hkk)
  have HX0w29 := (show Hid (Own 0 5 .u8 w29 (.slice (some ⟨gX0, 0, none⟩) bs0.length bs0.length) bs0) from HX0w28.out.same hkk)
  have HKw29 := (show Hid (Same w w29) from HKw28.out.trans hkk)
  clear hkk hk
  clear cA2_0 cA2_1 lA2 cZ_0 cZ_1 lZ
  have cA2_0 : w29.cell? ⟨w.heap.size, 0, none⟩ = some (.bool p2used) := HA2w29.out.cell 0
  have cA2_1 : w29.cell? ⟨w.heap.size, 1, none⟩ = some (.slice p2data_a p2data_b.length p2data_c) := HA2w29.out.cell 1
  have lA2 := HA2w29.out.lt
  have cZ_0 : w29.cell? ⟨BW, 0, none⟩ = some (.int .i64 Wcode) := HZw29.out.cell 0
  have cZ_1 : w29.cell? ⟨BW, 1, none⟩ = some (.slice Wpage_a Wpage_b.length Wpage_c) := HZw29.out.cell 1
  have lZ := HZw29.out.lt
  go_wp2_with fail
  refine (implSetL_any _ bs0 s1 ⟨X2used, ⟨X2data_e, X2data_a, X2data_c, X2data_b⟩⟩ s3 _ HB0.out (by omega) (HX0w29.out.rd.same ((Kept.refl _ _).alloc _)) (StPageRecord.isB_dat HCX2.out HB2.out) (by have := HZX2.out; omega) (StPageRecord.own_rd (HX2w29.out.same ((Kept.refl _ _).alloc _)))).mono ?_
  rintro e w30 ⟨⟨Gcode, ⟨Gpage_e, Gpage_a, Gpage_c, Gpage_b⟩⟩, rfl, hd, hf, ho, hk⟩
  rw [HCX2.out] at hd
  have hnG : StPageResult.size ⟨Gcode, ⟨Gpage_e, Gpage_a, Gpage_c, Gpage_b⟩⟩ ≤ 1099511627776 := pageSetD_small HB0.out HB2.out hd
  have hnG0 := StPageResult.size_le ⟨Gcode, ⟨Gpage_e, Gpage_a, Gpage_c, Gpage_b⟩⟩
  have HDG := (show Hid (StPageResult.dat ⟨Gcode, ⟨Gpage_e, Gpage_a, Gpage_c, Gpage_b⟩⟩ = pageSetD bs0 s1 (StPageRecord.dat ⟨p2used, ⟨p2data_e, p2data_a, p2data_c, p2data_b⟩⟩) s3) from hd)
  dsimp only [StPageResult.val, BS.v]
  simp only [World.size_alloc] at hf
  have HFG := (show Hid (∀ b, FootL (StPageResult.rows ⟨Gcode, ⟨Gpage_e, Gpage_a, Gpage_c, Gpage_b⟩⟩) b → w29.heap.size < b ∧ b < w30.heap.size) from fun b hb => ⟨by have := hf b hb; omega, ho.lt b hb⟩)
  have HGw30 := (show Hid (OwnL w30 (StPageResult.rows ⟨Gcode, ⟨Gpage_e, Gpage_a, Gpage_c, Gpage_b⟩⟩)) from ho)
  clear hd hf ho
  have hkk : Same w29 w30 := ((Kept.refl _ _).alloc _).trans hk
  have hzw30 := hk.size
  rw [World.size_alloc] at hzw30
  have HA2w30 := (show Hid (Blk w30 (w.heap.size) 36 [.bool p2used, .slice p2data_a p2data_b.length p2data_c]) from HA2w29.out.same hkk)
  have HWw30 := (show Hid (OwnL w30 (StPageResult.rows ⟨Wcode, ⟨Wpage_e, Wpage_a, Wpage_c, Wpage_b⟩⟩)) from HWw29.out.same hkk)
  have HZw30 := (show Hid (Blk w30 (BW) 28 [.int .i64 Wcode, .slice Wpage_a Wpage_b.length Wpage_c]) from HZw29.out.same hkk)
  have HX0w30 := (show Hid (Own 0 5 .u8 w30 (.slice (some ⟨gX0, 0, none⟩) bs0.length bs0.length) bs0) from HX0w29.out.same hkk)
  have HX2w30 := (show Hid (OwnL w30 (StPageRecord.rows ⟨X2used, ⟨X2data_e, X2data_a, X2data_c, X2data_b⟩⟩)) from HX2w29.out.same hkk)
  have HT2w30 := (show Hid (Blk w30 (w29.heap.size) 24 [.bool X2used, .slice X2data_a X2data_b.length X2data_c]) from (Blk.new w29 #[.bool X2used, .slice X2data_a X2data_b.length X2data_c] 24).same hk)
  have HKw30 := (show Hid (Same w w30) from HKw29.out.trans hkk)
  clear hkk hk
  clear cA2_0 cA2_1 lA2 cZ_0 cZ_1 lZ
  have cA2_0 : w30.cell? ⟨w.heap.size, 0, none⟩ = some (.bool p2used) := HA2w30.out.cell 0
  have cA2_1 : w30.cell? ⟨w.heap.size, 1, none⟩ = some (.slice p2data_a p2data_b.length p2data_c) := HA2w30.out.cell 1
  have lA2 := HA2w30.out.lt
  have cZ_0 : w30.cell? ⟨BW, 0, none⟩ = some (.int .i64 Wcode) := HZw30.out.cell 0
  have cZ_1 : w30.cell? ⟨BW, 1, none⟩ = some (.slice Wpage_a Wpage_b.length Wpage_c) := HZw30.out.cell 1
  have lZ := HZw30.out.lt
  have cT2_0 : w30.cell? ⟨w29.heap.size, 0, none⟩ = some (.bool X2used) := HT2w30.out.cell 0
  have cT2_1 : w30.cell? ⟨w29.heap.size, 1, none⟩ = some (.slice X2data_a X2data_b.length X2data_c) := HT2w30.out.cell 1
  have lT2 := HT2w30.out.lt
  go_wp2_with fail
  refine (eqPageResult_own ⟨Gcode, ⟨Gpage_e, Gpage_a, Gpage_c, Gpage_b⟩⟩ ⟨Wcode, ⟨Wpage_e, Wpage_a, Wpage_c, Wpage_b⟩⟩ _ (by omega) (HDG.out.trans HDW.out.symm) (HGw30.out.same ((Kept.refl _ _).alloc _)) (HWw30.out.same ((Kept.refl _ _).alloc _))).mono ?_
  rintro e w31 ⟨rfl, hk⟩
  have hkk : Same w30 w31 := ((Kept.refl _ _).alloc _).trans hk
  have hzw31 := hk.size
  rw [World.size_alloc] at hzw31
  have HA2w31 := (show Hid (Blk w31 (w.heap.size) 36 [.bool p2used, .slice p2data_a p2data_b.length p2data_c]) from HA2w30.out.same hkk)
  have HWw31 := (show Hid (OwnL w31 (StPageResult.rows ⟨Wcode, ⟨Wpage_e, Wpage_a, Wpage_c, Wpage_b⟩⟩)) from HWw30.out.same hkk)
  have HZw31 := (show Hid (Blk w31 (BW) 28 [.int .i64 Wcode, .slice Wpage_a Wpage_b.length Wpage_c]) from HZw30.out.same hkk)
  have HX0w31 := (show Hid (Own 0 5 .u8 w31 (.slice (some ⟨gX0, 0, none⟩) bs0.length bs0.length) bs0) from HX0w30.out.same hkk)
  have HX2w31 := (show Hid (OwnL w31 (StPageRecord.rows ⟨X2used, ⟨X2data_e, X2data_a, X2data_c, X2data_b⟩⟩)) from HX2w30.out.same hkk)
  have HT2w31 := (show Hid (Blk w31 (w29.heap.size) 24 [.bool X2used, .slice X2data_a X2data_b.length X2data_c]) from HT2w30.out.same hkk)
  have HGw31 := (show Hid (OwnL w31 (StPageResult.rows ⟨Gcode, ⟨Gpage_e, Gpage_a, Gpage_c, Gpage_b⟩⟩)) from HGw30.out.same hkk)
  have HYw31 := (show Hid (Blk w31 (w30.heap.size) 28 [.int .i64 Gcode, .slice Gpage_a Gpage_b.length Gpage_c]) from (Blk.new w30 #[.int .i64 Gcode, .slice Gpage_a Gpage_b.length Gpage_c] 28).same hk)
  have HKw31 := (show Hid (Same w w31) from HKw30.out.trans hkk)
  clear hkk hk
  clear cA2_0 cA2_1 lA2 cZ_0 cZ_1 lZ cT2_0 cT2_1 lT2
  have cA2_0 : w31.cell? ⟨w.heap.size, 0, none⟩ = some (.bool p2used) := HA2w31.out.cell 0
  have cA2_1 : w31.cell? ⟨w.heap.size, 1, none⟩ = some (.slice p2data_a p2data_b.length p2data_c) := HA2w31.out.cell 1
  have lA2 := HA2w31.out.lt
  have cZ_0 : w31.cell? ⟨BW, 0, none⟩ = some (.int .i64 Wcode) := HZw31.out.cell 0
  have cZ_1 : w31.cell? ⟨BW, 1, none⟩ = some (.slice Wpage_a Wpage_b.length Wpage_c) := HZw31.out.cell 1
  have lZ := HZw31.out.lt
  have cT2_0 : w31.cell? ⟨w29.heap.size, 0, none⟩ = some (.bool X2used) := HT2w31.out.cell 0
  have cT2_1 : w31.cell? ⟨w29.heap.size, 1, none⟩ = some (.slice X2data_a X2data_b.length X2data_c) := HT2w31.out.cell 1
  have lT2 := HT2w31.out.lt
  have cY_0 : w31.cell? ⟨w30.heap.size, 0, none⟩ = some (.int .i64 Gcode) := HYw31.out.cell 0
  have cY_1 : w31.cell? ⟨w30.heap.size, 1, none⟩ = some (.slice Gpage_a Gpage_b.length Gpage_c) := HYw31.out.cell 1
  have lY := HYw31.out.lt
  go_wp2_with fail
  refine (toByteS_any _ bs0 _ (by omega) (HV0.out.same HKw31.out)).mono ?_
  rintro e w32 ⟨gD0, rfl, hf, ho, hk⟩
  have hf : ∀ b, (Value.slice (some ⟨gD0, 0, none⟩) bs0.length bs0.length).ownBlock = some b → _ ≤ b := fun b hb => by rw [← (Option.some.inj hb : gD0 = b)]; exact hf
  have HFD0 := (show Hid (∀ b, (Value.slice (some ⟨gD0, 0, none⟩) bs0.length bs0.length).ownBlock = some b → w31.heap.size ≤ b ∧ b < w32.heap.size) from fun b hb => ⟨hf b hb, (ho.lt b hb).2⟩)
  have HD0w32 := (show Hid (Own 0 5 .u8 w32 (.slice (some ⟨gD0, 0, none⟩) bs0.length bs0.length) bs0) from ho)
  clear hf ho
  have hkk : Same w31 w32 := hk
  have hzw32 := hkk.size
  have HA2w32 := (show Hid (Blk w32 (w.heap.size) 36 [.bool p2used, .slice p2data_a p2data_b.length p2data_c]) from HA2w31.out.same hkk)
  have HWw32 := (show Hid (OwnL w32 (StPageResult.rows ⟨Wcode, ⟨Wpage_e, Wpage_a, Wpage_c, Wpage_b⟩⟩)) from HWw31.out.same hkk)
  have HZw32 := (show Hid (Blk w32 (BW) 28 [.int .i64 Wcode, .slice Wpage_a Wpage_b.length Wpage_c]) from HZw31.out.same hkk)
  have HX0w32 := (show Hid (Own 0 5 .u8 w32 (.slice (some ⟨gX0, 0, none⟩) bs0.length bs0.length) bs0) from HX0w31.out.same hkk)
  have HX2w32 := (show Hid (OwnL w32 (StPageRecord.rows ⟨X2used, ⟨X2data_e, X2data_a, X2data_c, X2data_b⟩⟩)) from HX2w31.out.same hkk)
  have HT2w32 := (show Hid (Blk w32 (w29.heap.size) 24 [.bool X2used, .slice X2data_a X2data_b.length X2data_c]) from HT2w31.out.same hkk)
  have HGw32 := (show Hid (OwnL w32 (StPageResult.rows ⟨Gcode, ⟨Gpage_e, Gpage_a, Gpage_c, Gpage_b⟩⟩)) from HGw31.out.same hkk)
  have HYw32 := (show Hid (Blk w32 (w30.heap.size) 28 [.int .i64 Gcode, .slice Gpage_a Gpage_b.length Gpage_c]) from HYw31.out.same hkk)
  have HKw32 := (show Hid (Same w w32) from HKw31.out.trans hkk)
  clear hkk hk
  clear cA2_0 cA2_1 lA2 cZ_0 cZ_1 lZ cT2_0 cT2_1 lT2 cY_0 cY_1 lY
  have cA2_0 : w32.cell? ⟨w.heap.size, 0, none⟩ = some (.bool p2used) := HA2w32.out.cell 0
  have cA2_1 : w32.cell? ⟨w.heap.size, 1, none⟩ = some (.slice p2data_a p2data_b.length p2data_c) := HA2w32.out.cell 1
  have lA2 := HA2w32.out.lt
  have cZ_0 : w32.cell? ⟨BW, 0, none⟩ = some (.int .i64 Wcode) := HZw32.out.cell 0
  have cZ_1 : w32.cell? ⟨BW, 1, none⟩ = some (.slice Wpage_a Wpage_b.length Wpage_c) := HZw32.out.cell 1
  have lZ := HZw32.out.lt
  have cT2_0 : w32.cell? ⟨w29.heap.size, 0, none⟩ = some (.bool X2used) := HT2w32.out.cell 0
  have cT2_1 : w32.cell? ⟨w29.heap.size, 1, none⟩ = some (.slice X2data_a X2data_b.length X2data_c) := HT2w32.out.cell 1
  have lT2 := HT2w32.out.lt
  have cY_0 : w32.cell? ⟨w30.heap.size, 0, none⟩ = some (.int .i64 Gcode) := HYw32.out.cell 0
  have cY_1 : w32.cell? ⟨w30.heap.size, 1, none⟩ = some (.slice Gpage_a Gpage_b.length Gpage_c) := HYw32.out.cell 1
  have lY := HYw32.out.lt
  go_wp2_with fail
  refine (eqByteS_own 0 _ _ bs0 _ (by omega) HX0w32.out HD0w32.out).mono ?_
  rintro e w33 ⟨rfl, nn, hww⟩
  have hk : Same w32 w33 := by rw [hww]; exact (Kept.refl _ _).drewN _
  clear hww
  have hkk : Same w32 w33 := hk
  have hzw33 := hkk.size
  have HA2w33 := (show Hid (Blk w33 (w.heap.size) 36 [.bool p2used, .slice p2data_a p2data_b.length p2data_c]) from HA2w32.out.same hkk)
  have HWw33 := (show Hid (OwnL w33 (StPageResult.rows ⟨Wcode, ⟨Wpage_e, Wpage_a, Wpage_c, Wpage_b⟩⟩)) from HWw32.out.same hkk)
  have HZw33 := (show Hid (Blk w33 (BW) 28 [.int .i64 Wcode, .slice Wpage_a Wpage_b.length Wpage_c]) from HZw32.out.same hkk)
  have HX0w33 := (show Hid (Own 0 5 .u8 w33 (.slice (some ⟨gX0, 0, none⟩) bs0.length bs0.length) bs0) from HX0w32.out.same hkk)
  have HX2w33 := (show Hid (OwnL w33 (StPageRecord.rows ⟨X2used, ⟨X2data_e, X2data_a, X2data_c, X2data_b⟩⟩)) from HX2w32.out.same hkk)
  have HT2w33 := (show Hid (Blk w33 (w29.heap.size) 24 [.bool X2used, .slice X2data_a X2data_b.length X2data_c]) from HT2w32.out.same hkk)
  have HGw33 := (show Hid (OwnL w33 (StPageResult.rows ⟨Gcode, ⟨Gpage_e, Gpage_a, Gpage_c, Gpage_b⟩⟩)) from HGw32.out.same hkk)
  have HYw33 := (show Hid (Blk w33 (w30.heap.size) 28 [.int .i64 Gcode, .slice Gpage_a Gpage_b.length Gpage_c]) from HYw32.out.same hkk)
  have HKw33 := (show Hid (Same w w33) from HKw32.out.trans hkk)
  clear hkk hk
  clear cA2_0 cA2_1 lA2 cZ_0 cZ_1 lZ cT2_0 cT2_1 lT2 cY_0 cY_1 lY
  have cA2_0 : w33.cell? ⟨w.heap.size, 0, none⟩ = some (.bool p2used) := HA2w33.out.cell 0
  have cA2_1 : w33.cell? ⟨w.heap.size, 1, none⟩ = some (.slice p2data_a p2data_b.length p2data_c) := HA2w33.out.cell 1
  have lA2 := HA2w33.out.lt
  have cZ_0 : w33.cell? ⟨BW, 0, none⟩ = some (.int .i64 Wcode) := HZw33.out.cell 0
  have cZ_1 : w33.cell? ⟨BW, 1, none⟩ = some (.slice Wpage_a Wpage_b.length Wpage_c) := HZw33.out.cell 1
  have lZ := HZw33.out.lt
  have cT2_0 : w33.cell? ⟨w29.heap.size, 0, none⟩ = some (.bool X2used) := HT2w33.out.cell 0
  have cT2_1 : w33.cell? ⟨w29.heap.size, 1, none⟩ = some (.slice X2data_a X2data_b.length X2data_c) := HT2w33.out.cell 1
  have lT2 := HT2w33.out.lt
  have cY_0 : w33.cell? ⟨w30.heap.size, 0, none⟩ = some (.int .i64 Gcode) := HYw33.out.cell 0
  have cY_1 : w33.cell? ⟨w30.heap.size, 1, none⟩ = some (.slice Gpage_a Gpage_b.length Gpage_c) := HYw33.out.cell 1
  have lY := HYw33.out.lt
  go_wp2_with fail
  go_cut [55] (fun v wc => v = .bool false ∧ Hid (Same w33 wc))
  case first =>
    have HD1 : Hid (Same w w33.drew) := HKw33.out.drew
    have HD2 : Hid (Same w33 w33.drew) := (Kept.refl _ _).drew
    go_region_with (first | (go_at_call 22; refine (toPageRecord_any ⟨p2used, ⟨p2data_e, p2data_a, p2data_c, p2data_b⟩⟩ _ (by omega) (by exact HV2.out.same HD1.out)).mono ?_; rintro e wx7 ⟨⟨zused, ⟨zdata_e, zdata_a, zdata_c, zdata_b⟩⟩, rfl, hd7, _, hf7, ho7, hk7⟩; have HO7 := (show Hid (OwnL wx7 (StPageRecord.rows ⟨zused, ⟨zdata_e, zdata_a, zdata_c, zdata_b⟩⟩)) from ho7); have HQ7 := (show Hid (StPageRecord.dat ⟨zused, ⟨zdata_e, zdata_a, zdata_c, zdata_b⟩⟩ = StPageRecord.dat ⟨p2used, ⟨p2data_e, p2data_a, p2data_c, p2data_b⟩⟩) from hd7); have HK7 : Hid (Same w33 wx7) := HD2.out.trans hk7; clear ho7 hd7 hf7 hk7; dsimp only [StPageRecord.val, BS.v]; have y0 : wx7.cell? ⟨w29.heap.size, 0, none⟩ = some (.bool X2used) := (HT2w33.out.same HK7.out).cell 0; have y1 : wx7.cell? ⟨w29.heap.size, 1, none⟩ = some (.slice X2data_a X2data_b.length X2data_c) := (HT2w33.out.same HK7.out).cell 1) | (go_at_call 25; refine (eqPageRecord_own ⟨X2used, ⟨X2data_e, X2data_a, X2data_c, X2data_b⟩⟩ ⟨zused, ⟨zdata_e, zdata_a, zdata_c, zdata_b⟩⟩ _ (by have h1 := StPageRecord.size_rd (StPageRecord.own_rd HX2w33.out); have h2 := HZX2.out; omega) (HCX2.out.trans HQ7.out.symm) (HX2w33.out.same HK7.out) HO7.out).mono ?_; rintro e wx8 ⟨rfl, hk8⟩))
    all_goals
      have HK8 : Hid (Same w33 wx8) := HK7.out.trans hk8
      clear hk8
      go_wp2_with fail
      go_meet
      case rel => exact ⟨rfl, HK8⟩
  case rest =>
  obtain ⟨rfl, HKC⟩ := hcut
  obtain ⟨w34, hwc⟩ : ∃ x, x = wc := ⟨_, rfl⟩
  subst hwc
  clear cA2_0 cA2_1 lA2 cZ_0 cZ_1 lZ cT2_0 cT2_1 lT2 cY_0 cY_1 lY
  have hkk : Same w33 w34 := HKC.out
  have hzw34 := hkk.size
  have HA2w34 := (show Hid (Blk w34 (w.heap.size) 36 [.bool p2used, .slice p2data_a p2data_b.length p2data_c]) from HA2w33.out.same hkk)
  have HWw34 := (show Hid (OwnL w34 (StPageResult.rows ⟨Wcode, ⟨Wpage_e, Wpage_a, Wpage_c, Wpage_b⟩⟩)) from HWw33.out.same hkk)
  have HZw34 := (show Hid (Blk w34 (BW) 28 [.int .i64 Wcode, .slice Wpage_a Wpage_b.length Wpage_c]) from HZw33.out.same hkk)
  have HX0w34 := (show Hid (Own 0 5 .u8 w34 (.slice (some ⟨gX0, 0, none⟩) bs0.length bs0.length) bs0) from HX0w33.out.same hkk)
  have HX2w34 := (show Hid (OwnL w34 (StPageRecord.rows ⟨X2used, ⟨X2data_e, X2data_a, X2data_c, X2data_b⟩⟩)) from HX2w33.out.same hkk)
  have HT2w34 := (show Hid (Blk w34 (w29.heap.size) 24 [.bool X2used, .slice X2data_a X2data_b.length X2data_c]) from HT2w33.out.same hkk)
  have HGw34 := (show Hid (OwnL w34 (StPageResult.rows ⟨Gcode, ⟨Gpage_e, Gpage_a, Gpage_c, Gpage_b⟩⟩)) from HGw33.out.same hkk)
  have HYw34 := (show Hid (Blk w34 (w30.heap.size) 28 [.int .i64 Gcode, .slice Gpage_a Gpage_b.length Gpage_c]) from HYw33.out.same hkk)
  have HKw34 := (show Hid (Same w w34) from HKw33.out.trans hkk)
  clear hkk
  have hE0 : (0 : Int) ≤ 1 := by omega
  have hE0b : (1 : Int) ≤ 1 := by omega
  have cA2_0 : w34.cell? ⟨w.heap.size, 0, none⟩ = some (.bool p2used) := HA2w34.out.cell 0
  have cA2_1 : w34.cell? ⟨w.heap.size, 1, none⟩ = some (.slice p2data_a p2data_b.length p2data_c) := HA2w34.out.cell 1
  have lA2 := HA2w34.out.lt
  have cZ_0 : w34.cell? ⟨BW, 0, none⟩ = some (.int .i64 Wcode) := HZw34.out.cell 0
  have cZ_1 : w34.cell? ⟨BW, 1, none⟩ = some (.slice Wpage_a Wpage_b.length Wpage_c) := HZw34.out.cell 1
  have lZ := HZw34.out.lt
  have cT2_0 : w34.cell? ⟨w29.heap.size, 0, none⟩ = some (.bool X2used) := HT2w34.out.cell 0
  have cT2_1 : w34.cell? ⟨w29.heap.size, 1, none⟩ = some (.slice X2data_a X2data_b.length X2data_c) := HT2w34.out.cell 1
  have lT2 := HT2w34.out.lt
  have cY_0 : w34.cell? ⟨w30.heap.size, 0, none⟩ = some (.int .i64 Gcode) := HYw34.out.cell 0
  have cY_1 : w34.cell? ⟨w30.heap.size, 1, none⟩ = some (.slice Gpage_a Gpage_b.length Gpage_c) := HYw34.out.cell 1
  have lY := HYw34.out.lt
  go_wp2_with fail
  refine (markByteS_own 0 _ bs0 1 _ (by omega) (by omega) (by omega) HX0w34.out).mono ?_
  rintro e w35 ⟨rfl, _, hk⟩
  obtain ⟨E1, hE⟩ : ∃ E : Int, 1 + (bs0.length : Int) = E := ⟨_, rfl⟩
  have hE1 : 0 ≤ E1 := by omega
  have hE1b : E1 ≤ 7000001 := by omega
  rw [hE]
  clear hE
  have hzw35 := hk.size
  have HA2w35 := (show Hid (Blk w35 (w.heap.size) 36 [.bool p2used, .slice p2data_a p2data_b.length p2data_c]) from HA2w34.out.kept hk (fun e => by have h1 := HFX0.out _ e; omega))
  have HWw35 := (show Hid (OwnL w35 (StPageResult.rows ⟨Wcode, ⟨Wpage_e, Wpage_a, Wpage_c, Wpage_b⟩⟩)) from HWw34.out.kept hk (fun b hb e => by have h1 := HFX0.out _ e; have h2 := HFW.out b hb; omega))
  have HZw35 := (show Hid (Blk w35 (BW) 28 [.int .i64 Wcode, .slice Wpage_a Wpage_b.length Wpage_c]) from HZw34.out.kept hk (fun e => by have h1 := HFX0.out _ e; omega))
  have HX2w35 := (show Hid (OwnL w35 (StPageRecord.rows ⟨X2used, ⟨X2data_e, X2data_a, X2data_c, X2data_b⟩⟩)) from HX2w34.out.kept hk (fun b hb e => by have h1 := HFX0.out _ e; have h2 := HFX2.out b hb; omega))
  have HT2w35 := (show Hid (Blk w35 (w29.heap.size) 24 [.bool X2used, .slice X2data_a X2data_b.length X2data_c]) from HT2w34.out.kept hk (fun e => by have h1 := HFX0.out _ e; omega))
  have HGw35 := (show Hid (OwnL w35 (StPageResult.rows ⟨Gcode, ⟨Gpage_e, Gpage_a, Gpage_c, Gpage_b⟩⟩)) from HGw34.out.kept hk (fun b hb e => by have h1 := HFX0.out _ e; have h2 := HFG.out b hb; omega))
  have HYw35 := (show Hid (Blk w35 (w30.heap.size) 28 [.int .i64 Gcode, .slice Gpage_a Gpage_b.length Gpage_c]) from HYw34.out.kept hk (fun e => by have h1 := HFX0.out _ e; omega))
  have HKw35 := (show Hid (Same w w35) from HKw34.out.next hk (fun b hb e => by have h1 := HFX0.out _ e; omega))
  clear cA2_0 cA2_1 lA2 cZ_0 cZ_1 lZ cT2_0 cT2_1 lT2 cY_0 cY_1 lY
  clear hk
  have hxz2 := StPageRecord.size_rd (StPageRecord.own_rd HX2w35.out)
  have hxy2 := HZX2.out
  have hxx2 := StPageRecord.size_le ⟨X2used, ⟨X2data_e, X2data_a, X2data_c, X2data_b⟩⟩
  obtain ⟨E2, hE⟩ : ∃ E, E1 + StPageRecord.size ⟨X2used, ⟨X2data_e, X2data_a, X2data_c, X2data_b⟩⟩ = E := ⟨_, rfl⟩
  have hE2 : 0 ≤ E2 := by omega
  have hE2b : E2 ≤ 14000001 := by omega
  have HE2 := (show Hid (E1 + StPageRecord.size ⟨X2used, ⟨X2data_e, X2data_a, X2data_c, X2data_b⟩⟩ = E2) from hE)
  clear hE hxz2 hxy2 hxx2
  have cA2_0 : w35.cell? ⟨w.heap.size, 0, none⟩ = some (.bool p2used) := HA2w35.out.cell 0
  have cA2_1 : w35.cell? ⟨w.heap.size, 1, none⟩ = some (.slice p2data_a p2data_b.length p2data_c) := HA2w35.out.cell 1
  have lA2 := HA2w35.out.lt
  have cZ_0 : w35.cell? ⟨BW, 0, none⟩ = some (.int .i64 Wcode) := HZw35.out.cell 0
  have cZ_1 : w35.cell? ⟨BW, 1, none⟩ = some (.slice Wpage_a Wpage_b.length Wpage_c) := HZw35.out.cell 1
  have lZ := HZw35.out.lt
  have cT2_0 : w35.cell? ⟨w29.heap.size, 0, none⟩ = some (.bool X2used) := HT2w35.out.cell 0
  have cT2_1 : w35.cell? ⟨w29.heap.size, 1, none⟩ = some (.slice X2data_a X2data_b.length X2data_c) := HT2w35.out.cell 1
  have lT2 := HT2w35.out.lt
  have cY_0 : w35.cell? ⟨w30.heap.size, 0, none⟩ = some (.int .i64 Gcode) := HYw35.out.cell 0
  have cY_1 : w35.cell? ⟨w30.heap.size, 1, none⟩ = some (.slice Gpage_a Gpage_b.length Gpage_c) := HYw35.out.cell 1
  have lY := HYw35.out.lt
  go_wp2_with fail
  have hm := markPageRecord_own ⟨X2used, ⟨X2data_e, X2data_a, X2data_c, X2data_b⟩⟩ E1 w35 (by omega) (by rw [HE2.out]; omega) HX2w35.out
  rw [HE2.out] at hm
  dsimp only [StPageRecord.val, BS.v] at hm
  refine hm.mono ?_
  clear hm
  rintro e w36 ⟨rfl, _, hk⟩
  have hzw36 := hk.size
  have HA2w36 := (show Hid (Blk w36 (w.heap.size) 36 [.bool p2used, .slice p2data_a p2data_b.length p2data_c]) from HA2w35.out.kept hk (fun e => by have h1 := HFX2.out _ e; omega))
  have HWw36 := (show Hid (OwnL w36 (StPageResult.rows ⟨Wcode, ⟨Wpage_e, Wpage_a, Wpage_c, Wpage_b⟩⟩)) from HWw35.out.kept hk (fun b hb e => by have h1 := HFX2.out _ e; have h2 := HFW.out b hb; omega))
  have HZw36 := (show Hid (Blk w36 (BW) 28 [.int .i64 Wcode, .slice Wpage_a Wpage_b.length Wpage_c]) from HZw35.out.kept hk (fun e => by have h1 := HFX2.out _ e; omega))
  have HT2w36 := (show Hid (Blk w36 (w29.heap.size) 24 [.bool X2used, .slice X2data_a X2data_b.length X2data_c]) from HT2w35.out.kept hk (fun e => by have h1 := HFX2.out _ e; omega))
  have HGw36 := (show Hid (OwnL w36 (StPageResult.rows ⟨Gcode, ⟨Gpage_e, Gpage_a, Gpage_c, Gpage_b⟩⟩)) from HGw35.out.kept hk (fun b hb e => by have h1 := HFX2.out _ e; have h2 := HFG.out b hb; omega))
  have HYw36 := (show Hid (Blk w36 (w30.heap.size) 28 [.int .i64 Gcode, .slice Gpage_a Gpage_b.length Gpage_c]) from HYw35.out.kept hk (fun e => by have h1 := HFX2.out _ e; omega))
  have HKw36 := (show Hid (Same w w36) from HKw35.out.next hk (fun b hb e => by have h1 := HFX2.out _ e; omega))
  clear cA2_0 cA2_1 lA2 cZ_0 cZ_1 lZ cT2_0 cT2_1 lT2 cY_0 cY_1 lY
  clear hk
  have hEn : ¬ E2 < 0 := by omega
  have cA2_0 : w36.cell? ⟨w.heap.size, 0, none⟩ = some (.bool p2used) := HA2w36.out.cell 0
  have cA2_1 : w36.cell? ⟨w.heap.size, 1, none⟩ = some (.slice p2data_a p2data_b.length p2data_c) := HA2w36.out.cell 1
  have lA2 := HA2w36.out.lt
  have cZ_0 : w36.cell? ⟨BW, 0, none⟩ = some (.int .i64 Wcode) := HZw36.out.cell 0
  have cZ_1 : w36.cell? ⟨BW, 1, none⟩ = some (.slice Wpage_a Wpage_b.length Wpage_c) := HZw36.out.cell 1
  have lZ := HZw36.out.lt
  have cY_0 : w36.cell? ⟨w30.heap.size, 0, none⟩ = some (.int .i64 Gcode) := HYw36.out.cell 0
  have cY_1 : w36.cell? ⟨w30.heap.size, 1, none⟩ = some (.slice Gpage_a Gpage_b.length Gpage_c) := HYw36.out.cell 1
  have lY := HYw36.out.lt
  go_wp2_with fail
  refine (eqPageResult_own ⟨Gcode, ⟨Gpage_e, Gpage_a, Gpage_c, Gpage_b⟩⟩ ⟨Wcode, ⟨Wpage_e, Wpage_a, Wpage_c, Wpage_b⟩⟩ _ (by omega) (HDG.out.trans HDW.out.symm) HGw36.out HWw36.out).mono ?_
  rintro e w37 ⟨rfl, hk⟩
  have hkk : Same w36 w37 := hk
  have hzw37 := hkk.size
  have HA2w37 := (show Hid (Blk w37 (w.heap.size) 36 [.bool p2used, .slice p2data_a p2data_b.length p2data_c]) from HA2w36.out.same hkk)
  have HWw37 := (show Hid (OwnL w37 (StPageResult.rows ⟨Wcode, ⟨Wpage_e, Wpage_a, Wpage_c, Wpage_b⟩⟩)) from HWw36.out.same hkk)
  have HZw37 := (show Hid (Blk w37 (BW) 28 [.int .i64 Wcode, .slice Wpage_a Wpage_b.length Wpage_c]) from HZw36.out.same hkk)
  have HGw37 := (show Hid (OwnL w37 (StPageResult.rows ⟨Gcode, ⟨Gpage_e, Gpage_a, Gpage_c, Gpage_b⟩⟩)) from HGw36.out.same hkk)
  have HYw37 := (show Hid (Blk w37 (w30.heap.size) 28 [.int .i64 Gcode, .slice Gpage_a Gpage_b.length Gpage_c]) from HYw36.out.same hkk)
  have HKw37 := (show Hid (Same w w37) from HKw36.out.trans hkk)
  clear hkk hk
  clear cA2_0 cA2_1 lA2 cZ_0 cZ_1 lZ cY_0 cY_1 lY
  have hM2 : ¬ (1 + StPageResult.size ⟨Gcode, ⟨Gpage_e, Gpage_a, Gpage_c, Gpage_b⟩⟩) < 0 := by omega
  obtain ⟨M, hM⟩ : ∃ M, 1 + StPageResult.size ⟨Gcode, ⟨Gpage_e, Gpage_a, Gpage_c, Gpage_b⟩⟩ = M := ⟨_, rfl⟩
  have HM := (show Hid (1 + StPageResult.size ⟨Gcode, ⟨Gpage_e, Gpage_a, Gpage_c, Gpage_b⟩⟩ = M) from hM)
  have hM3 : 0 ≤ M ∧ M ≤ 1125899906842624 := by omega
  rw [hM] at hM2
  clear hM
  have cA2_0 : w37.cell? ⟨w.heap.size, 0, none⟩ = some (.bool p2used) := HA2w37.out.cell 0
  have cA2_1 : w37.cell? ⟨w.heap.size, 1, none⟩ = some (.slice p2data_a p2data_b.length p2data_c) := HA2w37.out.cell 1
  have lA2 := HA2w37.out.lt
  have cZ_0 : w37.cell? ⟨BW, 0, none⟩ = some (.int .i64 Wcode) := HZw37.out.cell 0
  have cZ_1 : w37.cell? ⟨BW, 1, none⟩ = some (.slice Wpage_a Wpage_b.length Wpage_c) := HZw37.out.cell 1
  have lZ := HZw37.out.lt
  have cY_0 : w37.cell? ⟨w30.heap.size, 0, none⟩ = some (.int .i64 Gcode) := HYw37.out.cell 0
  have cY_1 : w37.cell? ⟨w30.heap.size, 1, none⟩ = some (.slice Gpage_a Gpage_b.length Gpage_c) := HYw37.out.cell 1
  have lY := HYw37.out.lt
  go_wp2_with fail
  have hm := markPageResult_own ⟨Gcode, ⟨Gpage_e, Gpage_a, Gpage_c, Gpage_b⟩⟩ 1 w37 (by omega) (by rw [HM.out]; omega) HGw37.out
  rw [HM.out] at hm
  dsimp only [StPageResult.val, BS.v] at hm
  refine hm.mono ?_
  clear hm
  rintro e w38 ⟨rfl, ho, hk⟩
  have hzw38 := hk.size
  have HA2w38 := (show Hid (Blk w38 (w.heap.size) 36 [.bool p2used, .slice p2data_a p2data_b.length p2data_c]) from HA2w37.out.kept hk (fun e => by have h1 := HFG.out _ e; omega))
  have HWw38 := (show Hid (OwnL w38 (StPageResult.rows ⟨Wcode, ⟨Wpage_e, Wpage_a, Wpage_c, Wpage_b⟩⟩)) from HWw37.out.kept hk (fun b hb e => by have h1 := HFG.out _ e; have h2 := HFW.out b hb; omega))
  have HZw38 := (show Hid (Blk w38 (BW) 28 [.int .i64 Wcode, .slice Wpage_a Wpage_b.length Wpage_c]) from HZw37.out.kept hk (fun e => by have h1 := HFG.out _ e; omega))
  have HYw38 := (show Hid (Blk w38 (w30.heap.size) 28 [.int .i64 Gcode, .slice Gpage_a Gpage_b.length Gpage_c]) from HYw37.out.kept hk (fun e => by have h1 := HFG.out _ e; omega))
  have HKw38 := (show Hid (Same w w38) from HKw37.out.next hk (fun b hb e => by have h1 := HFG.out _ e; omega))
  have HUw38 := (show Hid (OwnL w38 (StPageResult.marked ⟨Gcode, ⟨Gpage_e, Gpage_a, Gpage_c, Gpage_b⟩⟩ 1).rows) from ho)
  clear cA2_0 cA2_1 lA2 cZ_0 cZ_1 lZ cY_0 cY_1 lY
  clear hk ho
  have HFU := (show Hid (∀ b, FootL (StPageResult.marked ⟨Gcode, ⟨Gpage_e, Gpage_a, Gpage_c, Gpage_b⟩⟩ 1).rows b → _ ∧ _) from fun b hb => HFG.out b ((StPageResult.foot_marked _ _ b).1 hb))
  have cA2_0 : w38.cell? ⟨w.heap.size, 0, none⟩ = some (.bool p2used) := HA2w38.out.cell 0
  have cA2_1 : w38.cell? ⟨w.heap.size, 1, none⟩ = some (.slice p2data_a p2data_b.length p2data_c) := HA2w38.out.cell 1
  have lA2 := HA2w38.out.lt
  have cZ_0 : w38.cell? ⟨BW, 0, none⟩ = some (.int .i64 Wcode) := HZw38.out.cell 0
  have cZ_1 : w38.cell? ⟨BW, 1, none⟩ = some (.slice Wpage_a Wpage_b.length Wpage_c) := HZw38.out.cell 1
  have lZ := HZw38.out.lt
  have cY_0 : w38.cell? ⟨w30.heap.size, 0, none⟩ = some (.int .i64 Gcode) := HYw38.out.cell 0
  have cY_1 : w38.cell? ⟨w30.heap.size, 1, none⟩ = some (.slice Gpage_a Gpage_b.length Gpage_c) := HYw38.out.cell 1
  have lY := HYw38.out.lt
  go_wp2_with fail
  have hm := heldPageResult_own ⟨Gcode, ⟨Gpage_e, Gpage_a, Gpage_c, Gpage_b⟩⟩ 1 w38 (by omega) (by rw [HM.out]; omega) HUw38.out
  rw [HM.out] at hm
  dsimp only [StPageResult.val, BS.v] at hm
  refine hm.mono ?_
  clear hm
  rintro e w39 ⟨rfl, hk⟩
  have hkk : Same w38 w39 := hk
  have hzw39 := hkk.size
  have HA2w39 := (show Hid (Blk w39 (w.heap.size) 36 [.bool p2used, .slice p2data_a p2data_b.length p2data_c]) from HA2w38.out.same hkk)
  have HWw39 := (show Hid (OwnL w39 (StPageResult.rows ⟨Wcode, ⟨Wpage_e, Wpage_a, Wpage_c, Wpage_b⟩⟩)) from HWw38.out.same hkk)
  have HZw39 := (show Hid (Blk w39 (BW) 28 [.int .i64 Wcode, .slice Wpage_a Wpage_b.length Wpage_c]) from HZw38.out.same hkk)
  have HYw39 := (show Hid (Blk w39 (w30.heap.size) 28 [.int .i64 Gcode, .slice Gpage_a Gpage_b.length Gpage_c]) from HYw38.out.same hkk)
  have HUw39 := (show Hid (OwnL w39 (StPageResult.marked ⟨Gcode, ⟨Gpage_e, Gpage_a, Gpage_c, Gpage_b⟩⟩ 1).rows) from HUw38.out.same hkk)
  have HKw39 := (show Hid (Same w w39) from HKw38.out.trans hkk)
  clear hkk hk
  clear cA2_0 cA2_1 lA2 cZ_0 cZ_1 lZ cY_0 cY_1 lY
  have cA2_0 : w39.cell? ⟨w.heap.size, 0, none⟩ = some (.bool p2used) := HA2w39.out.cell 0
  have cA2_1 : w39.cell? ⟨w.heap.size, 1, none⟩ = some (.slice p2data_a p2data_b.length p2data_c) := HA2w39.out.cell 1
  have lA2 := HA2w39.out.lt
  have cZ_0 : w39.cell? ⟨BW, 0, none⟩ = some (.int .i64 Wcode) := HZw39.out.cell 0
  have cZ_1 : w39.cell? ⟨BW, 1, none⟩ = some (.slice Wpage_a Wpage_b.length Wpage_c) := HZw39.out.cell 1
  have lZ := HZw39.out.lt
  have cY_0 : w39.cell? ⟨w30.heap.size, 0, none⟩ = some (.int .i64 Gcode) := HYw39.out.cell 0
  have cY_1 : w39.cell? ⟨w30.heap.size, 1, none⟩ = some (.slice Gpage_a Gpage_b.length Gpage_c) := HYw39.out.cell 1
  have lY := HYw39.out.lt
  go_wp2_with fail
  clear cA2_0 cA2_1 lA2 cZ_0 cZ_1 lZ cY_0 cY_1 lY
  go_cut [17] (fun v wc => Hid (PRes w39 wc (pageSetD bs0 s1 (StPageRecord.dat ⟨p2used, ⟨p2data_e, p2data_a, p2data_c, p2data_b⟩⟩) s3) v))
  case first =>
    refine wp_region_V (fun wx : World => wx.cell? ⟨w.heap.size, 0, none⟩ = some (.bool p2used) ∧ wx.cell? ⟨w.heap.size, 1, none⟩ = some (.slice p2data_a p2data_b.length p2data_c)) 8 9 rfl (by kernel_rfl) ?_
    have HQQw39 : Hid (SameP w39 w39) := Kept.refl _ _
    generalize hwd : World.drew w39 = w40
    have hk : Same w39 w40 := by rw [← hwd]; exact (Kept.refl _ _).drew
    clear hwd
    have hkk : Same w39 w40 := hk
    have hzw40 := hkk.size
    have HA2w40 := (show Hid (Blk w40 (w.heap.size) 36 [.bool p2used, .slice p2data_a p2data_b.length p2data_c]) from HA2w39.out.same hkk)
    have HWw40 := (show Hid (OwnL w40 (StPageResult.rows ⟨Wcode, ⟨Wpage_e, Wpage_a, Wpage_c, Wpage_b⟩⟩)) from HWw39.out.same hkk)
    have HZw40 := (show Hid (Blk w40 (BW) 28 [.int .i64 Wcode, .slice Wpage_a Wpage_b.length Wpage_c]) from HZw39.out.same hkk)
    have HYw40 := (show Hid (Blk w40 (w30.heap.size) 28 [.int .i64 Gcode, .slice Gpage_a Gpage_b.length Gpage_c]) from HYw39.out.same hkk)
    have HUw40 := (show Hid (OwnL w40 (StPageResult.marked ⟨Gcode, ⟨Gpage_e, Gpage_a, Gpage_c, Gpage_b⟩⟩ 1).rows) from HUw39.out.same hkk)
    have HQQw40 := (show Hid (SameP w39 w40) from HQQw39.out.same hkk)
    have HKw40 := (show Hid (Same w w40) from HKw39.out.trans hkk)
    clear hkk hk
    have hS : (fun wx : World => wx.cell? ⟨w.heap.size, 0, none⟩ = some (.bool p2used) ∧ wx.cell? ⟨w.heap.size, 1, none⟩ = some (.slice p2data_a p2data_b.length p2data_c)) w40 := ⟨HA2w40.out.cell 0, HA2w40.out.cell 1⟩
    refine tk 0 81 hS ?_
    refine tk 2 83 hS ?_
    refine tk 3 84 hS ?_
    refine tk 5 86 hS ?_
    refine wpAnyV_two (i := 1) (j := 7) (by kernel_rfl) rfl rfl (fun K hK => ?_) (fun K hK => ?_)
    ·
      go_simp
      refine (toByteS_any _ bs0 _ (by omega) (HV0.out.same HKw40.out)).mono ?_
      rintro e w41 ⟨gJ0, rfl, hf, ho, hk⟩
      have hf : ∀ b, (Value.slice (some ⟨gJ0, 0, none⟩) bs0.length bs0.length).ownBlock = some b → _ ≤ b := fun b hb => by rw [← (Option.some.inj hb : gJ0 = b)]; exact hf
      have HFJ0 := (show Hid (∀ b, (Value.slice (some ⟨gJ0, 0, none⟩) bs0.length bs0.length).ownBlock = some b → w40.heap.size ≤ b ∧ b < w41.heap.size) from fun b hb => ⟨hf b hb, (ho.lt b hb).2⟩)
      have HJ0w41 := (show Hid (Own 0 5 .u8 w41 (.slice (some ⟨gJ0, 0, none⟩) bs0.length bs0.length) bs0) from ho)
      clear hf ho
      have hkk : Same w40 w41 := hk
      have hzw41 := hkk.size
      have HA2w41 := (show Hid (Blk w41 (w.heap.size) 36 [.bool p2used, .slice p2data_a p2data_b.length p2data_c]) from HA2w40.out.same hkk)
      have HWw41 := (show Hid (OwnL w41 (StPageResult.rows ⟨Wcode, ⟨Wpage_e, Wpage_a, Wpage_c, Wpage_b⟩⟩)) from HWw40.out.same hkk)
      have HZw41 := (show Hid (Blk w41 (BW) 28 [.int .i64 Wcode, .slice Wpage_a Wpage_b.length Wpage_c]) from HZw40.out.same hkk)
      have HYw41 := (show Hid (Blk w41 (w30.heap.size) 28 [.int .i64 Gcode, .slice Gpage_a Gpage_b.length Gpage_c]) from HYw40.out.same hkk)
      have HUw41 := (show Hid (OwnL w41 (StPageResult.marked ⟨Gcode, ⟨Gpage_e, Gpage_a, Gpage_c, Gpage_b⟩⟩ 1).rows) from HUw40.out.same hkk)
      have HQQw41 := (show Hid (SameP w39 w41) from HQQw40.out.same hkk)
      have HKw41 := (show Hid (Same w w41) from HKw40.out.trans hkk)
      clear hkk hk
      have hS : (fun wx : World => wx.cell? ⟨w.heap.size, 0, none⟩ = some (.bool p2used) ∧ wx.cell? ⟨w.heap.size, 1, none⟩ = some (.slice p2data_a p2data_b.length p2data_c)) w41 := ⟨HA2w41.out.cell 0, HA2w41.out.cell 1⟩
      refine hK.out _ _ (fun _ => hS) ?_
      clear hK K
      try simp only [Act.put, sA, s0, sS]
      refine wpAnyV_two (i := 4) (j := 7) (by kernel_rfl) rfl rfl (fun K hK => ?_) (fun K hK => ?_)
      ·
        go_simp
        refine (toPageRecord_any ⟨p2used, ⟨p2data_e, p2data_a, p2data_c, p2data_b⟩⟩ _ (by omega) (HV2.out.same HKw41.out)).mono ?_
        rintro e w42 ⟨⟨J2used, ⟨J2data_e, J2data_a, J2data_c, J2data_b⟩⟩, rfl, hd, hz, hf, ho, hk⟩
        have HCJ2 := (show Hid (StPageRecord.dat ⟨J2used, ⟨J2data_e, J2data_a, J2data_c, J2data_b⟩⟩ = StPageRecord.dat ⟨p2used, ⟨p2data_e, p2data_a, p2data_c, p2data_b⟩⟩) from hd)
        have HZJ2 := (show Hid (StPageRecord.szs ⟨J2used, ⟨J2data_e, J2data_a, J2data_c, J2data_b⟩⟩ = StPageRecord.szs ⟨p2used, ⟨p2data_e, p2data_a, p2data_c, p2data_b⟩⟩) from hz)
        clear hd hz
        dsimp only [StPageRecord.val, BS.v]
        have HFJ2 := (show Hid (∀ b, FootL (StPageRecord.rows ⟨J2used, ⟨J2data_e, J2data_a, J2data_c, J2data_b⟩⟩) b → w41.heap.size ≤ b ∧ b < w42.heap.size) from fun b hb => ⟨hf b hb, ho.lt b hb⟩)
        have HJ2w42 := (show Hid (OwnL w42 (StPageRecord.rows ⟨J2used, ⟨J2data_e, J2data_a, J2data_c, J2data_b⟩⟩)) from ho)
        clear hf ho
        have hkk : Same w41 w42 := hk
        have hzw42 := hkk.size
        have HA2w42 := (show Hid (Blk w42 (w.heap.size) 36 [.bool p2used, .slice p2data_a p2data_b.length p2data_c]) from HA2w41.out.same hkk)
        have HWw42 := (show Hid (OwnL w42 (StPageResult.rows ⟨Wcode, ⟨Wpage_e, Wpage_a, Wpage_c, Wpage_b⟩⟩)) from HWw41.out.same hkk)
        have HZw42 := (show Hid (Blk w42 (BW) 28 [.int .i64 Wcode, .slice Wpage_a Wpage_b.length Wpage_c]) from HZw41.out.same hkk)
        have HYw42 := (show Hid (Blk w42 (w30.heap.size) 28 [.int .i64 Gcode, .slice Gpage_a Gpage_b.length Gpage_c]) from HYw41.out.same hkk)
        have HUw42 := (show Hid (OwnL w42 (StPageResult.marked ⟨Gcode, ⟨Gpage_e, Gpage_a, Gpage_c, Gpage_b⟩⟩ 1).rows) from HUw41.out.same hkk)
        have HQQw42 := (show Hid (SameP w39 w42) from HQQw41.out.same hkk)
        have HJ0w42 := (show Hid (Own 0 5 .u8 w42 (.slice (some ⟨gJ0, 0, none⟩) bs0.length bs0.length) bs0) from HJ0w41.out.same hkk)
        have HKw42 := (show Hid (Same w w42) from HKw41.out.trans hkk)
        clear hkk hk
        have hS : (fun wx : World => wx.cell? ⟨w.heap.size, 0, none⟩ = some (.bool p2used) ∧ wx.cell? ⟨w.heap.size, 1, none⟩ = some (.slice p2data_a p2data_b.length p2data_c)) w42 := ⟨HA2w42.out.cell 0, HA2w42.out.cell 1⟩
        refine hK.out _ _ (fun _ => hS) ?_
        clear hK K
        try simp only [Act.put, sA, s0, sS]
        refine wpAnyV_two (i := 6) (j := 7) (by kernel_rfl) rfl rfl (fun K hK => ?_) (fun K hK => ?_)
        ·
          go_simp
          refine (implSetL_any _ bs0 s1 ⟨J2used, ⟨J2data_e, J2data_a, J2data_c, J2data_b⟩⟩ s3 _ HB0.out (by omega) (HJ0w42.out.rd) (StPageRecord.isB_dat HCJ2.out HB2.out) (by have := HZJ2.out; omega) (StPageRecord.own_rd HJ2w42.out)).mono ?_
          rintro e w43 ⟨⟨Lcode, ⟨Lpage_e, Lpage_a, Lpage_c, Lpage_b⟩⟩, rfl, hd, hf, ho, hk⟩
          rw [HCJ2.out] at hd
          have hnL : StPageResult.size ⟨Lcode, ⟨Lpage_e, Lpage_a, Lpage_c, Lpage_b⟩⟩ ≤ 1099511627776 := pageSetD_small HB0.out HB2.out hd
          have hnL0 := StPageResult.size_le ⟨Lcode, ⟨Lpage_e, Lpage_a, Lpage_c, Lpage_b⟩⟩
          have HDL := (show Hid (StPageResult.dat ⟨Lcode, ⟨Lpage_e, Lpage_a, Lpage_c, Lpage_b⟩⟩ = pageSetD bs0 s1 (StPageRecord.dat ⟨p2used, ⟨p2data_e, p2data_a, p2data_c, p2data_b⟩⟩) s3) from hd)
          dsimp only [StPageResult.val, BS.v]
          have HFL := (show Hid (∀ b, FootL (StPageResult.rows ⟨Lcode, ⟨Lpage_e, Lpage_a, Lpage_c, Lpage_b⟩⟩) b → w42.heap.size ≤ b ∧ b < w43.heap.size) from fun b hb => ⟨hf b hb, ho.lt b hb⟩)
          have HLw43 := (show Hid (OwnL w43 (StPageResult.rows ⟨Lcode, ⟨Lpage_e, Lpage_a, Lpage_c, Lpage_b⟩⟩)) from ho)
          clear hd hf ho
          have hkk : Same w42 w43 := hk
          have hzw43 := hkk.size
          have HA2w43 := (show Hid (Blk w43 (w.heap.size) 36 [.bool p2used, .slice p2data_a p2data_b.length p2data_c]) from HA2w42.out.same hkk)
          have HWw43 := (show Hid (OwnL w43 (StPageResult.rows ⟨Wcode, ⟨Wpage_e, Wpage_a, Wpage_c, Wpage_b⟩⟩)) from HWw42.out.same hkk)
          have HZw43 := (show Hid (Blk w43 (BW) 28 [.int .i64 Wcode, .slice Wpage_a Wpage_b.length Wpage_c]) from HZw42.out.same hkk)
          have HYw43 := (show Hid (Blk w43 (w30.heap.size) 28 [.int .i64 Gcode, .slice Gpage_a Gpage_b.length Gpage_c]) from HYw42.out.same hkk)
          have HUw43 := (show Hid (OwnL w43 (StPageResult.marked ⟨Gcode, ⟨Gpage_e, Gpage_a, Gpage_c, Gpage_b⟩⟩ 1).rows) from HUw42.out.same hkk)
          have HQQw43 := (show Hid (SameP w39 w43) from HQQw42.out.same hkk)
          have HJ0w43 := (show Hid (Own 0 5 .u8 w43 (.slice (some ⟨gJ0, 0, none⟩) bs0.length bs0.length) bs0) from HJ0w42.out.same hkk)
          have HJ2w43 := (show Hid (OwnL w43 (StPageRecord.rows ⟨J2used, ⟨J2data_e, J2data_a, J2data_c, J2data_b⟩⟩)) from HJ2w42.out.same hkk)
          have HKw43 := (show Hid (Same w w43) from HKw42.out.trans hkk)
          clear hkk hk
          have hS : (fun wx : World => wx.cell? ⟨w.heap.size, 0, none⟩ = some (.bool p2used) ∧ wx.cell? ⟨w.heap.size, 1, none⟩ = some (.slice p2data_a p2data_b.length p2data_c)) w43 := ⟨HA2w43.out.cell 0, HA2w43.out.cell 1⟩
          refine hK.out _ _ (fun _ => hS) ?_
          clear hK K
          try simp only [Act.put, sA, s0, sS]
          refine wpAnyV_one (i := 7) (by kernel_rfl) rfl (fun K hK => ?_)
          go_simp
          generalize hwd : (w43.alloc (.cells #[.int .i64 0, .slice none 0 0] 28)) = w44
          have hk : Same (w43.alloc (.cells #[.int .i64 0, .slice none 0 0] 28)) w44 := by rw [← hwd]; exact Kept.refl _ _
          clear hwd
          have hkk : Same w43 w44 := ((Kept.refl _ _).alloc _).trans hk
          have hzw44 := hk.size
          rw [World.size_alloc] at hzw44
          have HA2w44 := (show Hid (Blk w44 (w.heap.size) 36 [.bool p2used, .slice p2data_a p2data_b.length p2data_c]) from HA2w43.out.same hkk)
          have HWw44 := (show Hid (OwnL w44 (StPageResult.rows ⟨Wcode, ⟨Wpage_e, Wpage_a, Wpage_c, Wpage_b⟩⟩)) from HWw43.out.same hkk)
          have HZw44 := (show Hid (Blk w44 (BW) 28 [.int .i64 Wcode, .slice Wpage_a Wpage_b.length Wpage_c]) from HZw43.out.same hkk)
          have HYw44 := (show Hid (Blk w44 (w30.heap.size) 28 [.int .i64 Gcode, .slice Gpage_a Gpage_b.length Gpage_c]) from HYw43.out.same hkk)
          have HUw44 := (show Hid (OwnL w44 (StPageResult.marked ⟨Gcode, ⟨Gpage_e, Gpage_a, Gpage_c, Gpage_b⟩⟩ 1).rows) from HUw43.out.same hkk)
          have HQQw44 := (show Hid (SameP w39 w44) from HQQw43.out.same hkk)
          have HJ0w44 := (show Hid (Own 0 5 .u8 w44 (.slice (some ⟨gJ0, 0, none⟩) bs0.length bs0.length) bs0) from HJ0w43.out.same hkk)
          have HJ2w44 := (show Hid (OwnL w44 (StPageRecord.rows ⟨J2used, ⟨J2data_e, J2data_a, J2data_c, J2data_b⟩⟩)) from HJ2w43.out.same hkk)
          have HLw44 := (show Hid (OwnL w44 (StPageResult.rows ⟨Lcode, ⟨Lpage_e, Lpage_a, Lpage_c, Lpage_b⟩⟩)) from HLw43.out.same hkk)
          have HVw44 := (show Hid (Blk w44 (w43.heap.size) 28 [.int .i64 0, .slice none 0 0]) from (Blk.new w43 #[.int .i64 0, .slice none 0 0] 28).same hk)
          have HKw44 := (show Hid (Same w w44) from HKw43.out.trans hkk)
          clear hkk hk
          have hS : (fun wx : World => wx.cell? ⟨w.heap.size, 0, none⟩ = some (.bool p2used) ∧ wx.cell? ⟨w.heap.size, 1, none⟩ = some (.slice p2data_a p2data_b.length p2data_c)) w44 := ⟨HA2w44.out.cell 0, HA2w44.out.cell 1⟩
          refine hK.out _ _ (fun _ => hS) ?_
          clear hK K
          try simp only [Act.put, sA, s0, sS]
          obtain ⟨z0, z1⟩ := HVw44.out.all2
          have fz := HVw44.out.frozen
          refine wpAnyV_one (i := 8) (by kernel_rfl) rfl (fun K hK => ?_)
          go_simp
          refine hK.out _ _ (fun h => absurd rfl h) ?_
          clear hK K
          refine wpAnyV_done (by kernel_rfl) ?_
          try simp only [Act.put, sA, s0, sS]
          have hk6 : Kept (fun b => b = w43.heap.size) w44 ((w44.setCell ⟨w43.heap.size, 0, none⟩ (.int .i64 Lcode)).setCell ⟨w43.heap.size, 1, none⟩ (.slice Lpage_a Lpage_b.length Lpage_c)) := Kept.setCell (R := fun b => b = w43.heap.size) (Kept.setCell (R := fun b => b = w43.heap.size) (Kept.refl _ _) (p := ⟨w43.heap.size, 0, none⟩) (.inr rfl) _) (p := ⟨w43.heap.size, 1, none⟩) (.inr rfl) _
          have hB6 := (HVw44.out.stored 0 (.int .i64 Lcode)).stored 1 (.slice Lpage_a Lpage_b.length Lpage_c)
          have HZ6 := (show Hid (PRes w39 ((w44.setCell ⟨w43.heap.size, 0, none⟩ (.int .i64 Lcode)).setCell ⟨w43.heap.size, 1, none⟩ (.slice Lpage_a Lpage_b.length Lpage_c)) (pageSetD bs0 s1 (StPageRecord.dat ⟨p2used, ⟨p2data_e, p2data_a, p2data_c, p2data_b⟩⟩) s3) (.pointer (some ⟨w43.heap.size, 0, none⟩))) from ⟨⟨Lcode, ⟨Lpage_e, Lpage_a, Lpage_c, Lpage_b⟩⟩, w43.heap.size, rfl, by omega, hB6.lt, hB6, HDL.out, fun b hb => by have h1 := HFL.out b hb; omega, HLw44.out.kept hk6 (fun b hb e => by have h1 := HFL.out b hb; omega), Kept.next (HQQw44.out : Same w39 w44) hk6 (fun j hj e => by omega)⟩)
          clear hk6 hB6 hS z0 z1 fz
          go_wp2_with fail
          go_meet
          case rel => exact HZ6
        ·
          go_simp
          generalize hwd : (w42.alloc (.cells #[.int .i64 0, .slice none 0 0] 28)) = w43
          have hk : Same (w42.alloc (.cells #[.int .i64 0, .slice none 0 0] 28)) w43 := by rw [← hwd]; exact Kept.refl _ _
          clear hwd
          have hkk : Same w42 w43 := ((Kept.refl _ _).alloc _).trans hk
          have hzw43 := hk.size
          rw [World.size_alloc] at hzw43
          have HA2w43 := (show Hid (Blk w43 (w.heap.size) 36 [.bool p2used, .slice p2data_a p2data_b.length p2data_c]) from HA2w42.out.same hkk)
          have HWw43 := (show Hid (OwnL w43 (StPageResult.rows ⟨Wcode, ⟨Wpage_e, Wpage_a, Wpage_c, Wpage_b⟩⟩)) from HWw42.out.same hkk)
          have HZw43 := (show Hid (Blk w43 (BW) 28 [.int .i64 Wcode, .slice Wpage_a Wpage_b.length Wpage_c]) from HZw42.out.same hkk)
          have HYw43 := (show Hid (Blk w43 (w30.heap.size) 28 [.int .i64 Gcode, .slice Gpage_a Gpage_b.length Gpage_c]) from HYw42.out.same hkk)
          have HUw43 := (show Hid (OwnL w43 (StPageResult.marked ⟨Gcode, ⟨Gpage_e, Gpage_a, Gpage_c, Gpage_b⟩⟩ 1).rows) from HUw42.out.same hkk)
          have HQQw43 := (show Hid (SameP w39 w43) from HQQw42.out.same hkk)
          have HJ0w43 := (show Hid (Own 0 5 .u8 w43 (.slice (some ⟨gJ0, 0, none⟩) bs0.length bs0.length) bs0) from HJ0w42.out.same hkk)
          have HJ2w43 := (show Hid (OwnL w43 (StPageRecord.rows ⟨J2used, ⟨J2data_e, J2data_a, J2data_c, J2data_b⟩⟩)) from HJ2w42.out.same hkk)
          have HVw43 := (show Hid (Blk w43 (w42.heap.size) 28 [.int .i64 0, .slice none 0 0]) from (Blk.new w42 #[.int .i64 0, .slice none 0 0] 28).same hk)
          have HKw43 := (show Hid (Same w w43) from HKw42.out.trans hkk)
          clear hkk hk
          have hS : (fun wx : World => wx.cell? ⟨w.heap.size, 0, none⟩ = some (.bool p2used) ∧ wx.cell? ⟨w.heap.size, 1, none⟩ = some (.slice p2data_a p2data_b.length p2data_c)) w43 := ⟨HA2w43.out.cell 0, HA2w43.out.cell 1⟩
          refine hK.out _ _ (fun _ => hS) ?_
          clear hK K
          try simp only [Act.put, sA, s0, sS]
          refine wpAnyV_one (i := 6) (by kernel_rfl) rfl (fun K hK => ?_)
          go_simp
          refine (implSetL_any _ bs0 s1 ⟨J2used, ⟨J2data_e, J2data_a, J2data_c, J2data_b⟩⟩ s3 _ HB0.out (by omega) (HJ0w43.out.rd) (StPageRecord.isB_dat HCJ2.out HB2.out) (by have := HZJ2.out; omega) (StPageRecord.own_rd HJ2w43.out)).mono ?_
          rintro e w44 ⟨⟨Lcode, ⟨Lpage_e, Lpage_a, Lpage_c, Lpage_b⟩⟩, rfl, hd, hf, ho, hk⟩
          rw [HCJ2.out] at hd
          have hnL : StPageResult.size ⟨Lcode, ⟨Lpage_e, Lpage_a, Lpage_c, Lpage_b⟩⟩ ≤ 1099511627776 := pageSetD_small HB0.out HB2.out hd
          have hnL0 := StPageResult.size_le ⟨Lcode, ⟨Lpage_e, Lpage_a, Lpage_c, Lpage_b⟩⟩
          have HDL := (show Hid (StPageResult.dat ⟨Lcode, ⟨Lpage_e, Lpage_a, Lpage_c, Lpage_b⟩⟩ = pageSetD bs0 s1 (StPageRecord.dat ⟨p2used, ⟨p2data_e, p2data_a, p2data_c, p2data_b⟩⟩) s3) from hd)
          dsimp only [StPageResult.val, BS.v]
          have HFL := (show Hid (∀ b, FootL (StPageResult.rows ⟨Lcode, ⟨Lpage_e, Lpage_a, Lpage_c, Lpage_b⟩⟩) b → w43.heap.size ≤ b ∧ b < w44.heap.size) from fun b hb => ⟨hf b hb, ho.lt b hb⟩)
          have HLw44 := (show Hid (OwnL w44 (StPageResult.rows ⟨Lcode, ⟨Lpage_e, Lpage_a, Lpage_c, Lpage_b⟩⟩)) from ho)
          clear hd hf ho
          have hkk : Same w43 w44 := hk
          have hzw44 := hkk.size
          have HA2w44 := (show Hid (Blk w44 (w.heap.size) 36 [.bool p2used, .slice p2data_a p2data_b.length p2data_c]) from HA2w43.out.same hkk)
          have HWw44 := (show Hid (OwnL w44 (StPageResult.rows ⟨Wcode, ⟨Wpage_e, Wpage_a, Wpage_c, Wpage_b⟩⟩)) from HWw43.out.same hkk)
          have HZw44 := (show Hid (Blk w44 (BW) 28 [.int .i64 Wcode, .slice Wpage_a Wpage_b.length Wpage_c]) from HZw43.out.same hkk)
          have HYw44 := (show Hid (Blk w44 (w30.heap.size) 28 [.int .i64 Gcode, .slice Gpage_a Gpage_b.length Gpage_c]) from HYw43.out.same hkk)
          have HUw44 := (show Hid (OwnL w44 (StPageResult.marked ⟨Gcode, ⟨Gpage_e, Gpage_a, Gpage_c, Gpage_b⟩⟩ 1).rows) from HUw43.out.same hkk)
          have HQQw44 := (show Hid (SameP w39 w44) from HQQw43.out.same hkk)
          have HJ0w44 := (show Hid (Own 0 5 .u8 w44 (.slice (some ⟨gJ0, 0, none⟩) bs0.length bs0.length) bs0) from HJ0w43.out.same hkk)
          have HJ2w44 := (show Hid (OwnL w44 (StPageRecord.rows ⟨J2used, ⟨J2data_e, J2data_a, J2data_c, J2data_b⟩⟩)) from HJ2w43.out.same hkk)
          have HVw44 := (show Hid (Blk w44 (w42.heap.size) 28 [.int .i64 0, .slice none 0 0]) from HVw43.out.same hkk)
          have HKw44 := (show Hid (Same w w44) from HKw43.out.trans hkk)
          clear hkk hk
          have hS : (fun wx : World => wx.cell? ⟨w.heap.size, 0, none⟩ = some (.bool p2used) ∧ wx.cell? ⟨w.heap.size, 1, none⟩ = some (.slice p2data_a p2data_b.length p2data_c)) w44 := ⟨HA2w44.out.cell 0, HA2w44.out.cell 1⟩
          refine hK.out _ _ (fun _ => hS) ?_
          clear hK K
          try simp only [Act.put, sA, s0, sS]
          obtain ⟨z0, z1⟩ := HVw44.out.all2
          have fz := HVw44.out.frozen
          refine wpAnyV_one (i := 8) (by kernel_rfl) rfl (fun K hK => ?_)
          go_simp
          refine hK.out _ _ (fun h => absurd rfl h) ?_
          clear hK K
          refine wpAnyV_done (by kernel_rfl) ?_
          try simp only [Act.put, sA, s0, sS]
          have hk6 : Kept (fun b => b = w42.heap.size) w44 ((w44.setCell ⟨w42.heap.size, 0, none⟩ (.int .i64 Lcode)).setCell ⟨w42.heap.size, 1, none⟩ (.slice Lpage_a Lpage_b.length Lpage_c)) := Kept.setCell (R := fun b => b = w42.heap.size) (Kept.setCell (R := fun b => b = w42.heap.size) (Kept.refl _ _) (p := ⟨w42.heap.size, 0, none⟩) (.inr rfl) _) (p := ⟨w42.heap.size, 1, none⟩) (.inr rfl) _
          have hB6 := (HVw44.out.stored 0 (.int .i64 Lcode)).stored 1 (.slice Lpage_a Lpage_b.length Lpage_c)
          have HZ6 := (show Hid (PRes w39 ((w44.setCell ⟨w42.heap.size, 0, none⟩ (.int .i64 Lcode)).setCell ⟨w42.heap.size, 1, none⟩ (.slice Lpage_a Lpage_b.length Lpage_c)) (pageSetD bs0 s1 (StPageRecord.dat ⟨p2used, ⟨p2data_e, p2data_a, p2data_c, p2data_b⟩⟩) s3) (.pointer (some ⟨w42.heap.size, 0, none⟩))) from ⟨⟨Lcode, ⟨Lpage_e, Lpage_a, Lpage_c, Lpage_b⟩⟩, w42.heap.size, rfl, by omega, hB6.lt, hB6, HDL.out, fun b hb => by have h1 := HFL.out b hb; omega, HLw44.out.kept hk6 (fun b hb e => by have h1 := HFL.out b hb; omega), Kept.next (HQQw44.out : Same w39 w44) hk6 (fun j hj e => by omega)⟩)
          clear hk6 hB6 hS z0 z1 fz
          go_wp2_with fail
          go_meet
          case rel => exact HZ6
      ·
        go_simp
        generalize hwd : (w41.alloc (.cells #[.int .i64 0, .slice none 0 0] 28)) = w42
        have hk : Same (w41.alloc (.cells #[.int .i64 0, .slice none 0 0] 28)) w42 := by rw [← hwd]; exact Kept.refl _ _
        clear hwd
        have hkk : Same w41 w42 := ((Kept.refl _ _).alloc _).trans hk
        have hzw42 := hk.size
        rw [World.size_alloc] at hzw42
        have HA2w42 := (show Hid (Blk w42 (w.heap.size) 36 [.bool p2used, .slice p2data_a p2data_b.length p2data_c]) from HA2w41.out.same hkk)
        have HWw42 := (show Hid (OwnL w42 (StPageResult.rows ⟨Wcode, ⟨Wpage_e, Wpage_a, Wpage_c, Wpage_b⟩⟩)) from HWw41.out.same hkk)
        have HZw42 := (show Hid (Blk w42 (BW) 28 [.int .i64 Wcode, .slice Wpage_a Wpage_b.length Wpage_c]) from HZw41.out.same hkk)
        have HYw42 := (show Hid (Blk w42 (w30.heap.size) 28 [.int .i64 Gcode, .slice Gpage_a Gpage_b.length Gpage_c]) from HYw41.out.same hkk)
        have HUw42 := (show Hid (OwnL w42 (StPageResult.marked ⟨Gcode, ⟨Gpage_e, Gpage_a, Gpage_c, Gpage_b⟩⟩ 1).rows) from HUw41.out.same hkk)
        have HQQw42 := (show Hid (SameP w39 w42) from HQQw41.out.same hkk)
        have HJ0w42 := (show Hid (Own 0 5 .u8 w42 (.slice (some ⟨gJ0, 0, none⟩) bs0.length bs0.length) bs0) from HJ0w41.out.same hkk)
        have HVw42 := (show Hid (Blk w42 (w41.heap.size) 28 [.int .i64 0, .slice none 0 0]) from (Blk.new w41 #[.int .i64 0, .slice none 0 0] 28).same hk)
        have HKw42 := (show Hid (Same w w42) from HKw41.out.trans hkk)
        clear hkk hk
        have hS : (fun wx : World => wx.cell? ⟨w.heap.size, 0, none⟩ = some (.bool p2used) ∧ wx.cell? ⟨w.heap.size, 1, none⟩ = some (.slice p2data_a p2data_b.length p2data_c)) w42 := ⟨HA2w42.out.cell 0, HA2w42.out.cell 1⟩
        refine hK.out _ _ (fun _ => hS) ?_
        clear hK K
        try simp only [Act.put, sA, s0, sS]
        refine wpAnyV_one (i := 4) (by kernel_rfl) rfl (fun K hK => ?_)
        go_simp
        refine (toPageRecord_any ⟨p2used, ⟨p2data_e, p2data_a, p2data_c, p2data_b⟩⟩ _ (by omega) (HV2.out.same HKw42.out)).mono ?_
        rintro e w43 ⟨⟨J2used, ⟨J2data_e, J2data_a, J2data_c, J2data_b⟩⟩, rfl, hd, hz, hf, ho, hk⟩
        have HCJ2 := (show Hid (StPageRecord.dat ⟨J2used, ⟨J2data_e, J2data_a, J2data_c, J2data_b⟩⟩ = StPageRecord.dat ⟨p2used, ⟨p2data_e, p2data_a, p2data_c, p2data_b⟩⟩) from hd)
        have HZJ2 := (show Hid (StPageRecord.szs ⟨J2used, ⟨J2data_e, J2data_a, J2data_c, J2data_b⟩⟩ = StPageRecord.szs ⟨p2used, ⟨p2data_e, p2data_a, p2data_c, p2data_b⟩⟩) from hz)
        clear hd hz
        dsimp only [StPageRecord.val, BS.v]
        have HFJ2 := (show Hid (∀ b, FootL (StPageRecord.rows ⟨J2used, ⟨J2data_e, J2data_a, J2data_c, J2data_b⟩⟩) b → w42.heap.size ≤ b ∧ b < w43.heap.size) from fun b hb => ⟨hf b hb, ho.lt b hb⟩)
        have HJ2w43 := (show Hid (OwnL w43 (StPageRecord.rows ⟨J2used, ⟨J2data_e, J2data_a, J2data_c, J2data_b⟩⟩)) from ho)
        clear hf ho
        have hkk : Same w42 w43 := hk
        have hzw43 := hkk.size
        have HA2w43 := (show Hid (Blk w43 (w.heap.size) 36 [.bool p2used, .slice p2data_a p2data_b.length p2data_c]) from HA2w42.out.same hkk)
        have HWw43 := (show Hid (OwnL w43 (StPageResult.rows ⟨Wcode, ⟨Wpage_e, Wpage_a, Wpage_c, Wpage_b⟩⟩)) from HWw42.out.same hkk)
        have HZw43 := (show Hid (Blk w43 (BW) 28 [.int .i64 Wcode, .slice Wpage_a Wpage_b.length Wpage_c]) from HZw42.out.same hkk)
        have HYw43 := (show Hid (Blk w43 (w30.heap.size) 28 [.int .i64 Gcode, .slice Gpage_a Gpage_b.length Gpage_c]) from HYw42.out.same hkk)
        have HUw43 := (show Hid (OwnL w43 (StPageResult.marked ⟨Gcode, ⟨Gpage_e, Gpage_a, Gpage_c, Gpage_b⟩⟩ 1).rows) from HUw42.out.same hkk)
        have HQQw43 := (show Hid (SameP w39 w43) from HQQw42.out.same hkk)
        have HJ0w43 := (show Hid (Own 0 5 .u8 w43 (.slice (some ⟨gJ0, 0, none⟩) bs0.length bs0.length) bs0) from HJ0w42.out.same hkk)
        have HVw43 := (show Hid (Blk w43 (w41.heap.size) 28 [.int .i64 0, .slice none 0 0]) from HVw42.out.same hkk)
        have HKw43 := (show Hid (Same w w43) from HKw42.out.trans hkk)
        clear hkk hk
        have hS : (fun wx : World => wx.cell? ⟨w.heap.size, 0, none⟩ = some (.bool p2used) ∧ wx.cell? ⟨w.heap.size, 1, none⟩ = some (.slice p2data_a p2data_b.length p2data_c)) w43 := ⟨HA2w43.out.cell 0, HA2w43.out.cell 1⟩
        refine hK.out _ _ (fun _ => hS) ?_
        clear hK K
        try simp only [Act.put, sA, s0, sS]
        refine wpAnyV_one (i := 6) (by kernel_rfl) rfl (fun K hK => ?_)
        go_simp
        refine (implSetL_any _ bs0 s1 ⟨J2used, ⟨J2data_e, J2data_a, J2data_c, J2data_b⟩⟩ s3 _ HB0.out (by omega) (HJ0w43.out.rd) (StPageRecord.isB_dat HCJ2.out HB2.out) (by have := HZJ2.out; omega) (StPageRecord.own_rd HJ2w43.out)).mono ?_
        rintro e w44 ⟨⟨Lcode, ⟨Lpage_e, Lpage_a, Lpage_c, Lpage_b⟩⟩, rfl, hd, hf, ho, hk⟩
        rw [HCJ2.out] at hd
        have hnL : StPageResult.size ⟨Lcode, ⟨Lpage_e, Lpage_a, Lpage_c, Lpage_b⟩⟩ ≤ 1099511627776 := pageSetD_small HB0.out HB2.out hd
        have hnL0 := StPageResult.size_le ⟨Lcode, ⟨Lpage_e, Lpage_a, Lpage_c, Lpage_b⟩⟩
        have HDL := (show Hid (StPageResult.dat ⟨Lcode, ⟨Lpage_e, Lpage_a, Lpage_c, Lpage_b⟩⟩ = pageSetD bs0 s1 (StPageRecord.dat ⟨p2used, ⟨p2data_e, p2data_a, p2data_c, p2data_b⟩⟩) s3) from hd)
        dsimp only [StPageResult.val, BS.v]
        have HFL := (show Hid (∀ b, FootL (StPageResult.rows ⟨Lcode, ⟨Lpage_e, Lpage_a, Lpage_c, Lpage_b⟩⟩) b → w43.heap.size ≤ b ∧ b < w44.heap.size) from fun b hb => ⟨hf b hb, ho.lt b hb⟩)
        have HLw44 := (show Hid (OwnL w44 (StPageResult.rows ⟨Lcode, ⟨Lpage_e, Lpage_a, Lpage_c, Lpage_b⟩⟩)) from ho)
        clear hd hf ho
        have hkk : Same w43 w44 := hk
        have hzw44 := hkk.size
        have HA2w44 := (show Hid (Blk w44 (w.heap.size) 36 [.bool p2used, .slice p2data_a p2data_b.length p2data_c]) from HA2w43.out.same hkk)
        have HWw44 := (show Hid (OwnL w44 (StPageResult.rows ⟨Wcode, ⟨Wpage_e, Wpage_a, Wpage_c, Wpage_b⟩⟩)) from HWw43.out.same hkk)
        have HZw44 := (show Hid (Blk w44 (BW) 28 [.int .i64 Wcode, .slice Wpage_a Wpage_b.length Wpage_c]) from HZw43.out.same hkk)
        have HYw44 := (show Hid (Blk w44 (w30.heap.size) 28 [.int .i64 Gcode, .slice Gpage_a Gpage_b.length Gpage_c]) from HYw43.out.same hkk)
        have HUw44 := (show Hid (OwnL w44 (StPageResult.marked ⟨Gcode, ⟨Gpage_e, Gpage_a, Gpage_c, Gpage_b⟩⟩ 1).rows) from HUw43.out.same hkk)
        have HQQw44 := (show Hid (SameP w39 w44) from HQQw43.out.same hkk)
        have HJ0w44 := (show Hid (Own 0 5 .u8 w44 (.slice (some ⟨gJ0, 0, none⟩) bs0.length bs0.length) bs0) from HJ0w43.out.same hkk)
        have HVw44 := (show Hid (Blk w44 (w41.heap.size) 28 [.int .i64 0, .slice none 0 0]) from HVw43.out.same hkk)
        have HJ2w44 := (show Hid (OwnL w44 (StPageRecord.rows ⟨J2used, ⟨J2data_e, J2data_a, J2data_c, J2data_b⟩⟩)) from HJ2w43.out.same hkk)
        have HKw44 := (show Hid (Same w w44) from HKw43.out.trans hkk)
        clear hkk hk
        have hS : (fun wx : World => wx.cell? ⟨w.heap.size, 0, none⟩ = some (.bool p2used) ∧ wx.cell? ⟨w.heap.size, 1, none⟩ = some (.slice p2data_a p2data_b.length p2data_c)) w44 := ⟨HA2w44.out.cell 0, HA2w44.out.cell 1⟩
        refine hK.out _ _ (fun _ => hS) ?_
        clear hK K
        try simp only [Act.put, sA, s0, sS]
        obtain ⟨z0, z1⟩ := HVw44.out.all2
        have fz := HVw44.out.frozen
        refine wpAnyV_one (i := 8) (by kernel_rfl) rfl (fun K hK => ?_)
        go_simp
        refine hK.out _ _ (fun h => absurd rfl h) ?_
        clear hK K
        refine wpAnyV_done (by kernel_rfl) ?_
        try simp only [Act.put, sA, s0, sS]
        have hk6 : Kept (fun b => b = w41.heap.size) w44 ((w44.setCell ⟨w41.heap.size, 0, none⟩ (.int .i64 Lcode)).setCell ⟨w41.heap.size, 1, none⟩ (.slice Lpage_a Lpage_b.length Lpage_c)) := Kept.setCell (R := fun b => b = w41.heap.size) (Kept.setCell (R := fun b => b = w41.heap.size) (Kept.refl _ _) (p := ⟨w41.heap.size, 0, none⟩) (.inr rfl) _) (p := ⟨w41.heap.size, 1, none⟩) (.inr rfl) _
        have hB6 := (HVw44.out.stored 0 (.int .i64 Lcode)).stored 1 (.slice Lpage_a Lpage_b.length Lpage_c)
        have HZ6 := (show Hid (PRes w39 ((w44.setCell ⟨w41.heap.size, 0, none⟩ (.int .i64 Lcode)).setCell ⟨w41.heap.size, 1, none⟩ (.slice Lpage_a Lpage_b.length Lpage_c)) (pageSetD bs0 s1 (StPageRecord.dat ⟨p2used, ⟨p2data_e, p2data_a, p2data_c, p2data_b⟩⟩) s3) (.pointer (some ⟨w41.heap.size, 0, none⟩))) from ⟨⟨Lcode, ⟨Lpage_e, Lpage_a, Lpage_c, Lpage_b⟩⟩, w41.heap.size, rfl, by omega, hB6.lt, hB6, HDL.out, fun b hb => by have h1 := HFL.out b hb; omega, HLw44.out.kept hk6 (fun b hb e => by have h1 := HFL.out b hb; omega), Kept.next (HQQw44.out : Same w39 w44) hk6 (fun j hj e => by omega)⟩)
        clear hk6 hB6 hS z0 z1 fz
        go_wp2_with fail
        go_meet
        case rel => exact HZ6
    ·
      go_simp
      generalize hwd : (w40.alloc (.cells #[.int .i64 0, .slice none 0 0] 28)) = w41
      have hk : Same (w40.alloc (.cells #[.int .i64 0, .slice none 0 0] 28)) w41 := by rw [← hwd]; exact Kept.refl _ _
      clear hwd
      have hkk : Same w40 w41 := ((Kept.refl _ _).alloc _).trans hk
      have hzw41 := hk.size
      rw [World.size_alloc] at hzw41
      have HA2w41 := (show Hid (Blk w41 (w.heap.size) 36 [.bool p2used, .slice p2data_a p2data_b.length p2data_c]) from HA2w40.out.same hkk)
      have HWw41 := (show Hid (OwnL w41 (StPageResult.rows ⟨Wcode, ⟨Wpage_e, Wpage_a, Wpage_c, Wpage_b⟩⟩)) from HWw40.out.same hkk)
      have HZw41 := (show Hid (Blk w41 (BW) 28 [.int .i64 Wcode, .slice Wpage_a Wpage_b.length Wpage_c]) from HZw40.out.same hkk)
      have HYw41 := (show Hid (Blk w41 (w30.heap.size) 28 [.int .i64 Gcode, .slice Gpage_a Gpage_b.length Gpage_c]) from HYw40.out.same hkk)
      have HUw41 := (show Hid (OwnL w41 (StPageResult.marked ⟨Gcode, ⟨Gpage_e, Gpage_a, Gpage_c, Gpage_b⟩⟩ 1).rows) from HUw40.out.same hkk)
      have HQQw41 := (show Hid (SameP w39 w41) from HQQw40.out.same hkk)
      have HVw41 := (show Hid (Blk w41 (w40.heap.size) 28 [.int .i64 0, .slice none 0 0]) from (Blk.new w40 #[.int .i64 0, .slice none 0 0] 28).same hk)
      have HKw41 := (show Hid (Same w w41) from HKw40.out.trans hkk)
      clear hkk hk
      have hS : (fun wx : World => wx.cell? ⟨w.heap.size, 0, none⟩ = some (.bool p2used) ∧ wx.cell? ⟨w.heap.size, 1, none⟩ = some (.slice p2data_a p2data_b.length p2data_c)) w41 := ⟨HA2w41.out.cell 0, HA2w41.out.cell 1⟩
      refine hK.out _ _ (fun _ => hS) ?_
      clear hK K
      try simp only [Act.put, sA, s0, sS]
      refine wpAnyV_one (i := 1) (by kernel_rfl) rfl (fun K hK => ?_)
      go_simp
      refine (toByteS_any _ bs0 _ (by omega) (HV0.out.same HKw41.out)).mono ?_
      rintro e w42 ⟨gJ0, rfl, hf, ho, hk⟩
      have hf : ∀ b, (Value.slice (some ⟨gJ0, 0, none⟩) bs0.length bs0.length).ownBlock = some b → _ ≤ b := fun b hb => by rw [← (Option.some.inj hb : gJ0 = b)]; exact hf
      have HFJ0 := (show Hid (∀ b, (Value.slice (some ⟨gJ0, 0, none⟩) bs0.length bs0.length).ownBlock = some b → w41.heap.size ≤ b ∧ b < w42.heap.size) from fun b hb => ⟨hf b hb, (ho.lt b hb).2⟩)
      have HJ0w42 := (show Hid (Own 0 5 .u8 w42 (.slice (some ⟨gJ0, 0, none⟩) bs0.length bs0.length) bs0) from ho)
      clear hf ho
      have hkk : Same w41 w42 := hk
      have hzw42 := hkk.size
      have HA2w42 := (show Hid (Blk w42 (w.heap.size) 36 [.bool p2used, .slice p2data_a p2data_b.length p2data_c]) from HA2w41.out.same hkk)
      have HWw42 := (show Hid (OwnL w42 (StPageResult.rows ⟨Wcode, ⟨Wpage_e, Wpage_a, Wpage_c, Wpage_b⟩⟩)) from HWw41.out.same hkk)
      have HZw42 := (show Hid (Blk w42 (BW) 28 [.int .i64 Wcode, .slice Wpage_a Wpage_b.length Wpage_c]) from HZw41.out.same hkk)
      have HYw42 := (show Hid (Blk w42 (w30.heap.size) 28 [.int .i64 Gcode, .slice Gpage_a Gpage_b.length Gpage_c]) from HYw41.out.same hkk)
      have HUw42 := (show Hid (OwnL w42 (StPageResult.marked ⟨Gcode, ⟨Gpage_e, Gpage_a, Gpage_c, Gpage_b⟩⟩ 1).rows) from HUw41.out.same hkk)
      have HQQw42 := (show Hid (SameP w39 w42) from HQQw41.out.same hkk)
      have HVw42 := (show Hid (Blk w42 (w40.heap.size) 28 [.int .i64 0, .slice none 0 0]) from HVw41.out.same hkk)
      have HKw42 := (show Hid (Same w w42) from HKw41.out.trans hkk)
      clear hkk hk
      have hS : (fun wx : World => wx.cell? ⟨w.heap.size, 0, none⟩ = some (.bool p2used) ∧ wx.cell? ⟨w.heap.size, 1, none⟩ = some (.slice p2data_a p2data_b.length p2data_c)) w42 := ⟨HA2w42.out.cell 0, HA2w42.out.cell 1⟩
      refine hK.out _ _ (fun _ => hS) ?_
      clear hK K
      try simp only [Act.put, sA, s0, sS]
      refine wpAnyV_one (i := 4) (by kernel_rfl) rfl (fun K hK => ?_)
      go_simp
      refine (toPageRecord_any ⟨p2used, ⟨p2data_e, p2data_a, p2data_c, p2data_b⟩⟩ _ (by omega) (HV2.out.same HKw42.out)).mono ?_
      rintro e w43 ⟨⟨J2used, ⟨J2data_e, J2data_a, J2data_c, J2data_b⟩⟩, rfl, hd, hz, hf, ho, hk⟩
      have HCJ2 := (show Hid (StPageRecord.dat ⟨J2used, ⟨J2data_e, J2data_a, J2data_c, J2data_b⟩⟩ = StPageRecord.dat ⟨p2used, ⟨p2data_e, p2data_a, p2data_c, p2data_b⟩⟩) from hd)
      have HZJ2 := (show Hid (StPageRecord.szs ⟨J2used, ⟨J2data_e, J2data_a, J2data_c, J2data_b⟩⟩ = StPageRecord.szs ⟨p2used, ⟨p2data_e, p2data_a, p2data_c, p2data_b⟩⟩) from hz)
      clear hd hz
      dsimp only [StPageRecord.val, BS.v]
      have HFJ2 := (show Hid (∀ b, FootL (StPageRecord.rows ⟨J2used, ⟨J2data_e, J2data_a, J2data_c, J2data_b⟩⟩) b → w42.heap.size ≤ b ∧ b < w43.heap.size) from fun b hb => ⟨hf b hb, ho.lt b hb⟩)
      have HJ2w43 := (show Hid (OwnL w43 (StPageRecord.rows ⟨J2used, ⟨J2data_e, J2data_a, J2data_c, J2data_b⟩⟩)) from ho)
      clear hf ho
      have hkk : Same w42 w43 := hk
      have hzw43 := hkk.size
      have HA2w43 := (show Hid (Blk w43 (w.heap.size) 36 [.bool p2used, .slice p2data_a p2data_b.length p2data_c]) from HA2w42.out.same hkk)
      have HWw43 := (show Hid (OwnL w43 (StPageResult.rows ⟨Wcode, ⟨Wpage_e, Wpage_a, Wpage_c, Wpage_b⟩⟩)) from HWw42.out.same hkk)
      have HZw43 := (show Hid (Blk w43 (BW) 28 [.int .i64 Wcode, .slice Wpage_a Wpage_b.length Wpage_c]) from HZw42.out.same hkk)
      have HYw43 := (show Hid (Blk w43 (w30.heap.size) 28 [.int .i64 Gcode, .slice Gpage_a Gpage_b.length Gpage_c]) from HYw42.out.same hkk)
      have HUw43 := (show Hid (OwnL w43 (StPageResult.marked ⟨Gcode, ⟨Gpage_e, Gpage_a, Gpage_c, Gpage_b⟩⟩ 1).rows) from HUw42.out.same hkk)
      have HQQw43 := (show Hid (SameP w39 w43) from HQQw42.out.same hkk)
      have HVw43 := (show Hid (Blk w43 (w40.heap.size) 28 [.int .i64 0, .slice none 0 0]) from HVw42.out.same hkk)
      have HJ0w43 := (show Hid (Own 0 5 .u8 w43 (.slice (some ⟨gJ0, 0, none⟩) bs0.length bs0.length) bs0) from HJ0w42.out.same hkk)
      have HKw43 := (show Hid (Same w w43) from HKw42.out.trans hkk)
      clear hkk hk
      have hS : (fun wx : World => wx.cell? ⟨w.heap.size, 0, none⟩ = some (.bool p2used) ∧ wx.cell? ⟨w.heap.size, 1, none⟩ = some (.slice p2data_a p2data_b.length p2data_c)) w43 := ⟨HA2w43.out.cell 0, HA2w43.out.cell 1⟩
      refine hK.out _ _ (fun _ => hS) ?_
      clear hK K
      try simp only [Act.put, sA, s0, sS]
      refine wpAnyV_one (i := 6) (by kernel_rfl) rfl (fun K hK => ?_)
      go_simp
      refine (implSetL_any _ bs0 s1 ⟨J2used, ⟨J2data_e, J2data_a, J2data_c, J2data_b⟩⟩ s3 _ HB0.out (by omega) (HJ0w43.out.rd) (StPageRecord.isB_dat HCJ2.out HB2.out) (by have := HZJ2.out; omega) (StPageRecord.own_rd HJ2w43.out)).mono ?_
      rintro e w44 ⟨⟨Lcode, ⟨Lpage_e, Lpage_a, Lpage_c, Lpage_b⟩⟩, rfl, hd, hf, ho, hk⟩
      rw [HCJ2.out] at hd
      have hnL : StPageResult.size ⟨Lcode, ⟨Lpage_e, Lpage_a, Lpage_c, Lpage_b⟩⟩ ≤ 1099511627776 := pageSetD_small HB0.out HB2.out hd
      have hnL0 := StPageResult.size_le ⟨Lcode, ⟨Lpage_e, Lpage_a, Lpage_c, Lpage_b⟩⟩
      have HDL := (show Hid (StPageResult.dat ⟨Lcode, ⟨Lpage_e, Lpage_a, Lpage_c, Lpage_b⟩⟩ = pageSetD bs0 s1 (StPageRecord.dat ⟨p2used, ⟨p2data_e, p2data_a, p2data_c, p2data_b⟩⟩) s3) from hd)
      dsimp only [StPageResult.val, BS.v]
      have HFL := (show Hid (∀ b, FootL (StPageResult.rows ⟨Lcode, ⟨Lpage_e, Lpage_a, Lpage_c, Lpage_b⟩⟩) b → w43.heap.size ≤ b ∧ b < w44.heap.size) from fun b hb => ⟨hf b hb, ho.lt b hb⟩)
      have HLw44 := (show Hid (OwnL w44 (StPageResult.rows ⟨Lcode, ⟨Lpage_e, Lpage_a, Lpage_c, Lpage_b⟩⟩)) from ho)
      clear hd hf ho
      have hkk : Same w43 w44 := hk
      have hzw44 := hkk.size
      have HA2w44 := (show Hid (Blk w44 (w.heap.size) 36 [.bool p2used, .slice p2data_a p2data_b.length p2data_c]) from HA2w43.out.same hkk)
      have HWw44 := (show Hid (OwnL w44 (StPageResult.rows ⟨Wcode, ⟨Wpage_e, Wpage_a, Wpage_c, Wpage_b⟩⟩)) from HWw43.out.same hkk)
      have HZw44 := (show Hid (Blk w44 (BW) 28 [.int .i64 Wcode, .slice Wpage_a Wpage_b.length Wpage_c]) from HZw43.out.same hkk)
      have HYw44 := (show Hid (Blk w44 (w30.heap.size) 28 [.int .i64 Gcode, .slice Gpage_a Gpage_b.length Gpage_c]) from HYw43.out.same hkk)
      have HUw44 := (show Hid (OwnL w44 (StPageResult.marked ⟨Gcode, ⟨Gpage_e, Gpage_a, Gpage_c, Gpage_b⟩⟩ 1).rows) from HUw43.out.same hkk)
      have HQQw44 := (show Hid (SameP w39 w44) from HQQw43.out.same hkk)
      have HVw44 := (show Hid (Blk w44 (w40.heap.size) 28 [.int .i64 0, .slice none 0 0]) from HVw43.out.same hkk)
      have HJ0w44 := (show Hid (Own 0 5 .u8 w44 (.slice (some ⟨gJ0, 0, none⟩) bs0.length bs0.length) bs0) from HJ0w43.out.same hkk)
      have HJ2w44 := (show Hid (OwnL w44 (StPageRecord.rows ⟨J2used, ⟨J2data_e, J2data_a, J2data_c, J2data_b⟩⟩)) from HJ2w43.out.same hkk)
      have HKw44 := (show Hid (Same w w44) from HKw43.out.trans hkk)
      clear hkk hk
      have hS : (fun wx : World => wx.cell? ⟨w.heap.size, 0, none⟩ = some (.bool p2used) ∧ wx.cell? ⟨w.heap.size, 1, none⟩ = some (.slice p2data_a p2data_b.length p2data_c)) w44 := ⟨HA2w44.out.cell 0, HA2w44.out.cell 1⟩
      refine hK.out _ _ (fun _ => hS) ?_
      clear hK K
      try simp only [Act.put, sA, s0, sS]
      obtain ⟨z0, z1⟩ := HVw44.out.all2
      have fz := HVw44.out.frozen
      refine wpAnyV_one (i := 8) (by kernel_rfl) rfl (fun K hK => ?_)
      go_simp
      refine hK.out _ _ (fun h => absurd rfl h) ?_
      clear hK K
      refine wpAnyV_done (by kernel_rfl) ?_
      try simp only [Act.put, sA, s0, sS]
      have hk6 : Kept (fun b => b = w40.heap.size) w44 ((w44.setCell ⟨w40.heap.size, 0, none⟩ (.int .i64 Lcode)).setCell ⟨w40.heap.size, 1, none⟩ (.slice Lpage_a Lpage_b.length Lpage_c)) := Kept.setCell (R := fun b => b = w40.heap.size) (Kept.setCell (R := fun b => b = w40.heap.size) (Kept.refl _ _) (p := ⟨w40.heap.size, 0, none⟩) (.inr rfl) _) (p := ⟨w40.heap.size, 1, none⟩) (.inr rfl) _
      have hB6 := (HVw44.out.stored 0 (.int .i64 Lcode)).stored 1 (.slice Lpage_a Lpage_b.length Lpage_c)
      have HZ6 := (show Hid (PRes w39 ((w44.setCell ⟨w40.heap.size, 0, none⟩ (.int .i64 Lcode)).setCell ⟨w40.heap.size, 1, none⟩ (.slice Lpage_a Lpage_b.length Lpage_c)) (pageSetD bs0 s1 (StPageRecord.dat ⟨p2used, ⟨p2data_e, p2data_a, p2data_c, p2data_b⟩⟩) s3) (.pointer (some ⟨w40.heap.size, 0, none⟩))) from ⟨⟨Lcode, ⟨Lpage_e, Lpage_a, Lpage_c, Lpage_b⟩⟩, w40.heap.size, rfl, by omega, hB6.lt, hB6, HDL.out, fun b hb => by have h1 := HFL.out b hb; omega, HLw44.out.kept hk6 (fun b hb e => by have h1 := HFL.out b hb; omega), Kept.next (HQQw44.out : Same w39 w44) hk6 (fun j hj e => by omega)⟩)
      clear hk6 hB6 hS z0 z1 fz
      go_wp2_with fail
      go_meet
      case rel => exact HZ6
  case rest =>
  obtain ⟨w65, hwc⟩ : ∃ x, x = wc := ⟨_, rfl⟩
  subst hwc
  obtain ⟨⟨Lcode, ⟨Lpage_e, Lpage_a, Lpage_c, Lpage_b⟩⟩, BL, rfl, hBaL, hBbL, hb, hd, hf, ho, hk⟩ := hcut.out
  clear hcut
  have hnL : StPageResult.size ⟨Lcode, ⟨Lpage_e, Lpage_a, Lpage_c, Lpage_b⟩⟩ ≤ 1099511627776 := pageSetD_small HB0.out HB2.out hd
  have hnL0 := StPageResult.size_le ⟨Lcode, ⟨Lpage_e, Lpage_a, Lpage_c, Lpage_b⟩⟩
  have HDL := (show Hid (StPageResult.dat ⟨Lcode, ⟨Lpage_e, Lpage_a, Lpage_c, Lpage_b⟩⟩ = pageSetD bs0 s1 (StPageRecord.dat ⟨p2used, ⟨p2data_e, p2data_a, p2data_c, p2data_b⟩⟩) s3) from hd)
  have HFL := (show Hid (∀ b, FootL (StPageResult.rows ⟨Lcode, ⟨Lpage_e, Lpage_a, Lpage_c, Lpage_b⟩⟩) b → (w39.heap.size ≤ b ∧ b < w65.heap.size) ∧ b ≠ BL) from fun b hb => ⟨⟨(hf b hb).1, ho.lt b hb⟩, (hf b hb).2⟩)
  have HLw65 := (show Hid (OwnL w65 (StPageResult.rows ⟨Lcode, ⟨Lpage_e, Lpage_a, Lpage_c, Lpage_b⟩⟩)) from ho)
  have HVw65 := (show Hid (Blk w65 (BL) 28 [.int .i64 Lcode, .slice Lpage_a Lpage_b.length Lpage_c]) from hb)
  clear hd hf ho hb
  have hkk : Same w39 w65 := hk
  have hzw65 := hkk.size
  have HA2w65 := (show Hid (Blk w65 (w.heap.size) 36 [.bool p2used, .slice p2data_a p2data_b.length p2data_c]) from HA2w39.out.same hkk)
  have HWw65 := (show Hid (OwnL w65 (StPageResult.rows ⟨Wcode, ⟨Wpage_e, Wpage_a, Wpage_c, Wpage_b⟩⟩)) from HWw39.out.same hkk)
  have HZw65 := (show Hid (Blk w65 (BW) 28 [.int .i64 Wcode, .slice Wpage_a Wpage_b.length Wpage_c]) from HZw39.out.same hkk)
  have HYw65 := (show Hid (Blk w65 (w30.heap.size) 28 [.int .i64 Gcode, .slice Gpage_a Gpage_b.length Gpage_c]) from HYw39.out.same hkk)
  have HUw65 := (show Hid (OwnL w65 (StPageResult.marked ⟨Gcode, ⟨Gpage_e, Gpage_a, Gpage_c, Gpage_b⟩⟩ 1).rows) from HUw39.out.same hkk)
  have HKw65 := (show Hid (Same w w65) from HKw39.out.trans hkk)
  clear hkk hk
  have cA2_0 : w65.cell? ⟨w.heap.size, 0, none⟩ = some (.bool p2used) := HA2w65.out.cell 0
  have cA2_1 : w65.cell? ⟨w.heap.size, 1, none⟩ = some (.slice p2data_a p2data_b.length p2data_c) := HA2w65.out.cell 1
  have lA2 := HA2w65.out.lt
  have cZ_0 : w65.cell? ⟨BW, 0, none⟩ = some (.int .i64 Wcode) := HZw65.out.cell 0
  have cZ_1 : w65.cell? ⟨BW, 1, none⟩ = some (.slice Wpage_a Wpage_b.length Wpage_c) := HZw65.out.cell 1
  have lZ := HZw65.out.lt
  have cY_0 : w65.cell? ⟨w30.heap.size, 0, none⟩ = some (.int .i64 Gcode) := HYw65.out.cell 0
  have cY_1 : w65.cell? ⟨w30.heap.size, 1, none⟩ = some (.slice Gpage_a Gpage_b.length Gpage_c) := HYw65.out.cell 1
  have lY := HYw65.out.lt
  have cV_0 : w65.cell? ⟨BL, 0, none⟩ = some (.int .i64 Lcode) := HVw65.out.cell 0
  have cV_1 : w65.cell? ⟨BL, 1, none⟩ = some (.slice Lpage_a Lpage_b.length Lpage_c) := HVw65.out.cell 1
  have lV := HVw65.out.lt
  go_wp2_with fail
  refine (eqPageResult_own ⟨Lcode, ⟨Lpage_e, Lpage_a, Lpage_c, Lpage_b⟩⟩ ⟨Wcode, ⟨Wpage_e, Wpage_a, Wpage_c, Wpage_b⟩⟩ _ (by omega) (HDL.out.trans HDW.out.symm) HLw65.out HWw65.out).mono ?_
  rintro e w66 ⟨rfl, hk⟩
  have hkk : Same w65 w66 := hk
  have hzw66 := hkk.size
  have HA2w66 := (show Hid (Blk w66 (w.heap.size) 36 [.bool p2used, .slice p2data_a p2data_b.length p2data_c]) from HA2w65.out.same hkk)
  have HWw66 := (show Hid (OwnL w66 (StPageResult.rows ⟨Wcode, ⟨Wpage_e, Wpage_a, Wpage_c, Wpage_b⟩⟩)) from HWw65.out.same hkk)
  have HZw66 := (show Hid (Blk w66 (BW) 28 [.int .i64 Wcode, .slice Wpage_a Wpage_b.length Wpage_c]) from HZw65.out.same hkk)
  have HYw66 := (show Hid (Blk w66 (w30.heap.size) 28 [.int .i64 Gcode, .slice Gpage_a Gpage_b.length Gpage_c]) from HYw65.out.same hkk)
  have HUw66 := (show Hid (OwnL w66 (StPageResult.marked ⟨Gcode, ⟨Gpage_e, Gpage_a, Gpage_c, Gpage_b⟩⟩ 1).rows) from HUw65.out.same hkk)
  have HLw66 := (show Hid (OwnL w66 (StPageResult.rows ⟨Lcode, ⟨Lpage_e, Lpage_a, Lpage_c, Lpage_b⟩⟩)) from HLw65.out.same hkk)
  have HVw66 := (show Hid (Blk w66 (BL) 28 [.int .i64 Lcode, .slice Lpage_a Lpage_b.length Lpage_c]) from HVw65.out.same hkk)
  have HKw66 := (show Hid (Same w w66) from HKw65.out.trans hkk)
  clear hkk hk
  clear cA2_0 cA2_1 lA2 cZ_0 cZ_1 lZ cY_0 cY_1 lY cV_0 cV_1 lV
  have cA2_0 : w66.cell? ⟨w.heap.size, 0, none⟩ = some (.bool p2used) := HA2w66.out.cell 0
  have cA2_1 : w66.cell? ⟨w.heap.size, 1, none⟩ = some (.slice p2data_a p2data_b.length p2data_c) := HA2w66.out.cell 1
  have lA2 := HA2w66.out.lt
  have cY_0 : w66.cell? ⟨w30.heap.size, 0, none⟩ = some (.int .i64 Gcode) := HYw66.out.cell 0
  have cY_1 : w66.cell? ⟨w30.heap.size, 1, none⟩ = some (.slice Gpage_a Gpage_b.length Gpage_c) := HYw66.out.cell 1
  have lY := HYw66.out.lt
  go_wp2_with fail
  have hm := heldPageResult_own ⟨Gcode, ⟨Gpage_e, Gpage_a, Gpage_c, Gpage_b⟩⟩ 1 w66 (by omega) (by rw [HM.out]; omega) HUw66.out
  rw [HM.out] at hm
  dsimp only [StPageResult.val, BS.v] at hm
  refine hm.mono ?_
  clear hm
  rintro e w67 ⟨rfl, hk⟩
  have hkk : Same w66 w67 := hk
  have hzw67 := hkk.size
  have HA2w67 := (show Hid (Blk w67 (w.heap.size) 36 [.bool p2used, .slice p2data_a p2data_b.length p2data_c]) from HA2w66.out.same hkk)
  have HYw67 := (show Hid (Blk w67 (w30.heap.size) 28 [.int .i64 Gcode, .slice Gpage_a Gpage_b.length Gpage_c]) from HYw66.out.same hkk)
  have HUw67 := (show Hid (OwnL w67 (StPageResult.marked ⟨Gcode, ⟨Gpage_e, Gpage_a, Gpage_c, Gpage_b⟩⟩ 1).rows) from HUw66.out.same hkk)
  have HKw67 := (show Hid (Same w w67) from HKw66.out.trans hkk)
  clear hkk hk
  clear cA2_0 cA2_1 lA2 cY_0 cY_1 lY
  go_wp2
  go_ret
  exact ⟨rfl, HKw67.out⟩
end Go.Proofs.Ytcnaabjgjmodeaa
