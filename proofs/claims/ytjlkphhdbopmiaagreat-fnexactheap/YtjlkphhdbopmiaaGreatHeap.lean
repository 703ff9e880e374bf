import Derived.Test.YtjlkphhdbopmiaaGreatG10
import Derived.Test.YtjlkphhdbopmiaaGreatLedgerLaw
import Derived.Deep.DeepCutAuto
namespace Go.Proofs.YtjlkphhdbopmiaaGreat
set_option linter.unusedVariables false
open Go.RowKit
set_option maxRecDepth 100000 in
set_option maxHeartbeats 16000000 in
theorem heap_law (dv0 pv0 : Value) (dur0 : List Int) (ps0 : List PW) (gp1 gf1 gl1 : Int) (w : World) (hv0 : RdD w dv0 pv0 dur0 ps0) (hB0 : DiskB dur0 ps0) :
  Calls Tryz.prog 3 #[.agg #[dv0, pv0], .agg #[.int .i64 gp1, .int .i64 gf1, .int .i64 gl1]] w fun e w' => e = .returned (.bool true) ∧ Same w w' := by
 obtain ⟨a0a, c0a, rfl⟩ := hv0.dur.form
 obtain ⟨a0b, c0b, rfl⟩ := hv0.pend.form
 have HB0 := (show Hid (∀ qs, dataP qs = dataP ps0 → DiskB dur0 qs) from fun qs hq => hB0.dat hq)
 clear hB0
 have HV0 := (show Hid (RdD w (.slice a0a dur0.length c0a) (.slice a0b ps0.length c0b) dur0 ps0) from hv0)
 clear hv0
 obtain ⟨HKw0, HN1, HN2⟩ := new2 w [(.slice a0a dur0.length c0a), (.slice a0b ps0.length c0b)] 25 [.int .i64 gp1, .int .i64 gf1, .int .i64 gl1] 27
 go_enter Tryz.func3, Tryz.ntmps3
 have HKw : Hid (Same w w) := Kept.refl _ _
 go_wp2_with fail
 obtain ⟨w0, hw0⟩ : ∃ x, (w.alloc (.cells #[(.slice a0a dur0.length c0a), (.slice a0b ps0.length c0b)] 25)).alloc (.cells #[.int .i64 gp1, .int .i64 gf1, .int .i64 gl1] 27) = x := ⟨_, rfl⟩
 rw [hw0] at HKw0 HN1 HN2 ⊢
 clear hw0
 have HA0w0 := (show Hid (Box w0 (w.heap.size) (.slice a0a dur0.length c0a) (.slice a0b ps0.length c0b)) from ⟨HN1.out.cell 0, HN1.out.cell 1⟩)
 have HA1w0 := (show Hid (Blk w0 (w.heap.size + 1) 27 [.int .i64 gp1, .int .i64 gf1, .int .i64 gl1]) from HN2.out)
 clear HN1 HN2
 have hzw0 := HA1w0.out.lt
 refine (szDisk_any _ _ dur0 ps0 _ _ (by omega) (by omega) (HV0.out.same HKw0.out)).mono ?_
 rintro e w1 ⟨sz0, rfl, hr, hk⟩
 have hkk : Same w0 w1 := hk
 have hzw1 := hkk.size
 have HA0w1 := (show Hid (Box w1 (w.heap.size) (.slice a0a dur0.length c0a) (.slice a0b ps0.length c0b)) from HA0w0.out.same hkk)
 have HA1w1 := (show Hid (Blk w1 (w.heap.size + 1) 27 [.int .i64 gp1, .int .i64 gf1, .int .i64 gl1]) from HA1w0.out.same hkk)
 have HKw1 := hid (HKw0.out.trans hkk)
 clear hkk hk
 rcases hr with rfl | ⟨hr, hr0⟩
 ·go_wp2
  go_ret
  exact ⟨rfl, HKw1.out⟩
 have hd0 : dur0.length ≤ 1048576 := by omega
 have hp0 : ps0.length ≤ 1048576 := by omega
 have hsz0 : sizeP ps0 ≤ 1048576 := by omega
 have HS0 : Hid (∀ p ∈ ps0, p.bs.length ≤ 1048576) := fun p hp => by have := sizeP_mem ps0 p hp; omega
 have HT0 : Hid (∀ qs : List PW, dataP qs = dataP ps0 → qs.length ≤ 1073741824 ∧ ∀ p ∈ qs, p.bs.length ≤ 1099511627776) := fun qs hq => ⟨by rw [← dataP_length, hq, dataP_length]; omega, fun p hp => by have := sizeP_mem qs p hp; rw [dataP_sizeP hq] at this; omega⟩
 clear hr
 obtain ⟨A01, A02⟩ := HA0w1.out
 have lA0 := HA0w1.out.lt
 have cA1_0 : w1.cell? ⟨w.heap.size + 1, 0, none⟩ = some (.int .i64 gp1) := HA1w1.out.cell 0
 have cA1_1 : w1.cell? ⟨w.heap.size + 1, 1, none⟩ = some (.int .i64 gf1) := HA1w1.out.cell 1
 have cA1_2 : w1.cell? ⟨w.heap.size + 1, 2, none⟩ = some (.int .i64 gl1) := HA1w1.out.cell 2
 have lA1 := HA1w1.out.lt
 go_wp2_with fail
 clear A01 A02 lA0
 clear cA1_0 cA1_1 cA1_2 lA1
 have HSM : Hid (∀ qs : List EHeapRecord, datHeapRecordS qs = (heapD gp1 gf1 gl1 dur0 (dataP ps0)).2 → qs.length ≤ 1048576 ∧ sizeHeapRecordS qs ≤ 16777216) := fun qs hd => by
  have h2 := heapD_small _ _ _ _ _ qs hd
  omega
 obtain ⟨r0, hR⟩ : ∃ r, heapD gp1 gf1 gl1 dur0 (dataP ps0) = r := ⟨_, rfl⟩
 have HR : Hid (heapD gp1 gf1 gl1 dur0 (dataP ps0) = r0) := hR
 rw [hR] at HSM
 clear hR
 go_cut [6] (fun v wc => Hid (HRes w1 wc r0 v))
 case first =>
  let Y2 : World → Prop := fun wx : World => wx.cell? ⟨w.heap.size, 0, none⟩ = some ((.slice a0a dur0.length c0a)) ∧ wx.cell? ⟨w.heap.size, 1, none⟩ = some ((.slice a0b ps0.length c0b)) ∧ wx.cell? ⟨w.heap.size + 1, 0, none⟩ = some (.int .i64 gp1) ∧ wx.cell? ⟨w.heap.size + 1, 1, none⟩ = some (.int .i64 gf1) ∧ wx.cell? ⟨w.heap.size + 1, 2, none⟩ = some (.int .i64 gl1)
  refine wp_region_V Y2 6 7 rfl (by kernel_rfl) ?_
  have HQQw1 : Hid (SameF w1 w1) := Kept.refl _ _
  generalize hwd : World.drew w1 = w2
  have hk : Same w1 w2 := by rw [← hwd]; exact (Kept.refl _ _).drew
  clear hwd
  have hkk : Same w1 w2 := hk
  have hzw2 := hkk.size
  have HA0w2 := (show Hid (Box w2 (w.heap.size) (.slice a0a dur0.length c0a) (.slice a0b ps0.length c0b)) from HA0w1.out.same hkk)
  have HA1w2 := (show Hid (Blk w2 (w.heap.size + 1) 27 [.int .i64 gp1, .int .i64 gf1, .int .i64 gl1]) from HA1w1.out.same hkk)
  have HQQw2 := (show Hid (SameF w1 w2) from HQQw1.out.same hkk)
  have HKw2 := hid (HKw1.out.trans hkk)
  clear hkk hk
  have hS : Y2 w2 := ⟨HA0w2.out.1, HA0w2.out.2, HA1w2.out.cell 0, HA1w2.out.cell 1, HA1w2.out.cell 2⟩
  refine tk 0 18 hS ?_
  refine tk 2 20 hS ?_
  refine wpAnyV_two (i := 1) (j := 5) (by kernel_rfl) rfl rfl (fun K hK => ?_) (fun K hK => ?_)
  ·
   go_simp
   refine (toDisk_any _ _ dur0 ps0 _ (by omega) (by omega) (fun p hp => Nat.le_trans (HS0.out p hp) (by omega)) (HV0.out.same HKw2.out)).mono ?_
   rintro e w3 ⟨gC0, gC0', qsC0, rfl, hq, hf, ho, hk⟩
   have HQC0 : Hid (dataP qsC0 = dataP ps0) := hq
   have HFC0 := (show Hid (∀ b, footD (.slice (some ⟨gC0, 0, none⟩) dur0.length dur0.length) (.slice (some ⟨gC0', 0, none⟩) ps0.length ps0.length) qsC0 b → w2.heap.size ≤ b ∧ b < w3.heap.size) from fun b hb => ⟨hf b hb, (ho.lt b hb).2⟩)
   have HC0w3 := (show Hid (OwnD 0 79 5 w3 (.slice (some ⟨gC0, 0, none⟩) dur0.length dur0.length) (.slice (some ⟨gC0', 0, none⟩) ps0.length ps0.length) dur0 qsC0) from ho)
   clear hf ho hq
   have hkk : Same w2 w3 := hk
   have hzw3 := hkk.size
   have HA0w3 := (show Hid (Box w3 (w.heap.size) (.slice a0a dur0.length c0a) (.slice a0b ps0.length c0b)) from HA0w2.out.same hkk)
   have HA1w3 := (show Hid (Blk w3 (w.heap.size + 1) 27 [.int .i64 gp1, .int .i64 gf1, .int .i64 gl1]) from HA1w2.out.same hkk)
   have HQQw3 := (show Hid (SameF w1 w3) from HQQw2.out.same hkk)
   have HKw3 := hid (HKw2.out.trans hkk)
   clear hkk hk
   have hS : Y2 w3 := ⟨HA0w3.out.1, HA0w3.out.2, HA1w3.out.cell 0, HA1w3.out.cell 1, HA1w3.out.cell 2⟩
   refine hK.out _ _ (fun _ => hS) ?_
   clear hK K
   try simp only [Act.put, sA, s0, sS]
   refine wpAnyV_two (i := 3) (j := 5) (by kernel_rfl) rfl rfl (fun K hK => ?_) (fun K hK => ?_)
   ·
    go_simp
    refine (toGeo_any gp1 gf1 gl1 _).mono ?_
    rintro e w4 ⟨rfl, hk⟩
    have hkk : Same w3 w4 := hk
    have hzw4 := hkk.size
    have HA0w4 := (show Hid (Box w4 (w.heap.size) (.slice a0a dur0.length c0a) (.slice a0b ps0.length c0b)) from HA0w3.out.same hkk)
    have HA1w4 := (show Hid (Blk w4 (w.heap.size + 1) 27 [.int .i64 gp1, .int .i64 gf1, .int .i64 gl1]) from HA1w3.out.same hkk)
    have HQQw4 := (show Hid (SameF w1 w4) from HQQw3.out.same hkk)
    have HC0w4 := (show Hid (OwnD 0 79 5 w4 (.slice (some ⟨gC0, 0, none⟩) dur0.length dur0.length) (.slice (some ⟨gC0', 0, none⟩) ps0.length ps0.length) dur0 qsC0) from HC0w3.out.same hkk)
    have HKw4 := hid (HKw3.out.trans hkk)
    clear hkk hk
    have hS : Y2 w4 := ⟨HA0w4.out.1, HA0w4.out.2, HA1w4.out.cell 0, HA1w4.out.cell 1, HA1w4.out.cell 2⟩
    refine hK.out _ _ (fun _ => hS) ?_
    clear hK K
    try simp only [Act.put, sA, s0, sS]
    refine wpAnyV_two (i := 4) (j := 5) (by kernel_rfl) rfl rfl (fun K hK => ?_) (fun K hK => ?_)
    ·
     go_simp
     refine (specHeap_any gp1 gf1 gl1 _ _ dur0 qsC0 _ (HB0.out qsC0 HQC0.out) (HC0w4.out.rd)).mono ?_
     rintro e w5 ⟨aW, nW, cW, qsW, rfl, hR, hf, ho, hk⟩
     rw [HQC0.out, HR.out] at hR
     rw [HQC0.out, HR.out]
     have HEW := (show Hid (datHeapRecordS qsW = r0.2) from hR)
     have HFW := (show Hid (∀ b, footR kHeapRecord (.slice aW nW cW) qsW b → w4.heap.size ≤ b ∧ b < w5.heap.size) from fun b hb => ⟨hf b hb, (ho.lt b hb).2⟩)
     have HWw5 := (show Hid (OwnR kHeapRecord 0 56 5 w5 (.slice aW nW cW) qsW) from ho)
     clear hR hf ho
     have hkk : Same w4 w5 := hk
     have hzw5 := hkk.size
     have HA0w5 := (show Hid (Box w5 (w.heap.size) (.slice a0a dur0.length c0a) (.slice a0b ps0.length c0b)) from HA0w4.out.same hkk)
     have HA1w5 := (show Hid (Blk w5 (w.heap.size + 1) 27 [.int .i64 gp1, .int .i64 gf1, .int .i64 gl1]) from HA1w4.out.same hkk)
     have HQQw5 := (show Hid (SameF w1 w5) from HQQw4.out.same hkk)
     have HC0w5 := (show Hid (OwnD 0 79 5 w5 (.slice (some ⟨gC0, 0, none⟩) dur0.length dur0.length) (.slice (some ⟨gC0', 0, none⟩) ps0.length ps0.length) dur0 qsC0) from HC0w4.out.same hkk)
     have HKw5 := hid (HKw4.out.trans hkk)
     clear hkk hk
     have hS : Y2 w5 := ⟨HA0w5.out.1, HA0w5.out.2, HA1w5.out.cell 0, HA1w5.out.cell 1, HA1w5.out.cell 2⟩
     refine hK.out _ _ (fun _ => hS) ?_
     clear hK K
     try simp only [Act.put, sA, s0, sS]
     refine wpAnyV_one (i := 5) (by kernel_rfl) rfl (fun K hK => ?_)
     go_simp
     generalize hwd : (w5.alloc (.cells #[.bool false, .slice none 0 0] 31)) = w6
     have hk : Same (w5.alloc (.cells #[.bool false, .slice none 0 0] 31)) w6 := by rw [← hwd]; exact Kept.refl _ _
     clear hwd
     have hkk : Same w5 w6 := ((Kept.refl _ _).alloc _).trans hk
     have hzw6 := hk.size
     rw [World.size_alloc] at hzw6
     have HA0w6 := (show Hid (Box w6 (w.heap.size) (.slice a0a dur0.length c0a) (.slice a0b ps0.length c0b)) from HA0w5.out.same hkk)
     have HA1w6 := (show Hid (Blk w6 (w.heap.size + 1) 27 [.int .i64 gp1, .int .i64 gf1, .int .i64 gl1]) from HA1w5.out.same hkk)
     have HQQw6 := (show Hid (SameF w1 w6) from HQQw5.out.same hkk)
     have HC0w6 := (show Hid (OwnD 0 79 5 w6 (.slice (some ⟨gC0, 0, none⟩) dur0.length dur0.length) (.slice (some ⟨gC0', 0, none⟩) ps0.length ps0.length) dur0 qsC0) from HC0w5.out.same hkk)
     have HWw6 := (show Hid (OwnR kHeapRecord 0 56 5 w6 (.slice aW nW cW) qsW) from HWw5.out.same hkk)
     have HZw6 := (show Hid (Blk w6 (w5.heap.size) 31 [.bool false, .slice none 0 0]) from (Blk.new w5 #[.bool false, .slice none 0 0] 31).same hk)
     have HKw6 := hid (HKw5.out.trans hkk)
     clear hkk hk
     have hS : Y2 w6 := ⟨HA0w6.out.1, HA0w6.out.2, HA1w6.out.cell 0, HA1w6.out.cell 1, HA1w6.out.cell 2⟩
     refine hK.out _ _ (fun _ => hS) ?_
     clear hK K
     try simp only [Act.put, sA, s0, sS]
     obtain ⟨z0, z1⟩ := HZw6.out.all2
     have fz := HZw6.out.frozen
     refine wpAnyV_one (i := 6) (by kernel_rfl) rfl (fun K hK => ?_)
     go_simp
     refine hK.out _ _ (fun h => absurd rfl h) ?_
     clear hK K
     refine wpAnyV_done (by kernel_rfl) ?_
     try simp only [Act.put, sA, s0, sS]
     have hk6 : Kept (fun b => b = w5.heap.size) w6 ((w6.setCell ⟨w5.heap.size, 0, none⟩ (.bool r0.1)).setCell ⟨w5.heap.size, 1, none⟩ (.slice aW nW cW)) := Kept.setCell (R := fun b => b = w5.heap.size) (Kept.setCell (R := fun b => b = w5.heap.size) (Kept.refl _ _) (p := ⟨w5.heap.size, 0, none⟩) (.inr rfl) _) (p := ⟨w5.heap.size, 1, none⟩) (.inr rfl) _
     have hB6 := (HZw6.out.stored 0 (.bool r0.1)).stored 1 (.slice aW nW cW)
     have HZ6 := (show Hid (HRes w1 ((w6.setCell ⟨w5.heap.size, 0, none⟩ (.bool r0.1)).setCell ⟨w5.heap.size, 1, none⟩ (.slice aW nW cW)) r0 (.pointer (some ⟨w5.heap.size, 0, none⟩))) from ⟨w5.heap.size, aW, nW, cW, qsW, rfl, by omega, hB6.lt, hB6, HEW.out, fun b hb => by have h1 := HFW.out b hb; omega, HWw6.out.kept hk6 (fun b hb e => by have h1 := HFW.out b hb; omega), Kept.next (HQQw6.out : Same w1 w6) hk6 (fun j hj e => by omega)⟩)
     clear hk6 hB6 hS z0 z1 fz
     go_wp2_with fail
     go_meet
     case rel => exact HZ6
    ·
     go_simp
     generalize hwd : (w4.alloc (.cells #[.bool false, .slice none 0 0] 31)) = w5
     have hk : Same (w4.alloc (.cells #[.bool false, .slice none 0 0] 31)) w5 := by rw [← hwd]; exact Kept.refl _ _
     clear hwd
     have hkk : Same w4 w5 := ((Kept.refl _ _).alloc _).trans hk
     have hzw5 := hk.size
     rw [World.size_alloc] at hzw5
     have HA0w5 := (show Hid (Box w5 (w.heap.size) (.slice a0a dur0.length c0a) (.slice a0b ps0.length c0b)) from HA0w4.out.same hkk)
     have HA1w5 := (show Hid (Blk w5 (w.heap.size + 1) 27 [.int .i64 gp1, .int .i64 gf1, .int .i64 gl1]) from HA1w4.out.same hkk)
     have HQQw5 := (show Hid (SameF w1 w5) from HQQw4.out.same hkk)
     have HC0w5 := (show Hid (OwnD 0 79 5 w5 (.slice (some ⟨gC0, 0, none⟩) dur0.length dur0.length) (.slice (some ⟨gC0', 0, none⟩) ps0.length ps0.length) dur0 qsC0) from HC0w4.out.same hkk)
     have HZw5 := (show Hid (Blk w5 (w4.heap.size) 31 [.bool false, .slice none 0 0]) from (Blk.new w4 #[.bool false, .slice none 0 0] 31).same hk)
     have HKw5 := hid (HKw4.out.trans hkk)
     clear hkk hk
     have hS : Y2 w5 := ⟨HA0w5.out.1, HA0w5.out.2, HA1w5.out.cell 0, HA1w5.out.cell 1, HA1w5.out.cell 2⟩
     refine hK.out _ _ (fun _ => hS) ?_
     clear hK K
     try simp only [Act.put, sA, s0, sS]
     refine wpAnyV_one (i := 4) (by kernel_rfl) rfl (fun K hK => ?_)
     go_simp
     refine (specHeap_any gp1 gf1 gl1 _ _ dur0 qsC0 _ (HB0.out qsC0 HQC0.out) (HC0w5.out.rd)).mono ?_
     rintro e w6 ⟨aW, nW, cW, qsW, rfl, hR, hf, ho, hk⟩
     rw [HQC0.out, HR.out] at hR
     rw [HQC0.out, HR.out]
     have HEW := (show Hid (datHeapRecordS qsW = r0.2) from hR)
     have HFW := (show Hid (∀ b, footR kHeapRecord (.slice aW nW cW) qsW b → w5.heap.size ≤ b ∧ b < w6.heap.size) from fun b hb => ⟨hf b hb, (ho.lt b hb).2⟩)
     have HWw6 := (show Hid (OwnR kHeapRecord 0 56 5 w6 (.slice aW nW cW) qsW) from ho)
     clear hR hf ho
     have hkk : Same w5 w6 := hk
     have hzw6 := hkk.size
     have HA0w6 := (show Hid (Box w6 (w.heap.size) (.slice a0a dur0.length c0a) (.slice a0b ps0.length c0b)) from HA0w5.out.same hkk)
     have HA1w6 := (show Hid (Blk w6 (w.heap.size + 1) 27 [.int .i64 gp1, .int .i64 gf1, .int .i64 gl1]) from HA1w5.out.same hkk)
     have HQQw6 := (show Hid (SameF w1 w6) from HQQw5.out.same hkk)
     have HC0w6 := (show Hid (OwnD 0 79 5 w6 (.slice (some ⟨gC0, 0, none⟩) dur0.length dur0.length) (.slice (some ⟨gC0', 0, none⟩) ps0.length ps0.length) dur0 qsC0) from HC0w5.out.same hkk)
     have HZw6 := (show Hid (Blk w6 (w4.heap.size) 31 [.bool false, .slice none 0 0]) from HZw5.out.same hkk)
     have HKw6 := hid (HKw5.out.trans hkk)
     clear hkk hk
     have hS : Y2 w6 := ⟨HA0w6.out.1, HA0w6.out.2, HA1w6.out.cell 0, HA1w6.out.cell 1, HA1w6.out.cell 2⟩
     refine hK.out _ _ (fun _ => hS) ?_
     clear hK K
     try simp only [Act.put, sA, s0, sS]
     obtain ⟨z0, z1⟩ := HZw6.out.all2
     have fz := HZw6.out.frozen
     refine wpAnyV_one (i := 6) (by kernel_rfl) rfl (fun K hK => ?_)
     go_simp
     refine hK.out _ _ (fun h => absurd rfl h) ?_
     clear hK K
     refine wpAnyV_done (by kernel_rfl) ?_
     try simp only [Act.put, sA, s0, sS]
     have hk6 : Kept (fun b => b = w4.heap.size) w6 ((w6.setCell ⟨w4.heap.size, 0, none⟩ (.bool r0.1)).setCell ⟨w4.heap.size, 1, none⟩ (.slice aW nW cW)) := Kept.setCell (R := fun b => b = w4.heap.size) (Kept.setCell (R := fun b => b = w4.heap.size) (Kept.refl _ _) (p := ⟨w4.heap.size, 0, none⟩) (.inr rfl) _) (p := ⟨w4.heap.size, 1, none⟩) (.inr rfl) _
     have hB6 := (HZw6.out.stored 0 (.bool r0.1)).stored 1 (.slice aW nW cW)
     have HZ6 := (show Hid (HRes w1 ((w6.setCell ⟨w4.heap.size, 0, none⟩ (.bool r0.1)).setCell ⟨w4.heap.size, 1, none⟩ (.slice aW nW cW)) r0 (.pointer (some ⟨w4.heap.size, 0, none⟩))) from ⟨w4.heap.size, aW, nW, cW, qsW, rfl, by omega, hB6.lt, hB6, HEW.out, fun b hb => by have h1 := HFW.out b hb; omega, HWw6.out.kept hk6 (fun b hb e => by have h1 := HFW.out b hb; omega), Kept.next (HQQw6.out : Same w1 w6) hk6 (fun j hj e => by omega)⟩)
     clear hk6 hB6 hS z0 z1 fz
     go_wp2_with fail
     go_meet
     case rel => exact HZ6
   ·
    go_simp
    generalize hwd : (w3.alloc (.cells #[.bool false, .slice none 0 0] 31)) = w4
    have hk : Same (w3.alloc (.cells #[.bool false, .slice none 0 0] 31)) w4 := by rw [← hwd]; exact Kept.refl _ _
    clear hwd
    have hkk : Same w3 w4 := ((Kept.refl _ _).alloc _).trans hk
    have hzw4 := hk.size
    rw [World.size_alloc] at hzw4
    have HA0w4 := (show Hid (Box w4 (w.heap.size) (.slice a0a dur0.length c0a) (.slice a0b ps0.length c0b)) from HA0w3.out.same hkk)
    have HA1w4 := (show Hid (Blk w4 (w.heap.size + 1) 27 [.int .i64 gp1, .int .i64 gf1, .int .i64 gl1]) from HA1w3.out.same hkk)
    have HQQw4 := (show Hid (SameF w1 w4) from HQQw3.out.same hkk)
    have HC0w4 := (show Hid (OwnD 0 79 5 w4 (.slice (some ⟨gC0, 0, none⟩) dur0.length dur0.length) (.slice (some ⟨gC0', 0, none⟩) ps0.length ps0.length) dur0 qsC0) from HC0w3.out.same hkk)
    have HZw4 := (show Hid (Blk w4 (w3.heap.size) 31 [.bool false, .slice none 0 0]) from (Blk.new w3 #[.bool false, .slice none 0 0] 31).same hk)
    have HKw4 := hid (HKw3.out.trans hkk)
    clear hkk hk
    have hS : Y2 w4 := ⟨HA0w4.out.1, HA0w4.out.2, HA1w4.out.cell 0, HA1w4.out.cell 1, HA1w4.out.cell 2⟩
    refine hK.out _ _ (fun _ => hS) ?_
    clear hK K
    try simp only [Act.put, sA, s0, sS]
    refine wpAnyV_one (i := 3) (by kernel_rfl) rfl (fun K hK => ?_)
    go_simp
    refine (toGeo_any gp1 gf1 gl1 _).mono ?_
    rintro e w5 ⟨rfl, hk⟩
    have hkk : Same w4 w5 := hk
    have hzw5 := hkk.size
    have HA0w5 := (show Hid (Box w5 (w.heap.size) (.slice a0a dur0.length c0a) (.slice a0b ps0.length c0b)) from HA0w4.out.same hkk)
    have HA1w5 := (show Hid (Blk w5 (w.heap.size + 1) 27 [.int .i64 gp1, .int .i64 gf1, .int .i64 gl1]) from HA1w4.out.same hkk)
    have HQQw5 := (show Hid (SameF w1 w5) from HQQw4.out.same hkk)
    have HC0w5 := (show Hid (OwnD 0 79 5 w5 (.slice (some ⟨gC0, 0, none⟩) dur0.length dur0.length) (.slice (some ⟨gC0', 0, none⟩) ps0.length ps0.length) dur0 qsC0) from HC0w4.out.same hkk)
    have HZw5 := (show Hid (Blk w5 (w3.heap.size) 31 [.bool false, .slice none 0 0]) from HZw4.out.same hkk)
    have HKw5 := hid (HKw4.out.trans hkk)
    clear hkk hk
    have hS : Y2 w5 := ⟨HA0w5.out.1, HA0w5.out.2, HA1w5.out.cell 0, HA1w5.out.cell 1, HA1w5.out.cell 2⟩
    refine hK.out _ _ (fun _ => hS) ?_
    clear hK K
    try simp only [Act.put, sA, s0, sS]
    refine wpAnyV_one (i := 4) (by kernel_rfl) rfl (fun K hK => ?_)
    go_simp
    refine (specHeap_any gp1 gf1 gl1 _ _ dur0 qsC0 _ (HB0.out qsC0 HQC0.out) (HC0w5.out.rd)).mono ?_
    rintro e w6 ⟨aW, nW, cW, qsW, rfl, hR, hf, ho, hk⟩
    rw [HQC0.out, HR.out] at hR
    rw [HQC0.out, HR.out]
    have HEW := (show Hid (datHeapRecordS qsW = r0.2) from hR)
    have HFW := (show Hid (∀ b, footR kHeapRecord (.slice aW nW cW) qsW b → w5.heap.size ≤ b ∧ b < w6.heap.size) from fun b hb => ⟨hf b hb, (ho.lt b hb).2⟩)
    have HWw6 := (show Hid (OwnR kHeapRecord 0 56 5 w6 (.slice aW nW cW) qsW) from ho)
    clear hR hf ho
    have hkk : Same w5 w6 := hk
    have hzw6 := hkk.size
    have HA0w6 := (show Hid (Box w6 (w.heap.size) (.slice a0a dur0.length c0a) (.slice a0b ps0.length c0b)) from HA0w5.out.same hkk)
    have HA1w6 := (show Hid (Blk w6 (w.heap.size + 1) 27 [.int .i64 gp1, .int .i64 gf1, .int .i64 gl1]) from HA1w5.out.same hkk)
    have HQQw6 := (show Hid (SameF w1 w6) from HQQw5.out.same hkk)
    have HC0w6 := (show Hid (OwnD 0 79 5 w6 (.slice (some ⟨gC0, 0, none⟩) dur0.length dur0.length) (.slice (some ⟨gC0', 0, none⟩) ps0.length ps0.length) dur0 qsC0) from HC0w5.out.same hkk)
    have HZw6 := (show Hid (Blk w6 (w3.heap.size) 31 [.bool false, .slice none 0 0]) from HZw5.out.same hkk)
    have HKw6 := hid (HKw5.out.trans hkk)
    clear hkk hk
    have hS : Y2 w6 := ⟨HA0w6.out.1, HA0w6.out.2, HA1w6.out.cell 0, HA1w6.out.cell 1, HA1w6.out.cell 2⟩
    refine hK.out _ _ (fun _ => hS) ?_
    clear hK K
    try simp only [Act.put, sA, s0, sS]
    obtain ⟨z0, z1⟩ := HZw6.out.all2
    have fz := HZw6.out.frozen
    refine wpAnyV_one (i := 6) (by kernel_rfl) rfl (fun K hK => ?_)
    go_simp
    refine hK.out _ _ (fun h => absurd rfl h) ?_
    clear hK K
    refine wpAnyV_done (by kernel_rfl) ?_
    try simp only [Act.put, sA, s0, sS]
    have hk6 : Kept (fun b => b = w3.heap.size) w6 ((w6.setCell ⟨w3.heap.size, 0, none⟩ (.bool r0.1)).setCell ⟨w3.heap.size, 1, none⟩ (.slice aW nW cW)) := Kept.setCell (R := fun b => b = w3.heap.size) (Kept.setCell (R := fun b => b = w3.heap.size) (Kept.refl _ _) (p := ⟨w3.heap.size, 0, none⟩) (.inr rfl) _) (p := ⟨w3.heap.size, 1, none⟩) (.inr rfl) _
    have hB6 := (HZw6.out.stored 0 (.bool r0.1)).stored 1 (.slice aW nW cW)
    have HZ6 := (show Hid (HRes w1 ((w6.setCell ⟨w3.heap.size, 0, none⟩ (.bool r0.1)).setCell ⟨w3.heap.size, 1, none⟩ (.slice aW nW cW)) r0 (.pointer (some ⟨w3.heap.size, 0, none⟩))) from ⟨w3.heap.size, aW, nW, cW, qsW, rfl, by omega, hB6.lt, hB6, HEW.out, fun b hb => by have h1 := HFW.out b hb; omega, HWw6.out.kept hk6 (fun b hb e => by have h1 := HFW.out b hb; omega), Kept.next (HQQw6.out : Same w1 w6) hk6 (fun j hj e => by omega)⟩)
    clear hk6 hB6 hS z0 z1 fz
    go_wp2_with fail
    go_meet
    case rel => exact HZ6
  ·
   go_simp
   generalize hwd : (w2.alloc (.cells #[.bool false, .slice none 0 0] 31)) = w3
   have hk : Same (w2.alloc (.cells #[.bool false, .slice none 0 0] 31)) w3 := by rw [← hwd]; exact Kept.refl _ _
   clear hwd
   have hkk : Same w2 w3 := ((Kept.refl _ _).alloc _).trans hk
   have hzw3 := hk.size
   rw [World.size_alloc] at hzw3
   have HA0w3 := (show Hid (Box w3 (w.heap.size) (.slice a0a dur0.length c0a) (.slice a0b ps0.length c0b)) from HA0w2.out.same hkk)
   have HA1w3 := (show Hid (Blk w3 (w.heap.size + 1) 27 [.int .i64 gp1, .int .i64 gf1, .int .i64 gl1]) from HA1w2.out.same hkk)
   have HQQw3 := (show Hid (SameF w1 w3) from HQQw2.out.same hkk)
   have HZw3 := (show Hid (Blk w3 (w2.heap.size) 31 [.bool false, .slice none 0 0]) from (Blk.new w2 #[.bool false, .slice none 0 0] 31).same hk)
   have HKw3 := hid (HKw2.out.trans hkk)
   clear hkk hk
   have hS : Y2 w3 := ⟨HA0w3.out.1, HA0w3.out.2, HA1w3.out.cell 0, HA1w3.out.cell 1, HA1w3.out.cell 2⟩
   refine hK.out _ _ (fun _ => hS) ?_
   clear hK K
   try simp only [Act.put, sA, s0, sS]
   refine wpAnyV_one (i := 1) (by kernel_rfl) rfl (fun K hK => ?_)
   go_simp
   refine (toDisk_any _ _ dur0 ps0 _ (by omega) (by omega) (fun p hp => Nat.le_trans (HS0.out p hp) (by omega)) (HV0.out.same HKw3.out)).mono ?_
   rintro e w4 ⟨gC0, gC0', qsC0, rfl, hq, hf, ho, hk⟩
   have HQC0 : Hid (dataP qsC0 = dataP ps0) := hq
   have HFC0 := (show Hid (∀ b, footD (.slice (some ⟨gC0, 0, none⟩) dur0.length dur0.length) (.slice (some ⟨gC0', 0, none⟩) ps0.length ps0.length) qsC0 b → w3.heap.size ≤ b ∧ b < w4.heap.size) from fun b hb => ⟨hf b hb, (ho.lt b hb).2⟩)
   have HC0w4 := (show Hid (OwnD 0 79 5 w4 (.slice (some ⟨gC0, 0, none⟩) dur0.length dur0.length) (.slice (some ⟨gC0', 0, none⟩) ps0.length ps0.length) dur0 qsC0) from ho)
   clear hf ho hq
   have hkk : Same w3 w4 := hk
   have hzw4 := hkk.size
   have HA0w4 := (show Hid (Box w4 (w.heap.size) (.slice a0a dur0.length c0a) (.slice a0b ps0.length c0b)) from HA0w3.out.same hkk)
   have HA1w4 := (show Hid (Blk w4 (w.heap.size + 1) 27 [.int .i64 gp1, .int .i64 gf1, .int .i64 gl1]) from HA1w3.out.same hkk)
   have HQQw4 := (show Hid (SameF w1 w4) from HQQw3.out.same hkk)
   have HZw4 := (show Hid (Blk w4 (w2.heap.size) 31 [.bool false, .slice none 0 0]) from HZw3.out.same hkk)
   have HKw4 := hid (HKw3.out.trans hkk)
   clear hkk hk
   have hS : Y2 w4 := ⟨HA0w4.out.1, HA0w4.out.2, HA1w4.out.cell 0, HA1w4.out.cell 1, HA1w4.out.cell 2⟩
   refine hK.out _ _ (fun _ => hS) ?_
   clear hK K
   try simp only [Act.put, sA, s0, sS]
   refine wpAnyV_one (i := 3) (by kernel_rfl) rfl (fun K hK => ?_)
   go_simp
   refine (toGeo_any gp1 gf1 gl1 _).mono ?_
   rintro e w5 ⟨rfl, hk⟩
   have hkk : Same w4 w5 := hk
   have hzw5 := hkk.size
   have HA0w5 := (show Hid (Box w5 (w.heap.size) (.slice a0a dur0.length c0a) (.slice a0b ps0.length c0b)) from HA0w4.out.same hkk)
   have HA1w5 := (show Hid (Blk w5 (w.heap.size + 1) 27 [.int .i64 gp1, .int .i64 gf1, .int .i64 gl1]) from HA1w4.out.same hkk)
   have HQQw5 := (show Hid (SameF w1 w5) from HQQw4.out.same hkk)
   have HZw5 := (show Hid (Blk w5 (w2.heap.size) 31 [.bool false, .slice none 0 0]) from HZw4.out.same hkk)
   have HC0w5 := (show Hid (OwnD 0 79 5 w5 (.slice (some ⟨gC0, 0, none⟩) dur0.length dur0.length) (.slice (some ⟨gC0', 0, none⟩) ps0.length ps0.length) dur0 qsC0) from HC0w4.out.same hkk)
   have HKw5 := hid (HKw4.out.trans hkk)
   clear hkk hk
   have hS : Y2 w5 := ⟨HA0w5.out.1, HA0w5.out.2, HA1w5.out.cell 0, HA1w5.out.cell 1, HA1w5.out.cell 2⟩
   refine hK.out _ _ (fun _ => hS) ?_
   clear hK K
   try simp only [Act.put, sA, s0, sS]
   refine wpAnyV_one (i := 4) (by kernel_rfl) rfl (fun K hK => ?_)
   go_simp
   refine (specHeap_any gp1 gf1 gl1 _ _ dur0 qsC0 _ (HB0.out qsC0 HQC0.out) (HC0w5.out.rd)).mono ?_
   rintro e w6 ⟨aW, nW, cW, qsW, rfl, hR, hf, ho, hk⟩
   rw [HQC0.out, HR.out] at hR
   rw [HQC0.out, HR.out]
   have HEW := (show Hid (datHeapRecordS qsW = r0.2) from hR)
   have HFW := (show Hid (∀ b, footR kHeapRecord (.slice aW nW cW) qsW b → w5.heap.size ≤ b ∧ b < w6.heap.size) from fun b hb => ⟨hf b hb, (ho.lt b hb).2⟩)
   have HWw6 := (show Hid (OwnR kHeapRecord 0 56 5 w6 (.slice aW nW cW) qsW) from ho)
   clear hR hf ho
   have hkk : Same w5 w6 := hk
   have hzw6 := hkk.size
   have HA0w6 := (show Hid (Box w6 (w.heap.size) (.slice a0a dur0.length c0a) (.slice a0b ps0.length c0b)) from HA0w5.out.same hkk)
   have HA1w6 := (show Hid (Blk w6 (w.heap.size + 1) 27 [.int .i64 gp1, .int .i64 gf1, .int .i64 gl1]) from HA1w5.out.same hkk)
   have HQQw6 := (show Hid (SameF w1 w6) from HQQw5.out.same hkk)
   have HZw6 := (show Hid (Blk w6 (w2.heap.size) 31 [.bool false, .slice none 0 0]) from HZw5.out.same hkk)
   have HC0w6 := (show Hid (OwnD 0 79 5 w6 (.slice (some ⟨gC0, 0, none⟩) dur0.length dur0.length) (.slice (some ⟨gC0', 0, none⟩) ps0.length ps0.length) dur0 qsC0) from HC0w5.out.same hkk)
   have HKw6 := hid (HKw5.out.trans hkk)
   clear hkk hk
   have hS : Y2 w6 := ⟨HA0w6.out.1, HA0w6.out.2, HA1w6.out.cell 0, HA1w6.out.cell 1, HA1w6.out.cell 2⟩
   refine hK.out _ _ (fun _ => hS) ?_
   clear hK K
   try simp only [Act.put, sA, s0, sS]
   obtain ⟨z0, z1⟩ := HZw6.out.all2
   have fz := HZw6.out.frozen
   refine wpAnyV_one (i := 6) (by kernel_rfl) rfl (fun K hK => ?_)
   go_simp
   refine hK.out _ _ (fun h => absurd rfl h) ?_
   clear hK K
   refine wpAnyV_done (by kernel_rfl) ?_
   try simp only [Act.put, sA, s0, sS]
   have hk6 : Kept (fun b => b = w2.heap.size) w6 ((w6.setCell ⟨w2.heap.size, 0, none⟩ (.bool r0.1)).setCell ⟨w2.heap.size, 1, none⟩ (.slice aW nW cW)) := Kept.setCell (R := fun b => b = w2.heap.size) (Kept.setCell (R := fun b => b = w2.heap.size) (Kept.refl _ _) (p := ⟨w2.heap.size, 0, none⟩) (.inr rfl) _) (p := ⟨w2.heap.size, 1, none⟩) (.inr rfl) _
   have hB6 := (HZw6.out.stored 0 (.bool r0.1)).stored 1 (.slice aW nW cW)
   have HZ6 := (show Hid (HRes w1 ((w6.setCell ⟨w2.heap.size, 0, none⟩ (.bool r0.1)).setCell ⟨w2.heap.size, 1, none⟩ (.slice aW nW cW)) r0 (.pointer (some ⟨w2.heap.size, 0, none⟩))) from ⟨w2.heap.size, aW, nW, cW, qsW, rfl, by omega, hB6.lt, hB6, HEW.out, fun b hb => by have h1 := HFW.out b hb; omega, HWw6.out.kept hk6 (fun b hb e => by have h1 := HFW.out b hb; omega), Kept.next (HQQw6.out : Same w1 w6) hk6 (fun j hj e => by omega)⟩)
   clear hk6 hB6 hS z0 z1 fz
   go_wp2_with fail
   go_meet
   case rel => exact HZ6
 case rest =>
 obtain ⟨w27, hwc⟩ : ∃ x, x = wc := ⟨_, rfl⟩
 subst hwc
 obtain ⟨BW, aW, nW, cW, qsW, rfl, hBaW, hBbW, hb, hR, hf, ho, hk⟩ := hcut.out
 clear hcut
 have HEW := (show Hid (datHeapRecordS qsW = r0.2) from hR)
 have HFW := (show Hid (∀ b, footR kHeapRecord (.slice aW nW cW) qsW b → (w1.heap.size ≤ b ∧ b < w27.heap.size) ∧ b ≠ BW) from fun b hb => ⟨⟨(hf b hb).1, (ho.lt b hb).2⟩, (hf b hb).2⟩)
 have HWw27 := (show Hid (OwnR kHeapRecord 0 56 5 w27 (.slice aW nW cW) qsW) from ho)
 have HZw27 := (show Hid (Blk w27 (BW) 31 [.bool r0.1, .slice aW nW cW]) from hb)
 clear hR hf ho hb
 have hkk : Same w1 w27 := hk
 have hzw27 := hkk.size
 have HA0w27 := (show Hid (Box w27 (w.heap.size) (.slice a0a dur0.length c0a) (.slice a0b ps0.length c0b)) from HA0w1.out.same hkk)
 have HA1w27 := (show Hid (Blk w27 (w.heap.size + 1) 27 [.int .i64 gp1, .int .i64 gf1, .int .i64 gl1]) from HA1w1.out.same hkk)
 have HKw27 := hid (HKw1.out.trans hkk)
 clear hkk hk
 obtain ⟨A01, A02⟩ := HA0w27.out
 have lA0 := HA0w27.out.lt
 have cA1_0 : w27.cell? ⟨w.heap.size + 1, 0, none⟩ = some (.int .i64 gp1) := HA1w27.out.cell 0
 have cA1_1 : w27.cell? ⟨w.heap.size + 1, 1, none⟩ = some (.int .i64 gf1) := HA1w27.out.cell 1
 have cA1_2 : w27.cell? ⟨w.heap.size + 1, 2, none⟩ = some (.int .i64 gl1) := HA1w27.out.cell 2
 have lA1 := HA1w27.out.lt
 have cZ_0 : w27.cell? ⟨BW, 0, none⟩ = some (.bool r0.1) := HZw27.out.cell 0
 have cZ_1 : w27.cell? ⟨BW, 1, none⟩ = some (.slice aW nW cW) := HZw27.out.cell 1
 have lZ := HZw27.out.lt
 go_wp2_with fail
 refine (toDisk_any _ _ dur0 ps0 _ (by omega) (by omega) (fun p hp => Nat.le_trans (HS0.out p hp) (by omega)) (HV0.out.same HKw27.out)).mono ?_
 rintro e w28 ⟨gX0, gX0', qsX0, rfl, hq, hf, ho, hk⟩
 have HQX0 : Hid (dataP qsX0 = dataP ps0) := hq
 have HFX0 := (show Hid (∀ b, footD (.slice (some ⟨gX0, 0, none⟩) dur0.length dur0.length) (.slice (some ⟨gX0', 0, none⟩) ps0.length ps0.length) qsX0 b → w27.heap.size ≤ b ∧ b < w28.heap.size) from fun b hb => ⟨hf b hb, (ho.lt b hb).2⟩)
 have HX0w28 := (show Hid (OwnD 0 79 5 w28 (.slice (some ⟨gX0, 0, none⟩) dur0.length dur0.length) (.slice (some ⟨gX0', 0, none⟩) ps0.length ps0.length) dur0 qsX0) from ho)
 clear hf ho hq
 have hkk : Same w27 w28 := hk
 have hzw28 := hkk.size
 have HA0w28 := (show Hid (Box w28 (w.heap.size) (.slice a0a dur0.length c0a) (.slice a0b ps0.length c0b)) from HA0w27.out.same hkk)
 have HA1w28 := (show Hid (Blk w28 (w.heap.size + 1) 27 [.int .i64 gp1, .int .i64 gf1, .int .i64 gl1]) from HA1w27.out.same hkk)
 have HWw28 := (show Hid (OwnR kHeapRecord 0 56 5 w28 (.slice aW nW cW) qsW) from HWw27.out.same hkk)
 have HZw28 := (show Hid (Blk w28 (BW) 31 [.bool r0.1, .slice aW nW cW]) from HZw27.out.same hkk)
 have HKw28 := hid (HKw27.out.trans hkk)
 clear hkk hk
 clear A01 A02 lA0
 clear cA1_0 cA1_1 cA1_2 lA1 cZ_0 cZ_1 lZ
 obtain ⟨A01, A02⟩ := HA0w28.out
 have lA0 := HA0w28.out.lt
 have cA1_0 : w28.cell? ⟨w.heap.size + 1, 0, none⟩ = some (.int .i64 gp1) := HA1w28.out.cell 0
 have cA1_1 : w28.cell? ⟨w.heap.size + 1, 1, none⟩ = some (.int .i64 gf1) := HA1w28.out.cell 1
 have cA1_2 : w28.cell? ⟨w.heap.size + 1, 2, none⟩ = some (.int .i64 gl1) := HA1w28.out.cell 2
 have lA1 := HA1w28.out.lt
 have cZ_0 : w28.cell? ⟨BW, 0, none⟩ = some (.bool r0.1) := HZw28.out.cell 0
 have cZ_1 : w28.cell? ⟨BW, 1, none⟩ = some (.slice aW nW cW) := HZw28.out.cell 1
 have lZ := HZw28.out.lt
 go_wp2_with fail
 generalize hwd : (w28.alloc (.cells #[(.slice (some ⟨gX0, 0, none⟩) dur0.length dur0.length), (.slice (some ⟨gX0', 0, none⟩) ps0.length ps0.length)] 35)) = w29
 have hk : Same (w28.alloc (.cells #[(.slice (some ⟨gX0, 0, none⟩) dur0.length dur0.length), (.slice (some ⟨gX0', 0, none⟩) ps0.length ps0.length)] 35)) w29 := by rw [← hwd]; exact Kept.refl _ _
 clear hwd
 clear A01 A02 lA0
 clear cA1_0 cA1_1 cA1_2 lA1 cZ_0 cZ_1 lZ
 have hkk : Same w28 w29 := ((Kept.refl _ _).alloc _).trans hk
 have hzw29 := hk.size
 rw [World.size_alloc] at hzw29
 have HA0w29 := (show Hid (Box w29 (w.heap.size) (.slice a0a dur0.length c0a) (.slice a0b ps0.length c0b)) from HA0w28.out.same hkk)
 have HA1w29 := (show Hid (Blk w29 (w.heap.size + 1) 27 [.int .i64 gp1, .int .i64 gf1, .int .i64 gl1]) from HA1w28.out.same hkk)
 have HWw29 := (show Hid (OwnR kHeapRecord 0 56 5 w29 (.slice aW nW cW) qsW) from HWw28.out.same hkk)
 have HZw29 := (show Hid (Blk w29 (BW) 31 [.bool r0.1, .slice aW nW cW]) from HZw28.out.same hkk)
 have HX0w29 := (show Hid (OwnD 0 79 5 w29 (.slice (some ⟨gX0, 0, none⟩) dur0.length dur0.length) (.slice (some ⟨gX0', 0, none⟩) ps0.length ps0.length) dur0 qsX0) from HX0w28.out.same hkk)
 have HT0w29 := (show Hid (Box w29 (w28.heap.size) (.slice (some ⟨gX0, 0, none⟩) dur0.length dur0.length) (.slice (some ⟨gX0', 0, none⟩) ps0.length ps0.length)) from (Box.new _ _ _ _).same hk)
 have HKw29 := hid (HKw28.out.trans hkk)
 clear hkk hk
 go_cut [8] (fun v wc => Hid (HRes w29 wc r0 v))
 case first =>
  let Y1 : World → Prop := fun wx : World => wx.cell? ⟨w28.heap.size, 0, none⟩ = some ((.slice (some ⟨gX0, 0, none⟩) dur0.length dur0.length)) ∧ wx.cell? ⟨w28.heap.size, 1, none⟩ = some ((.slice (some ⟨gX0', 0, none⟩) ps0.length ps0.length)) ∧ wx.cell? ⟨w.heap.size + 1, 0, none⟩ = some (.int .i64 gp1) ∧ wx.cell? ⟨w.heap.size + 1, 1, none⟩ = some (.int .i64 gf1) ∧ wx.cell? ⟨w.heap.size + 1, 2, none⟩ = some (.int .i64 gl1)
  refine wp_region_V Y1 5 6 rfl (by kernel_rfl) ?_
  have HQQw29 : Hid (SameF w29 w29) := Kept.refl _ _
  generalize hwd : World.drew w29 = w30
  have hk : Same w29 w30 := by rw [← hwd]; exact (Kept.refl _ _).drew
  clear hwd
  have hkk : Same w29 w30 := hk
  have hzw30 := hkk.size
  have HA0w30 := (show Hid (Box w30 (w.heap.size) (.slice a0a dur0.length c0a) (.slice a0b ps0.length c0b)) from HA0w29.out.same hkk)
  have HA1w30 := (show Hid (Blk w30 (w.heap.size + 1) 27 [.int .i64 gp1, .int .i64 gf1, .int .i64 gl1]) from HA1w29.out.same hkk)
  have HWw30 := (show Hid (OwnR kHeapRecord 0 56 5 w30 (.slice aW nW cW) qsW) from HWw29.out.same hkk)
  have HZw30 := (show Hid (Blk w30 (BW) 31 [.bool r0.1, .slice aW nW cW]) from HZw29.out.same hkk)
  have HX0w30 := (show Hid (OwnD 0 79 5 w30 (.slice (some ⟨gX0, 0, none⟩) dur0.length dur0.length) (.slice (some ⟨gX0', 0, none⟩) ps0.length ps0.length) dur0 qsX0) from HX0w29.out.same hkk)
  have HT0w30 := (show Hid (Box w30 (w28.heap.size) (.slice (some ⟨gX0, 0, none⟩) dur0.length dur0.length) (.slice (some ⟨gX0', 0, none⟩) ps0.length ps0.length)) from HT0w29.out.same hkk)
  have HQQw30 := (show Hid (SameF w29 w30) from HQQw29.out.same hkk)
  have HKw30 := hid (HKw29.out.trans hkk)
  clear hkk hk
  have hS : Y1 w30 := ⟨HT0w30.out.1, HT0w30.out.2, HA1w30.out.cell 0, HA1w30.out.cell 1, HA1w30.out.cell 2⟩
  refine tk 0 25 hS ?_
  refine tk 1 26 hS ?_
  refine wpAnyV_two (i := 2) (j := 4) (by kernel_rfl) rfl rfl (fun K hK => ?_) (fun K hK => ?_)
  ·
   go_simp
   refine (toGeo_any gp1 gf1 gl1 _).mono ?_
   rintro e w31 ⟨rfl, hk⟩
   have hkk : Same w30 w31 := hk
   have hzw31 := hkk.size
   have HA0w31 := (show Hid (Box w31 (w.heap.size) (.slice a0a dur0.length c0a) (.slice a0b ps0.length c0b)) from HA0w30.out.same hkk)
   have HA1w31 := (show Hid (Blk w31 (w.heap.size + 1) 27 [.int .i64 gp1, .int .i64 gf1, .int .i64 gl1]) from HA1w30.out.same hkk)
   have HWw31 := (show Hid (OwnR kHeapRecord 0 56 5 w31 (.slice aW nW cW) qsW) from HWw30.out.same hkk)
   have HZw31 := (show Hid (Blk w31 (BW) 31 [.bool r0.1, .slice aW nW cW]) from HZw30.out.same hkk)
   have HX0w31 := (show Hid (OwnD 0 79 5 w31 (.slice (some ⟨gX0, 0, none⟩) dur0.length dur0.length) (.slice (some ⟨gX0', 0, none⟩) ps0.length ps0.length) dur0 qsX0) from HX0w30.out.same hkk)
   have HT0w31 := (show Hid (Box w31 (w28.heap.size) (.slice (some ⟨gX0, 0, none⟩) dur0.length dur0.length) (.slice (some ⟨gX0', 0, none⟩) ps0.length ps0.length)) from HT0w30.out.same hkk)
   have HQQw31 := (show Hid (SameF w29 w31) from HQQw30.out.same hkk)
   have HKw31 := hid (HKw30.out.trans hkk)
   clear hkk hk
   have hS : Y1 w31 := ⟨HT0w31.out.1, HT0w31.out.2, HA1w31.out.cell 0, HA1w31.out.cell 1, HA1w31.out.cell 2⟩
   refine hK.out _ _ (fun _ => hS) ?_
   clear hK K
   try simp only [Act.put, sA, s0, sS]
   refine wpAnyV_two (i := 3) (j := 4) (by kernel_rfl) rfl rfl (fun K hK => ?_) (fun K hK => ?_)
   ·
    go_simp
    refine (implHeap_any gp1 gf1 gl1 _ _ dur0 qsX0 _ (HB0.out qsX0 HQX0.out) (HX0w31.out.rd)).mono ?_
    rintro e w32 ⟨aG, nG, cG, qsG, rfl, hR, hf, ho, hk⟩
    rw [HQX0.out, HR.out] at hR
    rw [HQX0.out, HR.out]
    have HEG := (show Hid (datHeapRecordS qsG = r0.2) from hR)
    have HFG := (show Hid (∀ b, footR kHeapRecord (.slice aG nG cG) qsG b → w31.heap.size ≤ b ∧ b < w32.heap.size) from fun b hb => ⟨hf b hb, (ho.lt b hb).2⟩)
    have HGw32 := (show Hid (OwnR kHeapRecord 0 56 5 w32 (.slice aG nG cG) qsG) from ho)
    clear hR hf ho
    have hkk : Same w31 w32 := hk
    have hzw32 := hkk.size
    have HA0w32 := (show Hid (Box w32 (w.heap.size) (.slice a0a dur0.length c0a) (.slice a0b ps0.length c0b)) from HA0w31.out.same hkk)
    have HA1w32 := (show Hid (Blk w32 (w.heap.size + 1) 27 [.int .i64 gp1, .int .i64 gf1, .int .i64 gl1]) from HA1w31.out.same hkk)
    have HWw32 := (show Hid (OwnR kHeapRecord 0 56 5 w32 (.slice aW nW cW) qsW) from HWw31.out.same hkk)
    have HZw32 := (show Hid (Blk w32 (BW) 31 [.bool r0.1, .slice aW nW cW]) from HZw31.out.same hkk)
    have HX0w32 := (show Hid (OwnD 0 79 5 w32 (.slice (some ⟨gX0, 0, none⟩) dur0.length dur0.length) (.slice (some ⟨gX0', 0, none⟩) ps0.length ps0.length) dur0 qsX0) from HX0w31.out.same hkk)
    have HT0w32 := (show Hid (Box w32 (w28.heap.size) (.slice (some ⟨gX0, 0, none⟩) dur0.length dur0.length) (.slice (some ⟨gX0', 0, none⟩) ps0.length ps0.length)) from HT0w31.out.same hkk)
    have HQQw32 := (show Hid (SameF w29 w32) from HQQw31.out.same hkk)
    have HKw32 := hid (HKw31.out.trans hkk)
    clear hkk hk
    have hS : Y1 w32 := ⟨HT0w32.out.1, HT0w32.out.2, HA1w32.out.cell 0, HA1w32.out.cell 1, HA1w32.out.cell 2⟩
    refine hK.out _ _ (fun _ => hS) ?_
    clear hK K
    try simp only [Act.put, sA, s0, sS]
    refine wpAnyV_one (i := 4) (by kernel_rfl) rfl (fun K hK => ?_)
    go_simp
    generalize hwd : (w32.alloc (.cells #[.bool false, .slice none 0 0] 31)) = w33
    have hk : Same (w32.alloc (.cells #[.bool false, .slice none 0 0] 31)) w33 := by rw [← hwd]; exact Kept.refl _ _
    clear hwd
    have hkk : Same w32 w33 := ((Kept.refl _ _).alloc _).trans hk
    have hzw33 := hk.size
    rw [World.size_alloc] at hzw33
    have HA0w33 := (show Hid (Box w33 (w.heap.size) (.slice a0a dur0.length c0a) (.slice a0b ps0.length c0b)) from HA0w32.out.same hkk)
    have HA1w33 := (show Hid (Blk w33 (w.heap.size + 1) 27 [.int .i64 gp1, .int .i64 gf1, .int .i64 gl1]) from HA1w32.out.same hkk)
    have HWw33 := (show Hid (OwnR kHeapRecord 0 56 5 w33 (.slice aW nW cW) qsW) from HWw32.out.same hkk)
    have HZw33 := (show Hid (Blk w33 (BW) 31 [.bool r0.1, .slice aW nW cW]) from HZw32.out.same hkk)
    have HX0w33 := (show Hid (OwnD 0 79 5 w33 (.slice (some ⟨gX0, 0, none⟩) dur0.length dur0.length) (.slice (some ⟨gX0', 0, none⟩) ps0.length ps0.length) dur0 qsX0) from HX0w32.out.same hkk)
    have HT0w33 := (show Hid (Box w33 (w28.heap.size) (.slice (some ⟨gX0, 0, none⟩) dur0.length dur0.length) (.slice (some ⟨gX0', 0, none⟩) ps0.length ps0.length)) from HT0w32.out.same hkk)
    have HQQw33 := (show Hid (SameF w29 w33) from HQQw32.out.same hkk)
    have HGw33 := (show Hid (OwnR kHeapRecord 0 56 5 w33 (.slice aG nG cG) qsG) from HGw32.out.same hkk)
    have HYw33 := (show Hid (Blk w33 (w32.heap.size) 31 [.bool false, .slice none 0 0]) from (Blk.new w32 #[.bool false, .slice none 0 0] 31).same hk)
    have HKw33 := hid (HKw32.out.trans hkk)
    clear hkk hk
    have hS : Y1 w33 := ⟨HT0w33.out.1, HT0w33.out.2, HA1w33.out.cell 0, HA1w33.out.cell 1, HA1w33.out.cell 2⟩
    refine hK.out _ _ (fun _ => hS) ?_
    clear hK K
    try simp only [Act.put, sA, s0, sS]
    obtain ⟨z0, z1⟩ := HYw33.out.all2
    have fz := HYw33.out.frozen
    refine wpAnyV_one (i := 5) (by kernel_rfl) rfl (fun K hK => ?_)
    go_simp
    refine hK.out _ _ (fun h => absurd rfl h) ?_
    clear hK K
    refine wpAnyV_done (by kernel_rfl) ?_
    try simp only [Act.put, sA, s0, sS]
    have hk6 : Kept (fun b => b = w32.heap.size) w33 ((w33.setCell ⟨w32.heap.size, 0, none⟩ (.bool r0.1)).setCell ⟨w32.heap.size, 1, none⟩ (.slice aG nG cG)) := Kept.setCell (R := fun b => b = w32.heap.size) (Kept.setCell (R := fun b => b = w32.heap.size) (Kept.refl _ _) (p := ⟨w32.heap.size, 0, none⟩) (.inr rfl) _) (p := ⟨w32.heap.size, 1, none⟩) (.inr rfl) _
    have hB6 := (HYw33.out.stored 0 (.bool r0.1)).stored 1 (.slice aG nG cG)
    have HZ6 := (show Hid (HRes w29 ((w33.setCell ⟨w32.heap.size, 0, none⟩ (.bool r0.1)).setCell ⟨w32.heap.size, 1, none⟩ (.slice aG nG cG)) r0 (.pointer (some ⟨w32.heap.size, 0, none⟩))) from ⟨w32.heap.size, aG, nG, cG, qsG, rfl, by omega, hB6.lt, hB6, HEG.out, fun b hb => by have h1 := HFG.out b hb; omega, HGw33.out.kept hk6 (fun b hb e => by have h1 := HFG.out b hb; omega), Kept.next (HQQw33.out : Same w29 w33) hk6 (fun j hj e => by omega)⟩)
    clear hk6 hB6 hS z0 z1 fz
    go_wp2_with fail
    go_meet
    case rel => exact HZ6
   ·
    go_simp
    generalize hwd : (w31.alloc (.cells #[.bool false, .slice none 0 0] 31)) = w32
    have hk : Same (w31.alloc (.cells #[.bool false, .slice none 0 0] 31)) w32 := by rw [← hwd]; exact Kept.refl _ _
    clear hwd
    have hkk : Same w31 w32 := ((Kept.refl _ _).alloc _).trans hk
    have hzw32 := hk.size
    rw [World.size_alloc] at hzw32
    have HA0w32 := (show Hid (Box w32 (w.heap.size) (.slice a0a dur0.length c0a) (.slice a0b ps0.length c0b)) from HA0w31.out.same hkk)
    have HA1w32 := (show Hid (Blk w32 (w.heap.size + 1) 27 [.int .i64 gp1, .int .i64 gf1, .int .i64 gl1]) from HA1w31.out.same hkk)
    have HWw32 := (show Hid (OwnR kHeapRecord 0 56 5 w32 (.slice aW nW cW) qsW) from HWw31.out.same hkk)
    have HZw32 := (show Hid (Blk w32 (BW) 31 [.bool r0.1, .slice aW nW cW]) from HZw31.out.same hkk)
    have HX0w32 := (show Hid (OwnD 0 79 5 w32 (.slice (some ⟨gX0, 0, none⟩) dur0.length dur0.length) (.slice (some ⟨gX0', 0, none⟩) ps0.length ps0.length) dur0 qsX0) from HX0w31.out.same hkk)
    have HT0w32 := (show Hid (Box w32 (w28.heap.size) (.slice (some ⟨gX0, 0, none⟩) dur0.length dur0.length) (.slice (some ⟨gX0', 0, none⟩) ps0.length ps0.length)) from HT0w31.out.same hkk)
    have HQQw32 := (show Hid (SameF w29 w32) from HQQw31.out.same hkk)
    have HYw32 := (show Hid (Blk w32 (w31.heap.size) 31 [.bool false, .slice none 0 0]) from (Blk.new w31 #[.bool false, .slice none 0 0] 31).same hk)
    have HKw32 := hid (HKw31.out.trans hkk)
    clear hkk hk
    have hS : Y1 w32 := ⟨HT0w32.out.1, HT0w32.out.2, HA1w32.out.cell 0, HA1w32.out.cell 1, HA1w32.out.cell 2⟩
    refine hK.out _ _ (fun _ => hS) ?_
    clear hK K
    try simp only [Act.put, sA, s0, sS]
    refine wpAnyV_one (i := 3) (by kernel_rfl) rfl (fun K hK => ?_)
    go_simp
    refine (implHeap_any gp1 gf1 gl1 _ _ dur0 qsX0 _ (HB0.out qsX0 HQX0.out) (HX0w32.out.rd)).mono ?_
    rintro e w33 ⟨aG, nG, cG, qsG, rfl, hR, hf, ho, hk⟩
    rw [HQX0.out, HR.out] at hR
    rw [HQX0.out, HR.out]
    have HEG := (show Hid (datHeapRecordS qsG = r0.2) from hR)
    have HFG := (show Hid (∀ b, footR kHeapRecord (.slice aG nG cG) qsG b → w32.heap.size ≤ b ∧ b < w33.heap.size) from fun b hb => ⟨hf b hb, (ho.lt b hb).2⟩)
    have HGw33 := (show Hid (OwnR kHeapRecord 0 56 5 w33 (.slice aG nG cG) qsG) from ho)
    clear hR hf ho
    have hkk : Same w32 w33 := hk
    have hzw33 := hkk.size
    have HA0w33 := (show Hid (Box w33 (w.heap.size) (.slice a0a dur0.length c0a) (.slice a0b ps0.length c0b)) from HA0w32.out.same hkk)
    have HA1w33 := (show Hid (Blk w33 (w.heap.size + 1) 27 [.int .i64 gp1, .int .i64 gf1, .int .i64 gl1]) from HA1w32.out.same hkk)
    have HWw33 := (show Hid (OwnR kHeapRecord 0 56 5 w33 (.slice aW nW cW) qsW) from HWw32.out.same hkk)
    have HZw33 := (show Hid (Blk w33 (BW) 31 [.bool r0.1, .slice aW nW cW]) from HZw32.out.same hkk)
    have HX0w33 := (show Hid (OwnD 0 79 5 w33 (.slice (some ⟨gX0, 0, none⟩) dur0.length dur0.length) (.slice (some ⟨gX0', 0, none⟩) ps0.length ps0.length) dur0 qsX0) from HX0w32.out.same hkk)
    have HT0w33 := (show Hid (Box w33 (w28.heap.size) (.slice (some ⟨gX0, 0, none⟩) dur0.length dur0.length) (.slice (some ⟨gX0', 0, none⟩) ps0.length ps0.length)) from HT0w32.out.same hkk)
    have HQQw33 := (show Hid (SameF w29 w33) from HQQw32.out.same hkk)
    have HYw33 := (show Hid (Blk w33 (w31.heap.size) 31 [.bool false, .slice none 0 0]) from HYw32.out.same hkk)
    have HKw33 := hid (HKw32.out.trans hkk)
    clear hkk hk
    have hS : Y1 w33 := ⟨HT0w33.out.1, HT0w33.out.2, HA1w33.out.cell 0, HA1w33.out.cell 1, HA1w33.out.cell 2⟩
    refine hK.out _ _ (fun _ => hS) ?_
    clear hK K
    try simp only [Act.put, sA, s0, sS]
    obtain ⟨z0, z1⟩ := HYw33.out.all2
    have fz := HYw33.out.frozen
    refine wpAnyV_one (i := 5) (by kernel_rfl) rfl (fun K hK => ?_)
    go_simp
    refine hK.out _ _ (fun h => absurd rfl h) ?_
    clear hK K
    refine wpAnyV_done (by kernel_rfl) ?_
    try simp only [Act.put, sA, s0, sS]
    have hk6 : Kept (fun b => b = w31.heap.size) w33 ((w33.setCell ⟨w31.heap.size, 0, none⟩ (.bool r0.1)).setCell ⟨w31.heap.size, 1, none⟩ (.slice aG nG cG)) := Kept.setCell (R := fun b => b = w31.heap.size) (Kept.setCell (R := fun b => b = w31.heap.size) (Kept.refl _ _) (p := ⟨w31.heap.size, 0, none⟩) (.inr rfl) _) (p := ⟨w31.heap.size, 1, none⟩) (.inr rfl) _
    have hB6 := (HYw33.out.stored 0 (.bool r0.1)).stored 1 (.slice aG nG cG)
    have HZ6 := (show Hid (HRes w29 ((w33.setCell ⟨w31.heap.size, 0, none⟩ (.bool r0.1)).setCell ⟨w31.heap.size, 1, none⟩ (.slice aG nG cG)) r0 (.pointer (some ⟨w31.heap.size, 0, none⟩))) from ⟨w31.heap.size, aG, nG, cG, qsG, rfl, by omega, hB6.lt, hB6, HEG.out, fun b hb => by have h1 := HFG.out b hb; omega, HGw33.out.kept hk6 (fun b hb e => by have h1 := HFG.out b hb; omega), Kept.next (HQQw33.out : Same w29 w33) hk6 (fun j hj e => by omega)⟩)
    clear hk6 hB6 hS z0 z1 fz
    go_wp2_with fail
    go_meet
    case rel => exact HZ6
  ·
   go_simp
   generalize hwd : (w30.alloc (.cells #[.bool false, .slice none 0 0] 31)) = w31
   have hk : Same (w30.alloc (.cells #[.bool false, .slice none 0 0] 31)) w31 := by rw [← hwd]; exact Kept.refl _ _
   clear hwd
   have hkk : Same w30 w31 := ((Kept.refl _ _).alloc _).trans hk
   have hzw31 := hk.size
   rw [World.size_alloc] at hzw31
   have HA0w31 := (show Hid (Box w31 (w.heap.size) (.slice a0a dur0.length c0a) (.slice a0b ps0.length c0b)) from HA0w30.out.same hkk)
   have HA1w31 := (show Hid (Blk w31 (w.heap.size + 1) 27 [.int .i64 gp1, .int .i64 gf1, .int .i64 gl1]) from HA1w30.out.same hkk)
   have HWw31 := (show Hid (OwnR kHeapRecord 0 56 5 w31 (.slice aW nW cW) qsW) from HWw30.out.same hkk)
   have HZw31 := (show Hid (Blk w31 (BW) 31 [.bool r0.1, .slice aW nW cW]) from HZw30.out.same hkk)
   have HX0w31 := (show Hid (OwnD 0 79 5 w31 (.slice (some ⟨gX0, 0, none⟩) dur0.length dur0.length) (.slice (some ⟨gX0', 0, none⟩) ps0.length ps0.length) dur0 qsX0) from HX0w30.out.same hkk)
   have HT0w31 := (show Hid (Box w31 (w28.heap.size) (.slice (some ⟨gX0, 0, none⟩) dur0.length dur0.length) (.slice (some ⟨gX0', 0, none⟩) ps0.length ps0.length)) from HT0w30.out.same hkk)
   have HQQw31 := (show Hid (SameF w29 w31) from HQQw30.out.same hkk)
   have HYw31 := (show Hid (Blk w31 (w30.heap.size) 31 [.bool false, .slice none 0 0]) from (Blk.new w30 #[.bool false, .slice none 0 0] 31).same hk)
   have HKw31 := hid (HKw30.out.trans hkk)
   clear hkk hk
   have hS : Y1 w31 := ⟨HT0w31.out.1, HT0w31.out.2, HA1w31.out.cell 0, HA1w31.out.cell 1, HA1w31.out.cell 2⟩
   refine hK.out _ _ (fun _ => hS) ?_
   clear hK K
   try simp only [Act.put, sA, s0, sS]
   refine wpAnyV_one (i := 2) (by kernel_rfl) rfl (fun K hK => ?_)
   go_simp
   refine (toGeo_any gp1 gf1 gl1 _).mono ?_
   rintro e w32 ⟨rfl, hk⟩
   have hkk : Same w31 w32 := hk
   have hzw32 := hkk.size
   have HA0w32 := (show Hid (Box w32 (w.heap.size) (.slice a0a dur0.length c0a) (.slice a0b ps0.length c0b)) from HA0w31.out.same hkk)
   have HA1w32 := (show Hid (Blk w32 (w.heap.size + 1) 27 [.int .i64 gp1, .int .i64 gf1, .int .i64 gl1]) from HA1w31.out.same hkk)
   have HWw32 := (show Hid (OwnR kHeapRecord 0 56 5 w32 (.slice aW nW cW) qsW) from HWw31.out.same hkk)
   have HZw32 := (show Hid (Blk w32 (BW) 31 [.bool r0.1, .slice aW nW cW]) from HZw31.out.same hkk)
   have HX0w32 := (show Hid (OwnD 0 79 5 w32 (.slice (some ⟨gX0, 0, none⟩) dur0.length dur0.length) (.slice (some ⟨gX0', 0, none⟩) ps0.length ps0.length) dur0 qsX0) from HX0w31.out.same hkk)
   have HT0w32 := (show Hid (Box w32 (w28.heap.size) (.slice (some ⟨gX0, 0, none⟩) dur0.length dur0.length) (.slice (some ⟨gX0', 0, none⟩) ps0.length ps0.length)) from HT0w31.out.same hkk)
   have HQQw32 := (show Hid (SameF w29 w32) from HQQw31.out.same hkk)
   have HYw32 := (show Hid (Blk w32 (w30.heap.size) 31 [.bool false, .slice none 0 0]) from HYw31.out.same hkk)
   have HKw32 := hid (HKw31.out.trans hkk)
   clear hkk hk
   have hS : Y1 w32 := ⟨HT0w32.out.1, HT0w32.out.2, HA1w32.out.cell 0, HA1w32.out.cell 1, HA1w32.out.cell 2⟩
   refine hK.out _ _ (fun _ => hS) ?_
   clear hK K
   try simp only [Act.put, sA, s0, sS]
   refine wpAnyV_one (i := 3) (by kernel_rfl) rfl (fun K hK => ?_)
   go_simp
   refine (implHeap_any gp1 gf1 gl1 _ _ dur0 qsX0 _ (HB0.out qsX0 HQX0.out) (HX0w32.out.rd)).mono ?_
   rintro e w33 ⟨aG, nG, cG, qsG, rfl, hR, hf, ho, hk⟩
   rw [HQX0.out, HR.out] at hR
   rw [HQX0.out, HR.out]
   have HEG := (show Hid (datHeapRecordS qsG = r0.2) from hR)
   have HFG := (show Hid (∀ b, footR kHeapRecord (.slice aG nG cG) qsG b → w32.heap.size ≤ b ∧ b < w33.heap.size) from fun b hb => ⟨hf b hb, (ho.lt b hb).2⟩)
   have HGw33 := (show Hid (OwnR kHeapRecord 0 56 5 w33 (.slice aG nG cG) qsG) from ho)
   clear hR hf ho
   have hkk : Same w32 w33 := hk
   have hzw33 := hkk.size
   have HA0w33 := (show Hid (Box w33 (w.heap.size) (.slice a0a dur0.length c0a) (.slice a0b ps0.length c0b)) from HA0w32.out.same hkk)
   have HA1w33 := (show Hid (Blk w33 (w.heap.size + 1) 27 [.int .i64 gp1, .int .i64 gf1, .int .i64 gl1]) from HA1w32.out.same hkk)
   have HWw33 := (show Hid (OwnR kHeapRecord 0 56 5 w33 (.slice aW nW cW) qsW) from HWw32.out.same hkk)
   have HZw33 := (show Hid (Blk w33 (BW) 31 [.bool r0.1, .slice aW nW cW]) from HZw32.out.same hkk)
   have HX0w33 := (show Hid (OwnD 0 79 5 w33 (.slice (some ⟨gX0, 0, none⟩) dur0.length dur0.length) (.slice (some ⟨gX0', 0, none⟩) ps0.length ps0.length) dur0 qsX0) from HX0w32.out.same hkk)
   have HT0w33 := (show Hid (Box w33 (w28.heap.size) (.slice (some ⟨gX0, 0, none⟩) dur0.length dur0.length) (.slice (some ⟨gX0', 0, none⟩) ps0.length ps0.length)) from HT0w32.out.same hkk)
   have HQQw33 := (show Hid (SameF w29 w33) from HQQw32.out.same hkk)
   have HYw33 := (show Hid (Blk w33 (w30.heap.size) 31 [.bool false, .slice none 0 0]) from HYw32.out.same hkk)
   have HKw33 := hid (HKw32.out.trans hkk)
   clear hkk hk
   have hS : Y1 w33 := ⟨HT0w33.out.1, HT0w33.out.2, HA1w33.out.cell 0, HA1w33.out.cell 1, HA1w33.out.cell 2⟩
   refine hK.out _ _ (fun _ => hS) ?_
   clear hK K
   try simp only [Act.put, sA, s0, sS]
   obtain ⟨z0, z1⟩ := HYw33.out.all2
   have fz := HYw33.out.frozen
   refine wpAnyV_one (i := 5) (by kernel_rfl) rfl (fun K hK => ?_)
   go_simp
   refine hK.out _ _ (fun h => absurd rfl h) ?_
   clear hK K
   refine wpAnyV_done (by kernel_rfl) ?_
   try simp only [Act.put, sA, s0, sS]
   have hk6 : Kept (fun b => b = w30.heap.size) w33 ((w33.setCell ⟨w30.heap.size, 0, none⟩ (.bool r0.1)).setCell ⟨w30.heap.size, 1, none⟩ (.slice aG nG cG)) := Kept.setCell (R := fun b => b = w30.heap.size) (Kept.setCell (R := fun b => b = w30.heap.size) (Kept.refl _ _) (p := ⟨w30.heap.size, 0, none⟩) (.inr rfl) _) (p := ⟨w30.heap.size, 1, none⟩) (.inr rfl) _
   have hB6 := (HYw33.out.stored 0 (.bool r0.1)).stored 1 (.slice aG nG cG)
   have HZ6 := (show Hid (HRes w29 ((w33.setCell ⟨w30.heap.size, 0, none⟩ (.bool r0.1)).setCell ⟨w30.heap.size, 1, none⟩ (.slice aG nG cG)) r0 (.pointer (some ⟨w30.heap.size, 0, none⟩))) from ⟨w30.heap.size, aG, nG, cG, qsG, rfl, by omega, hB6.lt, hB6, HEG.out, fun b hb => by have h1 := HFG.out b hb; omega, HGw33.out.kept hk6 (fun b hb e => by have h1 := HFG.out b hb; omega), Kept.next (HQQw33.out : Same w29 w33) hk6 (fun j hj e => by omega)⟩)
   clear hk6 hB6 hS z0 z1 fz
   go_wp2_with fail
   go_meet
   case rel => exact HZ6
 case rest =>
 obtain ⟨w54, hwc⟩ : ∃ x, x = wc := ⟨_, rfl⟩
 subst hwc
 obtain ⟨BG, aG, nG, cG, qsG, rfl, hBaG, hBbG, hb, hR, hf, ho, hk⟩ := hcut.out
 clear hcut
 have HEG := (show Hid (datHeapRecordS qsG = r0.2) from hR)
 have HFG := (show Hid (∀ b, footR kHeapRecord (.slice aG nG cG) qsG b → (w29.heap.size ≤ b ∧ b < w54.heap.size) ∧ b ≠ BG) from fun b hb => ⟨⟨(hf b hb).1, (ho.lt b hb).2⟩, (hf b hb).2⟩)
 have HGw54 := (show Hid (OwnR kHeapRecord 0 56 5 w54 (.slice aG nG cG) qsG) from ho)
 have HYw54 := (show Hid (Blk w54 (BG) 31 [.bool r0.1, .slice aG nG cG]) from hb)
 clear hR hf ho hb
 have hkk : Same w29 w54 := hk
 have hzw54 := hkk.size
 have HA0w54 := (show Hid (Box w54 (w.heap.size) (.slice a0a dur0.length c0a) (.slice a0b ps0.length c0b)) from HA0w29.out.same hkk)
 have HA1w54 := (show Hid (Blk w54 (w.heap.size + 1) 27 [.int .i64 gp1, .int .i64 gf1, .int .i64 gl1]) from HA1w29.out.same hkk)
 have HWw54 := (show Hid (OwnR kHeapRecord 0 56 5 w54 (.slice aW nW cW) qsW) from HWw29.out.same hkk)
 have HZw54 := (show Hid (Blk w54 (BW) 31 [.bool r0.1, .slice aW nW cW]) from HZw29.out.same hkk)
 have HX0w54 := (show Hid (OwnD 0 79 5 w54 (.slice (some ⟨gX0, 0, none⟩) dur0.length dur0.length) (.slice (some ⟨gX0', 0, none⟩) ps0.length ps0.length) dur0 qsX0) from HX0w29.out.same hkk)
 have HT0w54 := (show Hid (Box w54 (w28.heap.size) (.slice (some ⟨gX0, 0, none⟩) dur0.length dur0.length) (.slice (some ⟨gX0', 0, none⟩) ps0.length ps0.length)) from HT0w29.out.same hkk)
 have HKw54 := hid (HKw29.out.trans hkk)
 clear hkk hk
 obtain ⟨A01, A02⟩ := HA0w54.out
 have lA0 := HA0w54.out.lt
 obtain ⟨T01, T02⟩ := HT0w54.out
 have lT0 := HT0w54.out.lt
 have cA1_0 : w54.cell? ⟨w.heap.size + 1, 0, none⟩ = some (.int .i64 gp1) := HA1w54.out.cell 0
 have cA1_1 : w54.cell? ⟨w.heap.size + 1, 1, none⟩ = some (.int .i64 gf1) := HA1w54.out.cell 1
 have cA1_2 : w54.cell? ⟨w.heap.size + 1, 2, none⟩ = some (.int .i64 gl1) := HA1w54.out.cell 2
 have lA1 := HA1w54.out.lt
 have cZ_0 : w54.cell? ⟨BW, 0, none⟩ = some (.bool r0.1) := HZw54.out.cell 0
 have cZ_1 : w54.cell? ⟨BW, 1, none⟩ = some (.slice aW nW cW) := HZw54.out.cell 1
 have lZ := HZw54.out.lt
 have cY_0 : w54.cell? ⟨BG, 0, none⟩ = some (.bool r0.1) := HYw54.out.cell 0
 have cY_1 : w54.cell? ⟨BG, 1, none⟩ = some (.slice aG nG cG) := HYw54.out.cell 1
 have lY := HYw54.out.lt
 go_wp2_with fail
 refine (eqHeapResult_own 0 r0.1 _ _ qsG qsW _ (Nat.le_trans (HSM.out qsG HEG.out).1 (by omega)) (HEG.out.trans HEW.out.symm) (fun p hp => by have h1 := (HSM.out qsG HEG.out).2; have h2 := sizeHeapRecordS_mem qsG p hp; omega) HGw54.out HWw54.out).mono ?_
 rintro e w55 ⟨rfl, hk⟩
 have hkk : Same w54 w55 := hk
 have hzw55 := hkk.size
 have HA0w55 := (show Hid (Box w55 (w.heap.size) (.slice a0a dur0.length c0a) (.slice a0b ps0.length c0b)) from HA0w54.out.same hkk)
 have HA1w55 := (show Hid (Blk w55 (w.heap.size + 1) 27 [.int .i64 gp1, .int .i64 gf1, .int .i64 gl1]) from HA1w54.out.same hkk)
 have HWw55 := (show Hid (OwnR kHeapRecord 0 56 5 w55 (.slice aW nW cW) qsW) from HWw54.out.same hkk)
 have HZw55 := (show Hid (Blk w55 (BW) 31 [.bool r0.1, .slice aW nW cW]) from HZw54.out.same hkk)
 have HX0w55 := (show Hid (OwnD 0 79 5 w55 (.slice (some ⟨gX0, 0, none⟩) dur0.length dur0.length) (.slice (some ⟨gX0', 0, none⟩) ps0.length ps0.length) dur0 qsX0) from HX0w54.out.same hkk)
 have HT0w55 := (show Hid (Box w55 (w28.heap.size) (.slice (some ⟨gX0, 0, none⟩) dur0.length dur0.length) (.slice (some ⟨gX0', 0, none⟩) ps0.length ps0.length)) from HT0w54.out.same hkk)
 have HGw55 := (show Hid (OwnR kHeapRecord 0 56 5 w55 (.slice aG nG cG) qsG) from HGw54.out.same hkk)
 have HYw55 := (show Hid (Blk w55 (BG) 31 [.bool r0.1, .slice aG nG cG]) from HYw54.out.same hkk)
 have HKw55 := hid (HKw54.out.trans hkk)
 clear hkk hk
 clear A01 A02 lA0 T01 T02 lT0
 clear cA1_0 cA1_1 cA1_2 lA1 cZ_0 cZ_1 lZ cY_0 cY_1 lY
 obtain ⟨A01, A02⟩ := HA0w55.out
 have lA0 := HA0w55.out.lt
 obtain ⟨T01, T02⟩ := HT0w55.out
 have lT0 := HT0w55.out.lt
 have cA1_0 : w55.cell? ⟨w.heap.size + 1, 0, none⟩ = some (.int .i64 gp1) := HA1w55.out.cell 0
 have cA1_1 : w55.cell? ⟨w.heap.size + 1, 1, none⟩ = some (.int .i64 gf1) := HA1w55.out.cell 1
 have cA1_2 : w55.cell? ⟨w.heap.size + 1, 2, none⟩ = some (.int .i64 gl1) := HA1w55.out.cell 2
 have lA1 := HA1w55.out.lt
 have cZ_0 : w55.cell? ⟨BW, 0, none⟩ = some (.bool r0.1) := HZw55.out.cell 0
 have cZ_1 : w55.cell? ⟨BW, 1, none⟩ = some (.slice aW nW cW) := HZw55.out.cell 1
 have lZ := HZw55.out.lt
 have cY_0 : w55.cell? ⟨BG, 0, none⟩ = some (.bool r0.1) := HYw55.out.cell 0
 have cY_1 : w55.cell? ⟨BG, 1, none⟩ = some (.slice aG nG cG) := HYw55.out.cell 1
 have lY := HYw55.out.lt
 go_wp2_with fail
 go_cut [37] (fun v wc => v = .bool false ∧ Hid (Same w55 wc))
 case first =>
  have HD1 : Hid (Same w w55.drew) := HKw55.out.drew
  have HD2 : Hid (Same w55 w55.drew) := (Kept.refl _ _).drew
  go_region_with (first | (go_at_call 6; refine (toDisk_any _ _ dur0 ps0 _ (by omega) (by omega) (fun p hp => Nat.le_trans (HS0.out p hp) (by omega)) (by exact HV0.out.same HD1.out)).mono ?_; rintro e wx7 ⟨g3, g3', qs7, rfl, hq3, hf3, ho3, hk7⟩; obtain ⟨y1, y2⟩ := HT0w55.out.same (HD2.out.trans hk7); have HO7 := (show Hid (OwnD 0 79 5 wx7 (.slice (some ⟨g3, 0, none⟩) dur0.length dur0.length) (.slice (some ⟨g3', 0, none⟩) ps0.length ps0.length) dur0 qs7) from ho3); have HQ7 : Hid (dataP qs7 = dataP ps0) := hq3; have HK7 : Hid (Same w55 wx7) := HD2.out.trans hk7; clear ho3 hq3 hf3 hk7) | (go_at_call 10; refine (eqDisk_own 0 _ _ _ _ dur0 qsX0 qs7 _ (by omega) (by have h := (HT0.out qsX0 HQX0.out).1; omega) (HQX0.out.trans HQ7.out.symm) (fun p hp => Nat.le_trans ((HT0.out qsX0 HQX0.out).2 p hp) (by omega)) (HX0w55.out.same HK7.out) HO7.out).mono ?_; rintro e wx8 ⟨rfl, hk8⟩))
  all_goals
   have HK8 : Hid (Same w55 wx8) := HK7.out.trans hk8
   clear hk8
   go_wp2_with fail
   go_meet
   case rel => exact ⟨rfl, HK8⟩
 case rest =>
 obtain ⟨rfl, HKC⟩ := hcut
 obtain ⟨w56, hwc⟩ : ∃ x, x = wc := ⟨_, rfl⟩
 subst hwc
 clear A01 A02 lA0 T01 T02 lT0
 clear cA1_0 cA1_1 cA1_2 lA1 cZ_0 cZ_1 lZ cY_0 cY_1 lY
 have hkk : Same w55 w56 := HKC.out
 have hzw56 := hkk.size
 have HA0w56 := (show Hid (Box w56 (w.heap.size) (.slice a0a dur0.length c0a) (.slice a0b ps0.length c0b)) from HA0w55.out.same hkk)
 have HA1w56 := (show Hid (Blk w56 (w.heap.size + 1) 27 [.int .i64 gp1, .int .i64 gf1, .int .i64 gl1]) from HA1w55.out.same hkk)
 have HWw56 := (show Hid (OwnR kHeapRecord 0 56 5 w56 (.slice aW nW cW) qsW) from HWw55.out.same hkk)
 have HZw56 := (show Hid (Blk w56 (BW) 31 [.bool r0.1, .slice aW nW cW]) from HZw55.out.same hkk)
 have HX0w56 := (show Hid (OwnD 0 79 5 w56 (.slice (some ⟨gX0, 0, none⟩) dur0.length dur0.length) (.slice (some ⟨gX0', 0, none⟩) ps0.length ps0.length) dur0 qsX0) from HX0w55.out.same hkk)
 have HT0w56 := (show Hid (Box w56 (w28.heap.size) (.slice (some ⟨gX0, 0, none⟩) dur0.length dur0.length) (.slice (some ⟨gX0', 0, none⟩) ps0.length ps0.length)) from HT0w55.out.same hkk)
 have HGw56 := (show Hid (OwnR kHeapRecord 0 56 5 w56 (.slice aG nG cG) qsG) from HGw55.out.same hkk)
 have HYw56 := (show Hid (Blk w56 (BG) 31 [.bool r0.1, .slice aG nG cG]) from HYw55.out.same hkk)
 have HKw56 := hid (HKw55.out.trans hkk)
 clear hkk
 have hE0 : (0 : Int) ≤ 1 := by omega
 have hE0b : (1 : Int) ≤ 1 := by omega
 have hqlX0 : qsX0.length = ps0.length := by rw [← dataP_length, HQX0.out, dataP_length]
 obtain ⟨E1, hE⟩ : ∃ E, endP (1 + (dur0.length : Int)) qsX0 = E := ⟨_, rfl⟩
 have hE1 : 0 ≤ E1 := by rw [← hE, endP_size]; omega
 have hE1b : E1 ≤ 7000001 := by rw [← hE, endP_size, dataP_sizeP HQX0.out]; omega
 have HE1 : Hid (endP (1 + (dur0.length : Int)) qsX0 = E1) := hE
 clear hE
 obtain ⟨A01, A02⟩ := HA0w56.out
 have lA0 := HA0w56.out.lt
 obtain ⟨T01, T02⟩ := HT0w56.out
 have lT0 := HT0w56.out.lt
 have cA1_0 : w56.cell? ⟨w.heap.size + 1, 0, none⟩ = some (.int .i64 gp1) := HA1w56.out.cell 0
 have cA1_1 : w56.cell? ⟨w.heap.size + 1, 1, none⟩ = some (.int .i64 gf1) := HA1w56.out.cell 1
 have cA1_2 : w56.cell? ⟨w.heap.size + 1, 2, none⟩ = some (.int .i64 gl1) := HA1w56.out.cell 2
 have lA1 := HA1w56.out.lt
 have cZ_0 : w56.cell? ⟨BW, 0, none⟩ = some (.bool r0.1) := HZw56.out.cell 0
 have cZ_1 : w56.cell? ⟨BW, 1, none⟩ = some (.slice aW nW cW) := HZw56.out.cell 1
 have lZ := HZw56.out.lt
 have cY_0 : w56.cell? ⟨BG, 0, none⟩ = some (.bool r0.1) := HYw56.out.cell 0
 have cY_1 : w56.cell? ⟨BG, 1, none⟩ = some (.slice aG nG cG) := HYw56.out.cell 1
 have lY := HYw56.out.lt
 go_wp2_with fail
 have hm := markDisk_own 0 (.slice (some ⟨gX0, 0, none⟩) dur0.length dur0.length) (.slice (some ⟨gX0', 0, none⟩) ps0.length ps0.length) dur0 qsX0 1 w56 (by omega) (by rw [HE1.out]; omega) (by omega) HX0w56.out
 rw [HE1.out] at hm
 refine hm.mono ?_
 clear hm
 rintro e w57 ⟨rfl, _, hk⟩
 have hzw57 := hk.size
 have HA0w57 := (show Hid (Box w57 (w.heap.size) (.slice a0a dur0.length c0a) (.slice a0b ps0.length c0b)) from HA0w56.out.kept hk (fun e => by have h1 := HFX0.out _ e; omega))
 have HA1w57 := (show Hid (Blk w57 (w.heap.size + 1) 27 [.int .i64 gp1, .int .i64 gf1, .int .i64 gl1]) from HA1w56.out.kept hk (fun e => by have h1 := HFX0.out _ e; omega))
 have HWw57 := (show Hid (OwnR kHeapRecord 0 56 5 w57 (.slice aW nW cW) qsW) from HWw56.out.kept hk (fun b hb e => by have h1 := HFX0.out _ e; have h2 := HFW.out b hb; omega))
 have HZw57 := (show Hid (Blk w57 (BW) 31 [.bool r0.1, .slice aW nW cW]) from HZw56.out.kept hk (fun e => by have h1 := HFX0.out _ e; omega))
 have HT0w57 := (show Hid (Box w57 (w28.heap.size) (.slice (some ⟨gX0, 0, none⟩) dur0.length dur0.length) (.slice (some ⟨gX0', 0, none⟩) ps0.length ps0.length)) from HT0w56.out.kept hk (fun e => by have h1 := HFX0.out _ e; omega))
 have HGw57 := (show Hid (OwnR kHeapRecord 0 56 5 w57 (.slice aG nG cG) qsG) from HGw56.out.kept hk (fun b hb e => by have h1 := HFX0.out _ e; have h2 := HFG.out b hb; omega))
 have HYw57 := (show Hid (Blk w57 (BG) 31 [.bool r0.1, .slice aG nG cG]) from HYw56.out.kept hk (fun e => by have h1 := HFX0.out _ e; omega))
 have HKw57 := (show Hid (Same w w57) from HKw56.out.next hk (fun b hb e => by have h1 := HFX0.out _ e; omega))
 clear A01 A02 lA0 T01 T02 lT0
 clear cA1_0 cA1_1 cA1_2 lA1 cZ_0 cZ_1 lZ cY_0 cY_1 lY
 clear hk
 have hEn : ¬ E1 < 0 := by omega
 obtain ⟨A01, A02⟩ := HA0w57.out
 have lA0 := HA0w57.out.lt
 have cA1_0 : w57.cell? ⟨w.heap.size + 1, 0, none⟩ = some (.int .i64 gp1) := HA1w57.out.cell 0
 have cA1_1 : w57.cell? ⟨w.heap.size + 1, 1, none⟩ = some (.int .i64 gf1) := HA1w57.out.cell 1
 have cA1_2 : w57.cell? ⟨w.heap.size + 1, 2, none⟩ = some (.int .i64 gl1) := HA1w57.out.cell 2
 have lA1 := HA1w57.out.lt
 have cZ_0 : w57.cell? ⟨BW, 0, none⟩ = some (.bool r0.1) := HZw57.out.cell 0
 have cZ_1 : w57.cell? ⟨BW, 1, none⟩ = some (.slice aW nW cW) := HZw57.out.cell 1
 have lZ := HZw57.out.lt
 have cY_0 : w57.cell? ⟨BG, 0, none⟩ = some (.bool r0.1) := HYw57.out.cell 0
 have cY_1 : w57.cell? ⟨BG, 1, none⟩ = some (.slice aG nG cG) := HYw57.out.cell 1
 have lY := HYw57.out.lt
 go_wp2_with fail
 refine (eqHeapResult_own 0 r0.1 _ _ qsG qsW _ (Nat.le_trans (HSM.out qsG HEG.out).1 (by omega)) (HEG.out.trans HEW.out.symm) (fun p hp => by have h1 := (HSM.out qsG HEG.out).2; have h2 := sizeHeapRecordS_mem qsG p hp; omega) HGw57.out HWw57.out).mono ?_
 rintro e w58 ⟨rfl, hk⟩
 have hkk : Same w57 w58 := hk
 have hzw58 := hkk.size
 have HA0w58 := (show Hid (Box w58 (w.heap.size) (.slice a0a dur0.length c0a) (.slice a0b ps0.length c0b)) from HA0w57.out.same hkk)
 have HA1w58 := (show Hid (Blk w58 (w.heap.size + 1) 27 [.int .i64 gp1, .int .i64 gf1, .int .i64 gl1]) from HA1w57.out.same hkk)
 have HWw58 := (show Hid (OwnR kHeapRecord 0 56 5 w58 (.slice aW nW cW) qsW) from HWw57.out.same hkk)
 have HZw58 := (show Hid (Blk w58 (BW) 31 [.bool r0.1, .slice aW nW cW]) from HZw57.out.same hkk)
 have HGw58 := (show Hid (OwnR kHeapRecord 0 56 5 w58 (.slice aG nG cG) qsG) from HGw57.out.same hkk)
 have HYw58 := (show Hid (Blk w58 (BG) 31 [.bool r0.1, .slice aG nG cG]) from HYw57.out.same hkk)
 have HKw58 := hid (HKw57.out.trans hkk)
 clear hkk hk
 clear A01 A02 lA0
 clear cA1_0 cA1_1 cA1_2 lA1 cZ_0 cZ_1 lZ cY_0 cY_1 lY
 have hgs := HSM.out qsG HEG.out
 obtain ⟨M, hM⟩ : ∃ M, endR mHeapRecord 1 qsG = M := ⟨_, rfl⟩
 have hM0 : 0 ≤ M := by rw [← hM, endHeapRecordS_size]; omega
 have hM1 : M ≤ 1125899906842624 := by rw [← hM, endHeapRecordS_size]; omega
 have HM : Hid (endR mHeapRecord 1 qsG = M) := hM
 clear hM
 have hM2 : ¬ M < 0 := by omega
 obtain ⟨A01, A02⟩ := HA0w58.out
 have lA0 := HA0w58.out.lt
 have cA1_0 : w58.cell? ⟨w.heap.size + 1, 0, none⟩ = some (.int .i64 gp1) := HA1w58.out.cell 0
 have cA1_1 : w58.cell? ⟨w.heap.size + 1, 1, none⟩ = some (.int .i64 gf1) := HA1w58.out.cell 1
 have cA1_2 : w58.cell? ⟨w.heap.size + 1, 2, none⟩ = some (.int .i64 gl1) := HA1w58.out.cell 2
 have lA1 := HA1w58.out.lt
 have cZ_0 : w58.cell? ⟨BW, 0, none⟩ = some (.bool r0.1) := HZw58.out.cell 0
 have cZ_1 : w58.cell? ⟨BW, 1, none⟩ = some (.slice aW nW cW) := HZw58.out.cell 1
 have lZ := HZw58.out.lt
 have cY_0 : w58.cell? ⟨BG, 0, none⟩ = some (.bool r0.1) := HYw58.out.cell 0
 have cY_1 : w58.cell? ⟨BG, 1, none⟩ = some (.slice aG nG cG) := HYw58.out.cell 1
 have lY := HYw58.out.lt
 go_wp2_with fail
 have hm := markHeapResult_own r0.1 (.slice aG nG cG) qsG 1 w58 (by omega) (by rw [HM.out]; exact hM1) (by omega) HGw58.out
 rw [HM.out] at hm
 refine hm.mono ?_
 clear hm
 rintro e w59 ⟨rfl, ho, hk⟩
 have hzw59 := hk.size
 have HA0w59 := (show Hid (Box w59 (w.heap.size) (.slice a0a dur0.length c0a) (.slice a0b ps0.length c0b)) from HA0w58.out.kept hk (fun e => by have h1 := HFG.out _ e; omega))
 have HA1w59 := (show Hid (Blk w59 (w.heap.size + 1) 27 [.int .i64 gp1, .int .i64 gf1, .int .i64 gl1]) from HA1w58.out.kept hk (fun e => by have h1 := HFG.out _ e; omega))
 have HWw59 := (show Hid (OwnR kHeapRecord 0 56 5 w59 (.slice aW nW cW) qsW) from HWw58.out.kept hk (fun b hb e => by have h1 := HFG.out _ e; have h2 := HFW.out b hb; omega))
 have HZw59 := (show Hid (Blk w59 (BW) 31 [.bool r0.1, .slice aW nW cW]) from HZw58.out.kept hk (fun e => by have h1 := HFG.out _ e; omega))
 have HYw59 := (show Hid (Blk w59 (BG) 31 [.bool r0.1, .slice aG nG cG]) from HYw58.out.kept hk (fun e => by have h1 := HFG.out _ e; omega))
 have HKw59 := (show Hid (Same w w59) from HKw58.out.next hk (fun b hb e => by have h1 := HFG.out _ e; omega))
 have HUw59 := (show Hid (OwnR kHeapRecord 0 56 5 w59 (.slice aG nG cG) (markR mHeapRecord 1 qsG)) from ho)
 clear A01 A02 lA0
 clear cA1_0 cA1_1 cA1_2 lA1 cZ_0 cZ_1 lZ cY_0 cY_1 lY
 clear hk ho
 obtain ⟨A01, A02⟩ := HA0w59.out
 have lA0 := HA0w59.out.lt
 have cA1_0 : w59.cell? ⟨w.heap.size + 1, 0, none⟩ = some (.int .i64 gp1) := HA1w59.out.cell 0
 have cA1_1 : w59.cell? ⟨w.heap.size + 1, 1, none⟩ = some (.int .i64 gf1) := HA1w59.out.cell 1
 have cA1_2 : w59.cell? ⟨w.heap.size + 1, 2, none⟩ = some (.int .i64 gl1) := HA1w59.out.cell 2
 have lA1 := HA1w59.out.lt
 have cZ_0 : w59.cell? ⟨BW, 0, none⟩ = some (.bool r0.1) := HZw59.out.cell 0
 have cZ_1 : w59.cell? ⟨BW, 1, none⟩ = some (.slice aW nW cW) := HZw59.out.cell 1
 have lZ := HZw59.out.lt
 have cY_0 : w59.cell? ⟨BG, 0, none⟩ = some (.bool r0.1) := HYw59.out.cell 0
 have cY_1 : w59.cell? ⟨BG, 1, none⟩ = some (.slice aG nG cG) := HYw59.out.cell 1
 have lY := HYw59.out.lt
 go_wp2_with fail
 have hm := heldHeapResult_own r0.1 (.slice aG nG cG) qsG 1 w59 (by omega) (by rw [HM.out]; exact hM1) (by omega) HUw59.out
 rw [HM.out] at hm
 refine hm.mono ?_
 clear hm
 rintro e w60 ⟨rfl, hk⟩
 have hkk : Same w59 w60 := hk
 have hzw60 := hkk.size
 have HA0w60 := (show Hid (Box w60 (w.heap.size) (.slice a0a dur0.length c0a) (.slice a0b ps0.length c0b)) from HA0w59.out.same hkk)
 have HA1w60 := (show Hid (Blk w60 (w.heap.size + 1) 27 [.int .i64 gp1, .int .i64 gf1, .int .i64 gl1]) from HA1w59.out.same hkk)
 have HWw60 := (show Hid (OwnR kHeapRecord 0 56 5 w60 (.slice aW nW cW) qsW) from HWw59.out.same hkk)
 have HZw60 := (show Hid (Blk w60 (BW) 31 [.bool r0.1, .slice aW nW cW]) from HZw59.out.same hkk)
 have HYw60 := (show Hid (Blk w60 (BG) 31 [.bool r0.1, .slice aG nG cG]) from HYw59.out.same hkk)
 have HUw60 := (show Hid (OwnR kHeapRecord 0 56 5 w60 (.slice aG nG cG) (markR mHeapRecord 1 qsG)) from HUw59.out.same hkk)
 have HKw60 := hid (HKw59.out.trans hkk)
 clear hkk hk
 clear A01 A02 lA0
 clear cA1_0 cA1_1 cA1_2 lA1 cZ_0 cZ_1 lZ cY_0 cY_1 lY
 obtain ⟨A01, A02⟩ := HA0w60.out
 have lA0 := HA0w60.out.lt
 have cA1_0 : w60.cell? ⟨w.heap.size + 1, 0, none⟩ = some (.int .i64 gp1) := HA1w60.out.cell 0
 have cA1_1 : w60.cell? ⟨w.heap.size + 1, 1, none⟩ = some (.int .i64 gf1) := HA1w60.out.cell 1
 have cA1_2 : w60.cell? ⟨w.heap.size + 1, 2, none⟩ = some (.int .i64 gl1) := HA1w60.out.cell 2
 have lA1 := HA1w60.out.lt
 have cZ_0 : w60.cell? ⟨BW, 0, none⟩ = some (.bool r0.1) := HZw60.out.cell 0
 have cZ_1 : w60.cell? ⟨BW, 1, none⟩ = some (.slice aW nW cW) := HZw60.out.cell 1
 have lZ := HZw60.out.lt
 have cY_0 : w60.cell? ⟨BG, 0, none⟩ = some (.bool r0.1) := HYw60.out.cell 0
 have cY_1 : w60.cell? ⟨BG, 1, none⟩ = some (.slice aG nG cG) := HYw60.out.cell 1
 have lY := HYw60.out.lt
 go_wp2_with fail
 clear A01 A02 lA0
 clear cA1_0 cA1_1 cA1_2 lA1 cZ_0 cZ_1 lZ cY_0 cY_1 lY
 go_cut [12] (fun v wc => Hid (HRes w60 wc r0 v))
 case first =>
  let Y3 : World → Prop := fun wx : World => wx.cell? ⟨w.heap.size, 0, none⟩ = some ((.slice a0a dur0.length c0a)) ∧ wx.cell? ⟨w.heap.size, 1, none⟩ = some ((.slice a0b ps0.length c0b)) ∧ wx.cell? ⟨w.heap.size + 1, 0, none⟩ = some (.int .i64 gp1) ∧ wx.cell? ⟨w.heap.size + 1, 1, none⟩ = some (.int .i64 gf1) ∧ wx.cell? ⟨w.heap.size + 1, 2, none⟩ = some (.int .i64 gl1)
  refine wp_region_V Y3 6 7 rfl (by kernel_rfl) ?_
  have HQQw60 : Hid (SameF w60 w60) := Kept.refl _ _
  generalize hwd : World.drew w60 = w61
  have hk : Same w60 w61 := by rw [← hwd]; exact (Kept.refl _ _).drew
  clear hwd
  have hkk : Same w60 w61 := hk
  have hzw61 := hkk.size
  have HA0w61 := (show Hid (Box w61 (w.heap.size) (.slice a0a dur0.length c0a) (.slice a0b ps0.length c0b)) from HA0w60.out.same hkk)
  have HA1w61 := (show Hid (Blk w61 (w.heap.size + 1) 27 [.int .i64 gp1, .int .i64 gf1, .int .i64 gl1]) from HA1w60.out.same hkk)
  have HWw61 := (show Hid (OwnR kHeapRecord 0 56 5 w61 (.slice aW nW cW) qsW) from HWw60.out.same hkk)
  have HZw61 := (show Hid (Blk w61 (BW) 31 [.bool r0.1, .slice aW nW cW]) from HZw60.out.same hkk)
  have HYw61 := (show Hid (Blk w61 (BG) 31 [.bool r0.1, .slice aG nG cG]) from HYw60.out.same hkk)
  have HUw61 := (show Hid (OwnR kHeapRecord 0 56 5 w61 (.slice aG nG cG) (markR mHeapRecord 1 qsG)) from HUw60.out.same hkk)
  have HQQw61 := (show Hid (SameF w60 w61) from HQQw60.out.same hkk)
  have HKw61 := hid (HKw60.out.trans hkk)
  clear hkk hk
  have hS : Y3 w61 := ⟨HA0w61.out.1, HA0w61.out.2, HA1w61.out.cell 0, HA1w61.out.cell 1, HA1w61.out.cell 2⟩
  refine tk 0 60 hS ?_
  refine tk 2 62 hS ?_
  refine wpAnyV_two (i := 1) (j := 5) (by kernel_rfl) rfl rfl (fun K hK => ?_) (fun K hK => ?_)
  ·
   go_simp
   refine (toDisk_any _ _ dur0 ps0 _ (by omega) (by omega) (fun p hp => Nat.le_trans (HS0.out p hp) (by omega)) (HV0.out.same HKw61.out)).mono ?_
   rintro e w62 ⟨gJ0, gJ0', qsJ0, rfl, hq, hf, ho, hk⟩
   have HQJ0 : Hid (dataP qsJ0 = dataP ps0) := hq
   have HFJ0 := (show Hid (∀ b, footD (.slice (some ⟨gJ0, 0, none⟩) dur0.length dur0.length) (.slice (some ⟨gJ0', 0, none⟩) ps0.length ps0.length) qsJ0 b → w61.heap.size ≤ b ∧ b < w62.heap.size) from fun b hb => ⟨hf b hb, (ho.lt b hb).2⟩)
   have HJ0w62 := (show Hid (OwnD 0 79 5 w62 (.slice (some ⟨gJ0, 0, none⟩) dur0.length dur0.length) (.slice (some ⟨gJ0', 0, none⟩) ps0.length ps0.length) dur0 qsJ0) from ho)
   clear hf ho hq
   have hkk : Same w61 w62 := hk
   have hzw62 := hkk.size
   have HA0w62 := (show Hid (Box w62 (w.heap.size) (.slice a0a dur0.length c0a) (.slice a0b ps0.length c0b)) from HA0w61.out.same hkk)
   have HA1w62 := (show Hid (Blk w62 (w.heap.size + 1) 27 [.int .i64 gp1, .int .i64 gf1, .int .i64 gl1]) from HA1w61.out.same hkk)
   have HWw62 := (show Hid (OwnR kHeapRecord 0 56 5 w62 (.slice aW nW cW) qsW) from HWw61.out.same hkk)
   have HZw62 := (show Hid (Blk w62 (BW) 31 [.bool r0.1, .slice aW nW cW]) from HZw61.out.same hkk)
   have HYw62 := (show Hid (Blk w62 (BG) 31 [.bool r0.1, .slice aG nG cG]) from HYw61.out.same hkk)
   have HUw62 := (show Hid (OwnR kHeapRecord 0 56 5 w62 (.slice aG nG cG) (markR mHeapRecord 1 qsG)) from HUw61.out.same hkk)
   have HQQw62 := (show Hid (SameF w60 w62) from HQQw61.out.same hkk)
   have HKw62 := hid (HKw61.out.trans hkk)
   clear hkk hk
   have hS : Y3 w62 := ⟨HA0w62.out.1, HA0w62.out.2, HA1w62.out.cell 0, HA1w62.out.cell 1, HA1w62.out.cell 2⟩
   refine hK.out _ _ (fun _ => hS) ?_
   clear hK K
   try simp only [Act.put, sA, s0, sS]
   refine wpAnyV_two (i := 3) (j := 5) (by kernel_rfl) rfl rfl (fun K hK => ?_) (fun K hK => ?_)
   ·
    go_simp
    refine (toGeo_any gp1 gf1 gl1 _).mono ?_
    rintro e w63 ⟨rfl, hk⟩
    have hkk : Same w62 w63 := hk
    have hzw63 := hkk.size
    have HA0w63 := (show Hid (Box w63 (w.heap.size) (.slice a0a dur0.length c0a) (.slice a0b ps0.length c0b)) from HA0w62.out.same hkk)
    have HA1w63 := (show Hid (Blk w63 (w.heap.size + 1) 27 [.int .i64 gp1, .int .i64 gf1, .int .i64 gl1]) from HA1w62.out.same hkk)
    have HWw63 := (show Hid (OwnR kHeapRecord 0 56 5 w63 (.slice aW nW cW) qsW) from HWw62.out.same hkk)
    have HZw63 := (show Hid (Blk w63 (BW) 31 [.bool r0.1, .slice aW nW cW]) from HZw62.out.same hkk)
    have HYw63 := (show Hid (Blk w63 (BG) 31 [.bool r0.1, .slice aG nG cG]) from HYw62.out.same hkk)
    have HUw63 := (show Hid (OwnR kHeapRecord 0 56 5 w63 (.slice aG nG cG) (markR mHeapRecord 1 qsG)) from HUw62.out.same hkk)
    have HQQw63 := (show Hid (SameF w60 w63) from HQQw62.out.same hkk)
    have HJ0w63 := (show Hid (OwnD 0 79 5 w63 (.slice (some ⟨gJ0, 0, none⟩) dur0.length dur0.length) (.slice (some ⟨gJ0', 0, none⟩) ps0.length ps0.length) dur0 qsJ0) from HJ0w62.out.same hkk)
    have HKw63 := hid (HKw62.out.trans hkk)
    clear hkk hk
    have hS : Y3 w63 := ⟨HA0w63.out.1, HA0w63.out.2, HA1w63.out.cell 0, HA1w63.out.cell 1, HA1w63.out.cell 2⟩
    refine hK.out _ _ (fun _ => hS) ?_
    clear hK K
    try simp only [Act.put, sA, s0, sS]
    refine wpAnyV_two (i := 4) (j := 5) (by kernel_rfl) rfl rfl (fun K hK => ?_) (fun K hK => ?_)
    ·
     go_simp
     refine (implHeap_any gp1 gf1 gl1 _ _ dur0 qsJ0 _ (HB0.out qsJ0 HQJ0.out) (HJ0w63.out.rd)).mono ?_
     rintro e w64 ⟨aL, nL, cL, qsL, rfl, hR, hf, ho, hk⟩
     rw [HQJ0.out, HR.out] at hR
     rw [HQJ0.out, HR.out]
     have HEL := (show Hid (datHeapRecordS qsL = r0.2) from hR)
     have HFL := (show Hid (∀ b, footR kHeapRecord (.slice aL nL cL) qsL b → w63.heap.size ≤ b ∧ b < w64.heap.size) from fun b hb => ⟨hf b hb, (ho.lt b hb).2⟩)
     have HLw64 := (show Hid (OwnR kHeapRecord 0 56 5 w64 (.slice aL nL cL) qsL) from ho)
     clear hR hf ho
     have hkk : Same w63 w64 := hk
     have hzw64 := hkk.size
     have HA0w64 := (show Hid (Box w64 (w.heap.size) (.slice a0a dur0.length c0a) (.slice a0b ps0.length c0b)) from HA0w63.out.same hkk)
     have HA1w64 := (show Hid (Blk w64 (w.heap.size + 1) 27 [.int .i64 gp1, .int .i64 gf1, .int .i64 gl1]) from HA1w63.out.same hkk)
     have HWw64 := (show Hid (OwnR kHeapRecord 0 56 5 w64 (.slice aW nW cW) qsW) from HWw63.out.same hkk)
     have HZw64 := (show Hid (Blk w64 (BW) 31 [.bool r0.1, .slice aW nW cW]) from HZw63.out.same hkk)
     have HYw64 := (show Hid (Blk w64 (BG) 31 [.bool r0.1, .slice aG nG cG]) from HYw63.out.same hkk)
     have HUw64 := (show Hid (OwnR kHeapRecord 0 56 5 w64 (.slice aG nG cG) (markR mHeapRecord 1 qsG)) from HUw63.out.same hkk)
     have HQQw64 := (show Hid (SameF w60 w64) from HQQw63.out.same hkk)
     have HJ0w64 := (show Hid (OwnD 0 79 5 w64 (.slice (some ⟨gJ0, 0, none⟩) dur0.length dur0.length) (.slice (some ⟨gJ0', 0, none⟩) ps0.length ps0.length) dur0 qsJ0) from HJ0w63.out.same hkk)
     have HKw64 := hid (HKw63.out.trans hkk)
     clear hkk hk
     have hS : Y3 w64 := ⟨HA0w64.out.1, HA0w64.out.2, HA1w64.out.cell 0, HA1w64.out.cell 1, HA1w64.out.cell 2⟩
     refine hK.out _ _ (fun _ => hS) ?_
     clear hK K
     try simp only [Act.put, sA, s0, sS]
     refine wpAnyV_one (i := 5) (by kernel_rfl) rfl (fun K hK => ?_)
     go_simp
     generalize hwd : (w64.alloc (.cells #[.bool false, .slice none 0 0] 31)) = w65
     have hk : Same (w64.alloc (.cells #[.bool false, .slice none 0 0] 31)) w65 := by rw [← hwd]; exact Kept.refl _ _
     clear hwd
     have hkk : Same w64 w65 := ((Kept.refl _ _).alloc _).trans hk
     have hzw65 := hk.size
     rw [World.size_alloc] at hzw65
     have HA0w65 := (show Hid (Box w65 (w.heap.size) (.slice a0a dur0.length c0a) (.slice a0b ps0.length c0b)) from HA0w64.out.same hkk)
     have HA1w65 := (show Hid (Blk w65 (w.heap.size + 1) 27 [.int .i64 gp1, .int .i64 gf1, .int .i64 gl1]) from HA1w64.out.same hkk)
     have HWw65 := (show Hid (OwnR kHeapRecord 0 56 5 w65 (.slice aW nW cW) qsW) from HWw64.out.same hkk)
     have HZw65 := (show Hid (Blk w65 (BW) 31 [.bool r0.1, .slice aW nW cW]) from HZw64.out.same hkk)
     have HYw65 := (show Hid (Blk w65 (BG) 31 [.bool r0.1, .slice aG nG cG]) from HYw64.out.same hkk)
     have HUw65 := (show Hid (OwnR kHeapRecord 0 56 5 w65 (.slice aG nG cG) (markR mHeapRecord 1 qsG)) from HUw64.out.same hkk)
     have HQQw65 := (show Hid (SameF w60 w65) from HQQw64.out.same hkk)
     have HJ0w65 := (show Hid (OwnD 0 79 5 w65 (.slice (some ⟨gJ0, 0, none⟩) dur0.length dur0.length) (.slice (some ⟨gJ0', 0, none⟩) ps0.length ps0.length) dur0 qsJ0) from HJ0w64.out.same hkk)
     have HLw65 := (show Hid (OwnR kHeapRecord 0 56 5 w65 (.slice aL nL cL) qsL) from HLw64.out.same hkk)
     have HVw65 := (show Hid (Blk w65 (w64.heap.size) 31 [.bool false, .slice none 0 0]) from (Blk.new w64 #[.bool false, .slice none 0 0] 31).same hk)
     have HKw65 := hid (HKw64.out.trans hkk)
     clear hkk hk
     have hS : Y3 w65 := ⟨HA0w65.out.1, HA0w65.out.2, HA1w65.out.cell 0, HA1w65.out.cell 1, HA1w65.out.cell 2⟩
     refine hK.out _ _ (fun _ => hS) ?_
     clear hK K
     try simp only [Act.put, sA, s0, sS]
     obtain ⟨z0, z1⟩ := HVw65.out.all2
     have fz := HVw65.out.frozen
     refine wpAnyV_one (i := 6) (by kernel_rfl) rfl (fun K hK => ?_)
     go_simp
     refine hK.out _ _ (fun h => absurd rfl h) ?_
     clear hK K
     refine wpAnyV_done (by kernel_rfl) ?_
     try simp only [Act.put, sA, s0, sS]
     have hk6 : Kept (fun b => b = w64.heap.size) w65 ((w65.setCell ⟨w64.heap.size, 0, none⟩ (.bool r0.1)).setCell ⟨w64.heap.size, 1, none⟩ (.slice aL nL cL)) := Kept.setCell (R := fun b => b = w64.heap.size) (Kept.setCell (R := fun b => b = w64.heap.size) (Kept.refl _ _) (p := ⟨w64.heap.size, 0, none⟩) (.inr rfl) _) (p := ⟨w64.heap.size, 1, none⟩) (.inr rfl) _
     have hB6 := (HVw65.out.stored 0 (.bool r0.1)).stored 1 (.slice aL nL cL)
     have HZ6 := (show Hid (HRes w60 ((w65.setCell ⟨w64.heap.size, 0, none⟩ (.bool r0.1)).setCell ⟨w64.heap.size, 1, none⟩ (.slice aL nL cL)) r0 (.pointer (some ⟨w64.heap.size, 0, none⟩))) from ⟨w64.heap.size, aL, nL, cL, qsL, rfl, by omega, hB6.lt, hB6, HEL.out, fun b hb => by have h1 := HFL.out b hb; omega, HLw65.out.kept hk6 (fun b hb e => by have h1 := HFL.out b hb; omega), Kept.next (HQQw65.out : Same w60 w65) hk6 (fun j hj e => by omega)⟩)
     clear hk6 hB6 hS z0 z1 fz
     go_wp2_with fail
     go_meet
     case rel => exact HZ6
    ·
     go_simp
     generalize hwd : (w63.alloc (.cells #[.bool false, .slice none 0 0] 31)) = w64
     have hk : Same (w63.alloc (.cells #[.bool false, .slice none 0 0] 31)) w64 := by rw [← hwd]; exact Kept.refl _ _
     clear hwd
     have hkk : Same w63 w64 := ((Kept.refl _ _).alloc _).trans hk
     have hzw64 := hk.size
     rw [World.size_alloc] at hzw64
     have HA0w64 := (show Hid (Box w64 (w.heap.size) (.slice a0a dur0.length c0a) (.slice a0b ps0.length c0b)) from HA0w63.out.same hkk)
     have HA1w64 := (show Hid (Blk w64 (w.heap.size + 1) 27 [.int .i64 gp1, .int .i64 gf1, .int .i64 gl1]) from HA1w63.out.same hkk)
     have HWw64 := (show Hid (OwnR kHeapRecord 0 56 5 w64 (.slice aW nW cW) qsW) from HWw63.out.same hkk)
     have HZw64 := (show Hid (Blk w64 (BW) 31 [.bool r0.1, .slice aW nW cW]) from HZw63.out.same hkk)
     have HYw64 := (show Hid (Blk w64 (BG) 31 [.bool r0.1, .slice aG nG cG]) from HYw63.out.same hkk)
     have HUw64 := (show Hid (OwnR kHeapRecord 0 56 5 w64 (.slice aG nG cG) (markR mHeapRecord 1 qsG)) from HUw63.out.same hkk)
     have HQQw64 := (show Hid (SameF w60 w64) from HQQw63.out.same hkk)
     have HJ0w64 := (show Hid (OwnD 0 79 5 w64 (.slice (some ⟨gJ0, 0, none⟩) dur0.length dur0.length) (.slice (some ⟨gJ0', 0, none⟩) ps0.length ps0.length) dur0 qsJ0) from HJ0w63.out.same hkk)
     have HVw64 := (show Hid (Blk w64 (w63.heap.size) 31 [.bool false, .slice none 0 0]) from (Blk.new w63 #[.bool false, .slice none 0 0] 31).same hk)
     have HKw64 := hid (HKw63.out.trans hkk)
     clear hkk hk
     have hS : Y3 w64 := ⟨HA0w64.out.1, HA0w64.out.2, HA1w64.out.cell 0, HA1w64.out.cell 1, HA1w64.out.cell 2⟩
     refine hK.out _ _ (fun _ => hS) ?_
     clear hK K
     try simp only [Act.put, sA, s0, sS]
     refine wpAnyV_one (i := 4) (by kernel_rfl) rfl (fun K hK => ?_)
     go_simp
     refine (implHeap_any gp1 gf1 gl1 _ _ dur0 qsJ0 _ (HB0.out qsJ0 HQJ0.out) (HJ0w64.out.rd)).mono ?_
     rintro e w65 ⟨aL, nL, cL, qsL, rfl, hR, hf, ho, hk⟩
     rw [HQJ0.out, HR.out] at hR
     rw [HQJ0.out, HR.out]
     have HEL := (show Hid (datHeapRecordS qsL = r0.2) from hR)
     have HFL := (show Hid (∀ b, footR kHeapRecord (.slice aL nL cL) qsL b → w64.heap.size ≤ b ∧ b < w65.heap.size) from fun b hb => ⟨hf b hb, (ho.lt b hb).2⟩)
     have HLw65 := (show Hid (OwnR kHeapRecord 0 56 5 w65 (.slice aL nL cL) qsL) from ho)
     clear hR hf ho
     have hkk : Same w64 w65 := hk
     have hzw65 := hkk.size
     have HA0w65 := (show Hid (Box w65 (w.heap.size) (.slice a0a dur0.length c0a) (.slice a0b ps0.length c0b)) from HA0w64.out.same hkk)
     have HA1w65 := (show Hid (Blk w65 (w.heap.size + 1) 27 [.int .i64 gp1, .int .i64 gf1, .int .i64 gl1]) from HA1w64.out.same hkk)
     have HWw65 := (show Hid (OwnR kHeapRecord 0 56 5 w65 (.slice aW nW cW) qsW) from HWw64.out.same hkk)
     have HZw65 := (show Hid (Blk w65 (BW) 31 [.bool r0.1, .slice aW nW cW]) from HZw64.out.same hkk)
     have HYw65 := (show Hid (Blk w65 (BG) 31 [.bool r0.1, .slice aG nG cG]) from HYw64.out.same hkk)
     have HUw65 := (show Hid (OwnR kHeapRecord 0 56 5 w65 (.slice aG nG cG) (markR mHeapRecord 1 qsG)) from HUw64.out.same hkk)
     have HQQw65 := (show Hid (SameF w60 w65) from HQQw64.out.same hkk)
     have HJ0w65 := (show Hid (OwnD 0 79 5 w65 (.slice (some ⟨gJ0, 0, none⟩) dur0.length dur0.length) (.slice (some ⟨gJ0', 0, none⟩) ps0.length ps0.length) dur0 qsJ0) from HJ0w64.out.same hkk)
     have HVw65 := (show Hid (Blk w65 (w63.heap.size) 31 [.bool false, .slice none 0 0]) from HVw64.out.same hkk)
     have HKw65 := hid (HKw64.out.trans hkk)
     clear hkk hk
     have hS : Y3 w65 := ⟨HA0w65.out.1, HA0w65.out.2, HA1w65.out.cell 0, HA1w65.out.cell 1, HA1w65.out.cell 2⟩
     refine hK.out _ _ (fun _ => hS) ?_
     clear hK K
     try simp only [Act.put, sA, s0, sS]
     obtain ⟨z0, z1⟩ := HVw65.out.all2
     have fz := HVw65.out.frozen
     refine wpAnyV_one (i := 6) (by kernel_rfl) rfl (fun K hK => ?_)
     go_simp
     refine hK.out _ _ (fun h => absurd rfl h) ?_
     clear hK K
     refine wpAnyV_done (by kernel_rfl) ?_
     try simp only [Act.put, sA, s0, sS]
     have hk6 : Kept (fun b => b = w63.heap.size) w65 ((w65.setCell ⟨w63.heap.size, 0, none⟩ (.bool r0.1)).setCell ⟨w63.heap.size, 1, none⟩ (.slice aL nL cL)) := Kept.setCell (R := fun b => b = w63.heap.size) (Kept.setCell (R := fun b => b = w63.heap.size) (Kept.refl _ _) (p := ⟨w63.heap.size, 0, none⟩) (.inr rfl) _) (p := ⟨w63.heap.size, 1, none⟩) (.inr rfl) _
     have hB6 := (HVw65.out.stored 0 (.bool r0.1)).stored 1 (.slice aL nL cL)
     have HZ6 := (show Hid (HRes w60 ((w65.setCell ⟨w63.heap.size, 0, none⟩ (.bool r0.1)).setCell ⟨w63.heap.size, 1, none⟩ (.slice aL nL cL)) r0 (.pointer (some ⟨w63.heap.size, 0, none⟩))) from ⟨w63.heap.size, aL, nL, cL, qsL, rfl, by omega, hB6.lt, hB6, HEL.out, fun b hb => by have h1 := HFL.out b hb; omega, HLw65.out.kept hk6 (fun b hb e => by have h1 := HFL.out b hb; omega), Kept.next (HQQw65.out : Same w60 w65) hk6 (fun j hj e => by omega)⟩)
     clear hk6 hB6 hS z0 z1 fz
     go_wp2_with fail
     go_meet
     case rel => exact HZ6
   ·
    go_simp
    generalize hwd : (w62.alloc (.cells #[.bool false, .slice none 0 0] 31)) = w63
    have hk : Same (w62.alloc (.cells #[.bool false, .slice none 0 0] 31)) w63 := by rw [← hwd]; exact Kept.refl _ _
    clear hwd
    have hkk : Same w62 w63 := ((Kept.refl _ _).alloc _).trans hk
    have hzw63 := hk.size
    rw [World.size_alloc] at hzw63
    have HA0w63 := (show Hid (Box w63 (w.heap.size) (.slice a0a dur0.length c0a) (.slice a0b ps0.length c0b)) from HA0w62.out.same hkk)
    have HA1w63 := (show Hid (Blk w63 (w.heap.size + 1) 27 [.int .i64 gp1, .int .i64 gf1, .int .i64 gl1]) from HA1w62.out.same hkk)
    have HWw63 := (show Hid (OwnR kHeapRecord 0 56 5 w63 (.slice aW nW cW) qsW) from HWw62.out.same hkk)
    have HZw63 := (show Hid (Blk w63 (BW) 31 [.bool r0.1, .slice aW nW cW]) from HZw62.out.same hkk)
    have HYw63 := (show Hid (Blk w63 (BG) 31 [.bool r0.1, .slice aG nG cG]) from HYw62.out.same hkk)
    have HUw63 := (show Hid (OwnR kHeapRecord 0 56 5 w63 (.slice aG nG cG) (markR mHeapRecord 1 qsG)) from HUw62.out.same hkk)
    have HQQw63 := (show Hid (SameF w60 w63) from HQQw62.out.same hkk)
    have HJ0w63 := (show Hid (OwnD 0 79 5 w63 (.slice (some ⟨gJ0, 0, none⟩) dur0.length dur0.length) (.slice (some ⟨gJ0', 0, none⟩) ps0.length ps0.length) dur0 qsJ0) from HJ0w62.out.same hkk)
    have HVw63 := (show Hid (Blk w63 (w62.heap.size) 31 [.bool false, .slice none 0 0]) from (Blk.new w62 #[.bool false, .slice none 0 0] 31).same hk)
    have HKw63 := hid (HKw62.out.trans hkk)
    clear hkk hk
    have hS : Y3 w63 := ⟨HA0w63.out.1, HA0w63.out.2, HA1w63.out.cell 0, HA1w63.out.cell 1, HA1w63.out.cell 2⟩
    refine hK.out _ _ (fun _ => hS) ?_
    clear hK K
    try simp only [Act.put, sA, s0, sS]
    refine wpAnyV_one (i := 3) (by kernel_rfl) rfl (fun K hK => ?_)
    go_simp
    refine (toGeo_any gp1 gf1 gl1 _).mono ?_
    rintro e w64 ⟨rfl, hk⟩
    have hkk : Same w63 w64 := hk
    have hzw64 := hkk.size
    have HA0w64 := (show Hid (Box w64 (w.heap.size) (.slice a0a dur0.length c0a) (.slice a0b ps0.length c0b)) from HA0w63.out.same hkk)
    have HA1w64 := (show Hid (Blk w64 (w.heap.size + 1) 27 [.int .i64 gp1, .int .i64 gf1, .int .i64 gl1]) from HA1w63.out.same hkk)
    have HWw64 := (show Hid (OwnR kHeapRecord 0 56 5 w64 (.slice aW nW cW) qsW) from HWw63.out.same hkk)
    have HZw64 := (show Hid (Blk w64 (BW) 31 [.bool r0.1, .slice aW nW cW]) from HZw63.out.same hkk)
    have HYw64 := (show Hid (Blk w64 (BG) 31 [.bool r0.1, .slice aG nG cG]) from HYw63.out.same hkk)
    have HUw64 := (show Hid (OwnR kHeapRecord 0 56 5 w64 (.slice aG nG cG) (markR mHeapRecord 1 qsG)) from HUw63.out.same hkk)
    have HQQw64 := (show Hid (SameF w60 w64) from HQQw63.out.same hkk)
    have HJ0w64 := (show Hid (OwnD 0 79 5 w64 (.slice (some ⟨gJ0, 0, none⟩) dur0.length dur0.length) (.slice (some ⟨gJ0', 0, none⟩) ps0.length ps0.length) dur0 qsJ0) from HJ0w63.out.same hkk)
    have HVw64 := (show Hid (Blk w64 (w62.heap.size) 31 [.bool false, .slice none 0 0]) from HVw63.out.same hkk)
    have HKw64 := hid (HKw63.out.trans hkk)
    clear hkk hk
    have hS : Y3 w64 := ⟨HA0w64.out.1, HA0w64.out.2, HA1w64.out.cell 0, HA1w64.out.cell 1, HA1w64.out.cell 2⟩
    refine hK.out _ _ (fun _ => hS) ?_
    clear hK K
    try simp only [Act.put, sA, s0, sS]
    refine wpAnyV_one (i := 4) (by kernel_rfl) rfl (fun K hK => ?_)
    go_simp
    refine (implHeap_any gp1 gf1 gl1 _ _ dur0 qsJ0 _ (HB0.out qsJ0 HQJ0.out) (HJ0w64.out.rd)).mono ?_
    rintro e w65 ⟨aL, nL, cL, qsL, rfl, hR, hf, ho, hk⟩
    rw [HQJ0.out, HR.out] at hR
    rw [HQJ0.out, HR.out]
    have HEL := (show Hid (datHeapRecordS qsL = r0.2) from hR)
    have HFL := (show Hid (∀ b, footR kHeapRecord (.slice aL nL cL) qsL b → w64.heap.size ≤ b ∧ b < w65.heap.size) from fun b hb => ⟨hf b hb, (ho.lt b hb).2⟩)
    have HLw65 := (show Hid (OwnR kHeapRecord 0 56 5 w65 (.slice aL nL cL) qsL) from ho)
    clear hR hf ho
    have hkk : Same w64 w65 := hk
    have hzw65 := hkk.size
    have HA0w65 := (show Hid (Box w65 (w.heap.size) (.slice a0a dur0.length c0a) (.slice a0b ps0.length c0b)) from HA0w64.out.same hkk)
    have HA1w65 := (show Hid (Blk w65 (w.heap.size + 1) 27 [.int .i64 gp1, .int .i64 gf1, .int .i64 gl1]) from HA1w64.out.same hkk)
    have HWw65 := (show Hid (OwnR kHeapRecord 0 56 5 w65 (.slice aW nW cW) qsW) from HWw64.out.same hkk)
    have HZw65 := (show Hid (Blk w65 (BW) 31 [.bool r0.1, .slice aW nW cW]) from HZw64.out.same hkk)
    have HYw65 := (show Hid (Blk w65 (BG) 31 [.bool r0.1, .slice aG nG cG]) from HYw64.out.same hkk)
    have HUw65 := (show Hid (OwnR kHeapRecord 0 56 5 w65 (.slice aG nG cG) (markR mHeapRecord 1 qsG)) from HUw64.out.same hkk)
    have HQQw65 := (show Hid (SameF w60 w65) from HQQw64.out.same hkk)
    have HJ0w65 := (show Hid (OwnD 0 79 5 w65 (.slice (some ⟨gJ0, 0, none⟩) dur0.length dur0.length) (.slice (some ⟨gJ0', 0, none⟩) ps0.length ps0.length) dur0 qsJ0) from HJ0w64.out.same hkk)
    have HVw65 := (show Hid (Blk w65 (w62.heap.size) 31 [.bool false, .slice none 0 0]) from HVw64.out.same hkk)
    have HKw65 := hid (HKw64.out.trans hkk)
    clear hkk hk
    have hS : Y3 w65 := ⟨HA0w65.out.1, HA0w65.out.2, HA1w65.out.cell 0, HA1w65.out.cell 1, HA1w65.out.cell 2⟩
    refine hK.out _ _ (fun _ => hS) ?_
    clear hK K
    try simp only [Act.put, sA, s0, sS]
    obtain ⟨z0, z1⟩ := HVw65.out.all2
    have fz := HVw65.out.frozen
    refine wpAnyV_one (i := 6) (by kernel_rfl) rfl (fun K hK => ?_)
    go_simp
    refine hK.out _ _ (fun h => absurd rfl h) ?_
    clear hK K
    refine wpAnyV_done (by kernel_rfl) ?_
    try simp only [Act.put, sA, s0, sS]
    have hk6 : Kept (fun b => b = w62.heap.size) w65 ((w65.setCell ⟨w62.heap.size, 0, none⟩ (.bool r0.1)).setCell ⟨w62.heap.size, 1, none⟩ (.slice aL nL cL)) := Kept.setCell (R := fun b => b = w62.heap.size) (Kept.setCell (R := fun b => b = w62.heap.size) (Kept.refl _ _) (p := ⟨w62.heap.size, 0, none⟩) (.inr rfl) _) (p := ⟨w62.heap.size, 1, none⟩) (.inr rfl) _
    have hB6 := (HVw65.out.stored 0 (.bool r0.1)).stored 1 (.slice aL nL cL)
    have HZ6 := (show Hid (HRes w60 ((w65.setCell ⟨w62.heap.size, 0, none⟩ (.bool r0.1)).setCell ⟨w62.heap.size, 1, none⟩ (.slice aL nL cL)) r0 (.pointer (some ⟨w62.heap.size, 0, none⟩))) from ⟨w62.heap.size, aL, nL, cL, qsL, rfl, by omega, hB6.lt, hB6, HEL.out, fun b hb => by have h1 := HFL.out b hb; omega, HLw65.out.kept hk6 (fun b hb e => by have h1 := HFL.out b hb; omega), Kept.next (HQQw65.out : Same w60 w65) hk6 (fun j hj e => by omega)⟩)
    clear hk6 hB6 hS z0 z1 fz
    go_wp2_with fail
    go_meet
    case rel => exact HZ6
  ·
   go_simp
   generalize hwd : (w61.alloc (.cells #[.bool false, .slice none 0 0] 31)) = w62
   have hk : Same (w61.alloc (.cells #[.bool false, .slice none 0 0] 31)) w62 := by rw [← hwd]; exact Kept.refl _ _
   clear hwd
   have hkk : Same w61 w62 := ((Kept.refl _ _).alloc _).trans hk
   have hzw62 := hk.size
   rw [World.size_alloc] at hzw62
   have HA0w62 := (show Hid (Box w62 (w.heap.size) (.slice a0a dur0.length c0a) (.slice a0b ps0.length c0b)) from HA0w61.out.same hkk)
   have HA1w62 := (show Hid (Blk w62 (w.heap.size + 1) 27 [.int .i64 gp1, .int .i64 gf1, .int .i64 gl1]) from HA1w61.out.same hkk)
   have HWw62 := (show Hid (OwnR kHeapRecord 0 56 5 w62 (.slice aW nW cW) qsW) from HWw61.out.same hkk)
   have HZw62 := (show Hid (Blk w62 (BW) 31 [.bool r0.1, .slice aW nW cW]) from HZw61.out.same hkk)
   have HYw62 := (show Hid (Blk w62 (BG) 31 [.bool r0.1, .slice aG nG cG]) from HYw61.out.same hkk)
   have HUw62 := (show Hid (OwnR kHeapRecord 0 56 5 w62 (.slice aG nG cG) (markR mHeapRecord 1 qsG)) from HUw61.out.same hkk)
   have HQQw62 := (show Hid (SameF w60 w62) from HQQw61.out.same hkk)
   have HVw62 := (show Hid (Blk w62 (w61.heap.size) 31 [.bool false, .slice none 0 0]) from (Blk.new w61 #[.bool false, .slice none 0 0] 31).same hk)
   have HKw62 := hid (HKw61.out.trans hkk)
   clear hkk hk
   have hS : Y3 w62 := ⟨HA0w62.out.1, HA0w62.out.2, HA1w62.out.cell 0, HA1w62.out.cell 1, HA1w62.out.cell 2⟩
   refine hK.out _ _ (fun _ => hS) ?_
   clear hK K
   try simp only [Act.put, sA, s0, sS]
   refine wpAnyV_one (i := 1) (by kernel_rfl) rfl (fun K hK => ?_)
   go_simp
   refine (toDisk_any _ _ dur0 ps0 _ (by omega) (by omega) (fun p hp => Nat.le_trans (HS0.out p hp) (by omega)) (HV0.out.same HKw62.out)).mono ?_
   rintro e w63 ⟨gJ0, gJ0', qsJ0, rfl, hq, hf, ho, hk⟩
   have HQJ0 : Hid (dataP qsJ0 = dataP ps0) := hq
   have HFJ0 := (show Hid (∀ b, footD (.slice (some ⟨gJ0, 0, none⟩) dur0.length dur0.length) (.slice (some ⟨gJ0', 0, none⟩) ps0.length ps0.length) qsJ0 b → w62.heap.size ≤ b ∧ b < w63.heap.size) from fun b hb => ⟨hf b hb, (ho.lt b hb).2⟩)
   have HJ0w63 := (show Hid (OwnD 0 79 5 w63 (.slice (some ⟨gJ0, 0, none⟩) dur0.length dur0.length) (.slice (some ⟨gJ0', 0, none⟩) ps0.length ps0.length) dur0 qsJ0) from ho)
   clear hf ho hq
   have hkk : Same w62 w63 := hk
   have hzw63 := hkk.size
   have HA0w63 := (show Hid (Box w63 (w.heap.size) (.slice a0a dur0.length c0a) (.slice a0b ps0.length c0b)) from HA0w62.out.same hkk)
   have HA1w63 := (show Hid (Blk w63 (w.heap.size + 1) 27 [.int .i64 gp1, .int .i64 gf1, .int .i64 gl1]) from HA1w62.out.same hkk)
   have HWw63 := (show Hid (OwnR kHeapRecord 0 56 5 w63 (.slice aW nW cW) qsW) from HWw62.out.same hkk)
   have HZw63 := (show Hid (Blk w63 (BW) 31 [.bool r0.1, .slice aW nW cW]) from HZw62.out.same hkk)
   have HYw63 := (show Hid (Blk w63 (BG) 31 [.bool r0.1, .slice aG nG cG]) from HYw62.out.same hkk)
   have HUw63 := (show Hid (OwnR kHeapRecord 0 56 5 w63 (.slice aG nG cG) (markR mHeapRecord 1 qsG)) from HUw62.out.same hkk)
   have HQQw63 := (show Hid (SameF w60 w63) from HQQw62.out.same hkk)
   have HVw63 := (show Hid (Blk w63 (w61.heap.size) 31 [.bool false, .slice none 0 0]) from HVw62.out.same hkk)
   have HKw63 := hid (HKw62.out.trans hkk)
   clear hkk hk
   have hS : Y3 w63 := ⟨HA0w63.out.1, HA0w63.out.2, HA1w63.out.cell 0, HA1w63.out.cell 1, HA1w63.out.cell 2⟩
   refine hK.out _ _ (fun _ => hS) ?_
   clear hK K
   try simp only [Act.put, sA, s0, sS]
   refine wpAnyV_one (i := 3) (by kernel_rfl) rfl (fun K hK => ?_)
   go_simp
   refine (toGeo_any gp1 gf1 gl1 _).mono ?_
   rintro e w64 ⟨rfl, hk⟩
   have hkk : Same w63 w64 := hk
   have hzw64 := hkk.size
   have HA0w64 := (show Hid (Box w64 (w.heap.size) (.slice a0a dur0.length c0a) (.slice a0b ps0.length c0b)) from HA0w63.out.same hkk)
   have HA1w64 := (show Hid (Blk w64 (w.heap.size + 1) 27 [.int .i64 gp1, .int .i64 gf1, .int .i64 gl1]) from HA1w63.out.same hkk)
   have HWw64 := (show Hid (OwnR kHeapRecord 0 56 5 w64 (.slice aW nW cW) qsW) from HWw63.out.same hkk)
   have HZw64 := (show Hid (Blk w64 (BW) 31 [.bool r0.1, .slice aW nW cW]) from HZw63.out.same hkk)
   have HYw64 := (show Hid (Blk w64 (BG) 31 [.bool r0.1, .slice aG nG cG]) from HYw63.out.same hkk)
   have HUw64 := (show Hid (OwnR kHeapRecord 0 56 5 w64 (.slice aG nG cG) (markR mHeapRecord 1 qsG)) from HUw63.out.same hkk)
   have HQQw64 := (show Hid (SameF w60 w64) from HQQw63.out.same hkk)
   have HVw64 := (show Hid (Blk w64 (w61.heap.size) 31 [.bool false, .slice none 0 0]) from HVw63.out.same hkk)
   have HJ0w64 := (show Hid (OwnD 0 79 5 w64 (.slice (some ⟨gJ0, 0, none⟩) dur0.length dur0.length) (.slice (some ⟨gJ0', 0, none⟩) ps0.length ps0.length) dur0 qsJ0) from HJ0w63.out.same hkk)
   have HKw64 := hid (HKw63.out.trans hkk)
   clear hkk hk
   have hS : Y3 w64 := ⟨HA0w64.out.1, HA0w64.out.2, HA1w64.out.cell 0, HA1w64.out.cell 1, HA1w64.out.cell 2⟩
   refine hK.out _ _ (fun _ => hS) ?_
   clear hK K
   try simp only [Act.put, sA, s0, sS]
   refine wpAnyV_one (i := 4) (by kernel_rfl) rfl (fun K hK => ?_)
   go_simp
   refine (implHeap_any gp1 gf1 gl1 _ _ dur0 qsJ0 _ (HB0.out qsJ0 HQJ0.out) (HJ0w64.out.rd)).mono ?_
   rintro e w65 ⟨aL, nL, cL, qsL, rfl, hR, hf, ho, hk⟩
   rw [HQJ0.out, HR.out] at hR
   rw [HQJ0.out, HR.out]
   have HEL := (show Hid (datHeapRecordS qsL = r0.2) from hR)
   have HFL := (show Hid (∀ b, footR kHeapRecord (.slice aL nL cL) qsL b → w64.heap.size ≤ b ∧ b < w65.heap.size) from fun b hb => ⟨hf b hb, (ho.lt b hb).2⟩)
   have HLw65 := (show Hid (OwnR kHeapRecord 0 56 5 w65 (.slice aL nL cL) qsL) from ho)
   clear hR hf ho
   have hkk : Same w64 w65 := hk
   have hzw65 := hkk.size
   have HA0w65 := (show Hid (Box w65 (w.heap.size) (.slice a0a dur0.length c0a) (.slice a0b ps0.length c0b)) from HA0w64.out.same hkk)
   have HA1w65 := (show Hid (Blk w65 (w.heap.size + 1) 27 [.int .i64 gp1, .int .i64 gf1, .int .i64 gl1]) from HA1w64.out.same hkk)
   have HWw65 := (show Hid (OwnR kHeapRecord 0 56 5 w65 (.slice aW nW cW) qsW) from HWw64.out.same hkk)
   have HZw65 := (show Hid (Blk w65 (BW) 31 [.bool r0.1, .slice aW nW cW]) from HZw64.out.same hkk)
   have HYw65 := (show Hid (Blk w65 (BG) 31 [.bool r0.1, .slice aG nG cG]) from HYw64.out.same hkk)
   have HUw65 := (show Hid (OwnR kHeapRecord 0 56 5 w65 (.slice aG nG cG) (markR mHeapRecord 1 qsG)) from HUw64.out.same hkk)
   have HQQw65 := (show Hid (SameF w60 w65) from HQQw64.out.same hkk)
   have HVw65 := (show Hid (Blk w65 (w61.heap.size) 31 [.bool false, .slice none 0 0]) from HVw64.out.same hkk)
   have HJ0w65 := (show Hid (OwnD 0 79 5 w65 (.slice (some ⟨gJ0, 0, none⟩) dur0.length dur0.length) (.slice (some ⟨gJ0', 0, none⟩) ps0.length ps0.length) dur0 qsJ0) from HJ0w64.out.same hkk)
   have HKw65 := hid (HKw64.out.trans hkk)
   clear hkk hk
   have hS : Y3 w65 := ⟨HA0w65.out.1, HA0w65.out.2, HA1w65.out.cell 0, HA1w65.out.cell 1, HA1w65.out.cell 2⟩
   refine hK.out _ _ (fun _ => hS) ?_
   clear hK K
   try simp only [Act.put, sA, s0, sS]
   obtain ⟨z0, z1⟩ := HVw65.out.all2
   have fz := HVw65.out.frozen
   refine wpAnyV_one (i := 6) (by kernel_rfl) rfl (fun K hK => ?_)
   go_simp
   refine hK.out _ _ (fun h => absurd rfl h) ?_
   clear hK K
   refine wpAnyV_done (by kernel_rfl) ?_
   try simp only [Act.put, sA, s0, sS]
   have hk6 : Kept (fun b => b = w61.heap.size) w65 ((w65.setCell ⟨w61.heap.size, 0, none⟩ (.bool r0.1)).setCell ⟨w61.heap.size, 1, none⟩ (.slice aL nL cL)) := Kept.setCell (R := fun b => b = w61.heap.size) (Kept.setCell (R := fun b => b = w61.heap.size) (Kept.refl _ _) (p := ⟨w61.heap.size, 0, none⟩) (.inr rfl) _) (p := ⟨w61.heap.size, 1, none⟩) (.inr rfl) _
   have hB6 := (HVw65.out.stored 0 (.bool r0.1)).stored 1 (.slice aL nL cL)
   have HZ6 := (show Hid (HRes w60 ((w65.setCell ⟨w61.heap.size, 0, none⟩ (.bool r0.1)).setCell ⟨w61.heap.size, 1, none⟩ (.slice aL nL cL)) r0 (.pointer (some ⟨w61.heap.size, 0, none⟩))) from ⟨w61.heap.size, aL, nL, cL, qsL, rfl, by omega, hB6.lt, hB6, HEL.out, fun b hb => by have h1 := HFL.out b hb; omega, HLw65.out.kept hk6 (fun b hb e => by have h1 := HFL.out b hb; omega), Kept.next (HQQw65.out : Same w60 w65) hk6 (fun j hj e => by omega)⟩)
   clear hk6 hB6 hS z0 z1 fz
   go_wp2_with fail
   go_meet
   case rel => exact HZ6
 case rest =>
 obtain ⟨w86, hwc⟩ : ∃ x, x = wc := ⟨_, rfl⟩
 subst hwc
 obtain ⟨BL, aL, nL, cL, qsL, rfl, hBaL, hBbL, hb, hR, hf, ho, hk⟩ := hcut.out
 clear hcut
 have HEL := (show Hid (datHeapRecordS qsL = r0.2) from hR)
 have HFL := (show Hid (∀ b, footR kHeapRecord (.slice aL nL cL) qsL b → (w60.heap.size ≤ b ∧ b < w86.heap.size) ∧ b ≠ BL) from fun b hb => ⟨⟨(hf b hb).1, (ho.lt b hb).2⟩, (hf b hb).2⟩)
 have HLw86 := (show Hid (OwnR kHeapRecord 0 56 5 w86 (.slice aL nL cL) qsL) from ho)
 have HVw86 := (show Hid (Blk w86 (BL) 31 [.bool r0.1, .slice aL nL cL]) from hb)
 clear hR hf ho hb
 have hkk : Same w60 w86 := hk
 have hzw86 := hkk.size
 have HA0w86 := (show Hid (Box w86 (w.heap.size) (.slice a0a dur0.length c0a) (.slice a0b ps0.length c0b)) from HA0w60.out.same hkk)
 have HA1w86 := (show Hid (Blk w86 (w.heap.size + 1) 27 [.int .i64 gp1, .int .i64 gf1, .int .i64 gl1]) from HA1w60.out.same hkk)
 have HWw86 := (show Hid (OwnR kHeapRecord 0 56 5 w86 (.slice aW nW cW) qsW) from HWw60.out.same hkk)
 have HZw86 := (show Hid (Blk w86 (BW) 31 [.bool r0.1, .slice aW nW cW]) from HZw60.out.same hkk)
 have HYw86 := (show Hid (Blk w86 (BG) 31 [.bool r0.1, .slice aG nG cG]) from HYw60.out.same hkk)
 have HUw86 := (show Hid (OwnR kHeapRecord 0 56 5 w86 (.slice aG nG cG) (markR mHeapRecord 1 qsG)) from HUw60.out.same hkk)
 have HKw86 := hid (HKw60.out.trans hkk)
 clear hkk hk
 obtain ⟨A01, A02⟩ := HA0w86.out
 have lA0 := HA0w86.out.lt
 have cA1_0 : w86.cell? ⟨w.heap.size + 1, 0, none⟩ = some (.int .i64 gp1) := HA1w86.out.cell 0
 have cA1_1 : w86.cell? ⟨w.heap.size + 1, 1, none⟩ = some (.int .i64 gf1) := HA1w86.out.cell 1
 have cA1_2 : w86.cell? ⟨w.heap.size + 1, 2, none⟩ = some (.int .i64 gl1) := HA1w86.out.cell 2
 have lA1 := HA1w86.out.lt
 have cZ_0 : w86.cell? ⟨BW, 0, none⟩ = some (.bool r0.1) := HZw86.out.cell 0
 have cZ_1 : w86.cell? ⟨BW, 1, none⟩ = some (.slice aW nW cW) := HZw86.out.cell 1
 have lZ := HZw86.out.lt
 have cY_0 : w86.cell? ⟨BG, 0, none⟩ = some (.bool r0.1) := HYw86.out.cell 0
 have cY_1 : w86.cell? ⟨BG, 1, none⟩ = some (.slice aG nG cG) := HYw86.out.cell 1
 have lY := HYw86.out.lt
 have cV_0 : w86.cell? ⟨BL, 0, none⟩ = some (.bool r0.1) := HVw86.out.cell 0
 have cV_1 : w86.cell? ⟨BL, 1, none⟩ = some (.slice aL nL cL) := HVw86.out.cell 1
 have lV := HVw86.out.lt
 go_wp2_with fail
 refine (eqHeapResult_own 0 r0.1 _ _ qsL qsW _ (Nat.le_trans (HSM.out qsL HEL.out).1 (by omega)) (HEL.out.trans HEW.out.symm) (fun p hp => by have h1 := (HSM.out qsL HEL.out).2; have h2 := sizeHeapRecordS_mem qsL p hp; omega) HLw86.out HWw86.out).mono ?_
 rintro e w87 ⟨rfl, hk⟩
 have hkk : Same w86 w87 := hk
 have hzw87 := hkk.size
 have HA0w87 := (show Hid (Box w87 (w.heap.size) (.slice a0a dur0.length c0a) (.slice a0b ps0.length c0b)) from HA0w86.out.same hkk)
 have HA1w87 := (show Hid (Blk w87 (w.heap.size + 1) 27 [.int .i64 gp1, .int .i64 gf1, .int .i64 gl1]) from HA1w86.out.same hkk)
 have HWw87 := (show Hid (OwnR kHeapRecord 0 56 5 w87 (.slice aW nW cW) qsW) from HWw86.out.same hkk)
 have HZw87 := (show Hid (Blk w87 (BW) 31 [.bool r0.1, .slice aW nW cW]) from HZw86.out.same hkk)
 have HYw87 := (show Hid (Blk w87 (BG) 31 [.bool r0.1, .slice aG nG cG]) from HYw86.out.same hkk)
 have HUw87 := (show Hid (OwnR kHeapRecord 0 56 5 w87 (.slice aG nG cG) (markR mHeapRecord 1 qsG)) from HUw86.out.same hkk)
 have HLw87 := (show Hid (OwnR kHeapRecord 0 56 5 w87 (.slice aL nL cL) qsL) from HLw86.out.same hkk)
 have HVw87 := (show Hid (Blk w87 (BL) 31 [.bool r0.1, .slice aL nL cL]) from HVw86.out.same hkk)
 have HKw87 := hid (HKw86.out.trans hkk)
 clear hkk hk
 clear A01 A02 lA0
 clear cA1_0 cA1_1 cA1_2 lA1 cZ_0 cZ_1 lZ cY_0 cY_1 lY cV_0 cV_1 lV
 obtain ⟨A01, A02⟩ := HA0w87.out
 have lA0 := HA0w87.out.lt
 have cA1_0 : w87.cell? ⟨w.heap.size + 1, 0, none⟩ = some (.int .i64 gp1) := HA1w87.out.cell 0
 have cA1_1 : w87.cell? ⟨w.heap.size + 1, 1, none⟩ = some (.int .i64 gf1) := HA1w87.out.cell 1
 have cA1_2 : w87.cell? ⟨w.heap.size + 1, 2, none⟩ = some (.int .i64 gl1) := HA1w87.out.cell 2
 have lA1 := HA1w87.out.lt
 have cY_0 : w87.cell? ⟨BG, 0, none⟩ = some (.bool r0.1) := HYw87.out.cell 0
 have cY_1 : w87.cell? ⟨BG, 1, none⟩ = some (.slice aG nG cG) := HYw87.out.cell 1
 have lY := HYw87.out.lt
 go_wp2_with fail
 have hm := heldHeapResult_own r0.1 (.slice aG nG cG) qsG 1 w87 (by omega) (by rw [HM.out]; exact hM1) (by omega) HUw87.out
 rw [HM.out] at hm
 refine hm.mono ?_
 clear hm
 rintro e w88 ⟨rfl, hk⟩
 have hkk : Same w87 w88 := hk
 have hzw88 := hkk.size
 have HA0w88 := (show Hid (Box w88 (w.heap.size) (.slice a0a dur0.length c0a) (.slice a0b ps0.length c0b)) from HA0w87.out.same hkk)
 have HA1w88 := (show Hid (Blk w88 (w.heap.size + 1) 27 [.int .i64 gp1, .int .i64 gf1, .int .i64 gl1]) from HA1w87.out.same hkk)
 have HYw88 := (show Hid (Blk w88 (BG) 31 [.bool r0.1, .slice aG nG cG]) from HYw87.out.same hkk)
 have HUw88 := (show Hid (OwnR kHeapRecord 0 56 5 w88 (.slice aG nG cG) (markR mHeapRecord 1 qsG)) from HUw87.out.same hkk)
 have HKw88 := hid (HKw87.out.trans hkk)
 clear hkk hk
 clear A01 A02 lA0
 clear cA1_0 cA1_1 cA1_2 lA1 cY_0 cY_1 lY
 go_wp2
 go_ret
 exact ⟨rfl, HKw88.out⟩
end Go.Proofs.YtjlkphhdbopmiaaGreat
