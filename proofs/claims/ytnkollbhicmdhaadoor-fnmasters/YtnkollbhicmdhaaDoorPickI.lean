import Derived.Test.YtnkollbhicmdhaaDoorG06
namespace Go.Proofs.YtnkollbhicmdhaaDoor
set_option maxRecDepth 100000
set_option maxHeartbeats 8000000
set_option linter.unusedVariables false
set_option linter.unusedSimpArgs false
open Go.RowKit
theorem implPick_any (dv pv : Value) (dur : List Int) (ps : List PW) (a0 a1 a2 a3 a4 : Addr) (w : World) (hE : Errs5 w a0 a1 a2 a3 a4) (hd : dur.length ≤ 1099511627776) (hs : ∀ p ∈ ps, p.bs.length ≤ 1099511627776) (hb : DiskB dur ps) (hv : RdD w dv pv dur ps) :
  Calls Tryd.prog 10 #[.agg #[dv, pv]] w fun ex w' => (∃ v, ex = .returned v ∧ Picked dur (dataP ps) v) ∧ Same w w' := by
 obtain ⟨ad, cd, rfl⟩ := hv.dur.form
 obtain ⟨ap, cp, rfl⟩ := hv.pend.form
 have HE := (show Hid (Errs5 w a0 a1 a2 a3 a4) from hE)
 have HV := (show Hid (RdD w (.slice ad dur.length cd) (.slice ap ps.length cp) dur ps) from hv)
 have HB := (show Hid (DiskB dur ps) from hb)
 have HS := (show Hid (∀ p ∈ ps, p.bs.length ≤ 1099511627776) from hs)
 clear hv hb hs hE
 have HK0 := (show Hid (Same w (((w.alloc (.cells #[.slice ad dur.length cd, .slice ap ps.length cp] 25)).alloc (.cells #[.bool false, .int .i64 0, .int .i64 0, .int .i64 0, .int .i64 0, .int .i64 0] 30)).alloc (.cells #[.bool false, .int .i64 0, .int .i64 0, .int .i64 0, .int .i64 0, .int .i64 0] 30))) from (((Kept.refl _ _).alloc _).alloc _).alloc _)
 have HD0 := (show Hid (Blk (((w.alloc (.cells #[.slice ad dur.length cd, .slice ap ps.length cp] 25)).alloc (.cells #[.bool false, .int .i64 0, .int .i64 0, .int .i64 0, .int .i64 0, .int .i64 0] 30)).alloc (.cells #[.bool false, .int .i64 0, .int .i64 0, .int .i64 0, .int .i64 0, .int .i64 0] 30)) w.heap.size 25 [.slice ad dur.length cd, .slice ap ps.length cp]) from ((Blk.new w #[.slice ad dur.length cd, .slice ap ps.length cp] 25).same ((Kept.refl _ _).alloc _)).same ((Kept.refl _ _).alloc _))
 have HR0 := (show Hid (Blk (((w.alloc (.cells #[.slice ad dur.length cd, .slice ap ps.length cp] 25)).alloc (.cells #[.bool false, .int .i64 0, .int .i64 0, .int .i64 0, .int .i64 0, .int .i64 0] 30)).alloc (.cells #[.bool false, .int .i64 0, .int .i64 0, .int .i64 0, .int .i64 0, .int .i64 0] 30)) (w.heap.size + 1) 30 [.bool false, .int .i64 0, .int .i64 0, .int .i64 0, .int .i64 0, .int .i64 0]) from by have h := Blk.new (w.alloc (.cells #[.slice ad dur.length cd, .slice ap ps.length cp] 25)) #[.bool false, .int .i64 0, .int .i64 0, .int .i64 0, .int .i64 0, .int .i64 0] 30; rw [World.size_alloc] at h; exact h.same ((Kept.refl _ _).alloc _))
 have HB0 := (show Hid (Blk (((w.alloc (.cells #[.slice ad dur.length cd, .slice ap ps.length cp] 25)).alloc (.cells #[.bool false, .int .i64 0, .int .i64 0, .int .i64 0, .int .i64 0, .int .i64 0] 30)).alloc (.cells #[.bool false, .int .i64 0, .int .i64 0, .int .i64 0, .int .i64 0, .int .i64 0] 30)) (w.heap.size + 1 + 1) 30 [.bool false, .int .i64 0, .int .i64 0, .int .i64 0, .int .i64 0, .int .i64 0]) from by have h := Blk.new ((w.alloc (.cells #[.slice ad dur.length cd, .slice ap ps.length cp] 25)).alloc (.cells #[.bool false, .int .i64 0, .int .i64 0, .int .i64 0, .int .i64 0, .int .i64 0] 30)) #[.bool false, .int .i64 0, .int .i64 0, .int .i64 0, .int .i64 0, .int .i64 0] 30; rwa [World.size_alloc, World.size_alloc] at h)
 go_enter Tryd.func10, Tryd.ntmps10
 go_wp2_with fail
 refine wp_loop_rounds 3 ?_
 rw [rounds_succ]
 obtain ⟨d0, d1⟩ := HD0.out.all2
 go_wp2_with fail
 refine (implRead_any _ _ dur ps 0 _ hd HS.out (HV.out.same HK0.out)).mono ?_
 rintro ex w1 ⟨x1, n1, y1, b0, rfl, hr, ho, hf, hk⟩
 have HR1 := hid (HR0.out.same hk)
 have HB1 := hid (HB0.out.same hk)
 have HD1 := hid (HD0.out.same hk)
 have HK1 := hid (HK0.out.trans hk)
 have HQ0 := (show Hid (IsRead 0 dur (dataP ps) b0) from hr)
 have HO1 := (show Hid (Rd .u8 w1 (.slice x1 n1 y1) b0) from ho.rd)
 clear hr ho hf hk HK0 HD0 HR0 HB0 d0 d1
 obtain ⟨g0, s0, e0, c0, l0, hf0⟩ := decF b0
 have HF0 := (show Hid (DecF b0 g0 s0 e0 c0 l0) from hf0)
 clear hf0
 go_wp2_with fail
 refine (implDec_any _ b0 a0 a1 a2 a3 a4 _ (HE.out.same HK1.out) (read_isB HQ0.out HB.out) HO1.out).mono ?_
 rintro ex w2 ⟨rfl, hk⟩
 rw [HF0.out.val]
 unfold resV
 have hkA : Same w1 (w2.alloc (.cells #[.bool g0, .int .i64 0, .int .i64 s0, .int .i64 e0, .int .i64 c0, .int .i64 l0] 30)) := hk.alloc _
 have HR2 := hid (HR1.out.same hkA)
 have HB2 := hid (HB1.out.same hkA)
 have HD2 := hid (HD1.out.same hkA)
 have HK2 := hid (HK1.out.trans hkA)
 have hz1 := HB1.out.lt
 have hz2 := hk.size
 clear hk hkA HK1 HD1 HR1 HB1 HO1
 have hone0 := HF0.out.one
 rcases hone0 with ⟨rfl, rfl, rfl, rfl, rfl⟩ | ⟨rfl, hs0⟩
 ·have b0' : (w2.alloc (.cells #[.bool false, .int .i64 0, .int .i64 0, .int .i64 0, .int .i64 0, .int .i64 0] 30)).cell? ⟨w.heap.size + 1 + 1, 0, none⟩ = some (.bool false) := HB2.out.cell 0
  have b1' : (w2.alloc (.cells #[.bool false, .int .i64 0, .int .i64 0, .int .i64 0, .int .i64 0, .int .i64 0] 30)).cell? ⟨w.heap.size + 1 + 1, 1, none⟩ = some (.int .i64 0) := HB2.out.cell 1
  have b2' : (w2.alloc (.cells #[.bool false, .int .i64 0, .int .i64 0, .int .i64 0, .int .i64 0, .int .i64 0] 30)).cell? ⟨w.heap.size + 1 + 1, 2, none⟩ = some (.int .i64 0) := HB2.out.cell 2
  have b3' : (w2.alloc (.cells #[.bool false, .int .i64 0, .int .i64 0, .int .i64 0, .int .i64 0, .int .i64 0] 30)).cell? ⟨w.heap.size + 1 + 1, 3, none⟩ = some (.int .i64 0) := HB2.out.cell 3
  have b4' : (w2.alloc (.cells #[.bool false, .int .i64 0, .int .i64 0, .int .i64 0, .int .i64 0, .int .i64 0] 30)).cell? ⟨w.heap.size + 1 + 1, 4, none⟩ = some (.int .i64 0) := HB2.out.cell 4
  have b5' : (w2.alloc (.cells #[.bool false, .int .i64 0, .int .i64 0, .int .i64 0, .int .i64 0, .int .i64 0] 30)).cell? ⟨w.heap.size + 1 + 1, 5, none⟩ = some (.int .i64 0) := HB2.out.cell 5
  have fb' := HB2.out.frozen
  go_wp2_with fail
  rw [rounds_succ]
  obtain ⟨d0, d1⟩ := HD2.out.all2
  go_wp2_with fail
  refine (implRead_any _ _ dur ps 1 _ hd HS.out (HV.out.same HK2.out)).mono ?_
  rintro ex w3 ⟨x3, n3, y3, b1, rfl, hr, ho, hf, hk⟩
  have HR3 := hid (HR2.out.same hk)
  have HB3 := hid (HB2.out.same hk)
  have HD3 := hid (HD2.out.same hk)
  have HK3 := hid (HK2.out.trans hk)
  have HQ1 := (show Hid (IsRead 1 dur (dataP ps) b1) from hr)
  have HO3 := (show Hid (Rd .u8 w3 (.slice x3 n3 y3) b1) from ho.rd)
  clear hr ho hf hk HK2 HD2 HR2 HB2 d0 d1
  obtain ⟨g1, s1, e1, c1, l1, hf1⟩ := decF b1
  have HF1 := (show Hid (DecF b1 g1 s1 e1 c1 l1) from hf1)
  clear hf1
  go_wp2_with fail
  refine (implDec_any _ b1 a0 a1 a2 a3 a4 _ (HE.out.same HK3.out) (read_isB HQ1.out HB.out) HO3.out).mono ?_
  rintro ex w4 ⟨rfl, hk⟩
  rw [HF1.out.val]
  unfold resV
  have hkA : Same w3 (w4.alloc (.cells #[.bool g1, .int .i64 0, .int .i64 s1, .int .i64 e1, .int .i64 c1, .int .i64 l1] 30)) := hk.alloc _
  have HR4 := hid (HR3.out.same hkA)
  have HB4 := hid (HB3.out.same hkA)
  have HD4 := hid (HD3.out.same hkA)
  have HK4 := hid (HK3.out.trans hkA)
  have hz3 := HB3.out.lt
  have hz4 := hk.size
  clear hk hkA HK3 HD3 HR3 HB3 HO3
  have b0' : (w4.alloc (.cells #[.bool g1, .int .i64 0, .int .i64 s1, .int .i64 e1, .int .i64 c1, .int .i64 l1] 30)).cell? ⟨w.heap.size + 1 + 1, 0, none⟩ = some (.bool false) := HB4.out.cell 0
  have b1' : (w4.alloc (.cells #[.bool g1, .int .i64 0, .int .i64 s1, .int .i64 e1, .int .i64 c1, .int .i64 l1] 30)).cell? ⟨w.heap.size + 1 + 1, 1, none⟩ = some (.int .i64 0) := HB4.out.cell 1
  have b2' : (w4.alloc (.cells #[.bool g1, .int .i64 0, .int .i64 s1, .int .i64 e1, .int .i64 c1, .int .i64 l1] 30)).cell? ⟨w.heap.size + 1 + 1, 2, none⟩ = some (.int .i64 0) := HB4.out.cell 2
  have b3' : (w4.alloc (.cells #[.bool g1, .int .i64 0, .int .i64 s1, .int .i64 e1, .int .i64 c1, .int .i64 l1] 30)).cell? ⟨w.heap.size + 1 + 1, 3, none⟩ = some (.int .i64 0) := HB4.out.cell 3
  have b4' : (w4.alloc (.cells #[.bool g1, .int .i64 0, .int .i64 s1, .int .i64 e1, .int .i64 c1, .int .i64 l1] 30)).cell? ⟨w.heap.size + 1 + 1, 4, none⟩ = some (.int .i64 0) := HB4.out.cell 4
  have b5' : (w4.alloc (.cells #[.bool g1, .int .i64 0, .int .i64 s1, .int .i64 e1, .int .i64 c1, .int .i64 l1] 30)).cell? ⟨w.heap.size + 1 + 1, 5, none⟩ = some (.int .i64 0) := HB4.out.cell 5
  have fb' := HB4.out.frozen
  have r0 : (w4.alloc (.cells #[.bool g1, .int .i64 0, .int .i64 s1, .int .i64 e1, .int .i64 c1, .int .i64 l1] 30)).cell? ⟨w.heap.size + 1, 0, none⟩ = some (.bool false) := HR4.out.cell 0
  have r1 : (w4.alloc (.cells #[.bool g1, .int .i64 0, .int .i64 s1, .int .i64 e1, .int .i64 c1, .int .i64 l1] 30)).cell? ⟨w.heap.size + 1, 1, none⟩ = some (.int .i64 0) := HR4.out.cell 1
  have r2 : (w4.alloc (.cells #[.bool g1, .int .i64 0, .int .i64 s1, .int .i64 e1, .int .i64 c1, .int .i64 l1] 30)).cell? ⟨w.heap.size + 1, 2, none⟩ = some (.int .i64 0) := HR4.out.cell 2
  have r3 : (w4.alloc (.cells #[.bool g1, .int .i64 0, .int .i64 s1, .int .i64 e1, .int .i64 c1, .int .i64 l1] 30)).cell? ⟨w.heap.size + 1, 3, none⟩ = some (.int .i64 0) := HR4.out.cell 3
  have r4 : (w4.alloc (.cells #[.bool g1, .int .i64 0, .int .i64 s1, .int .i64 e1, .int .i64 c1, .int .i64 l1] 30)).cell? ⟨w.heap.size + 1, 4, none⟩ = some (.int .i64 0) := HR4.out.cell 4
  have r5 : (w4.alloc (.cells #[.bool g1, .int .i64 0, .int .i64 s1, .int .i64 e1, .int .i64 c1, .int .i64 l1] 30)).cell? ⟨w.heap.size + 1, 5, none⟩ = some (.int .i64 0) := HR4.out.cell 5
  have fr := HR4.out.frozen
  have HO1 := HF1.out.one
  by_cases h1 : 0 < s1
  ·go_wp2_with fail
   rw [rounds_succ]
   have hks : Kept (fun b => b = w.heap.size + 1 + 1) (w4.alloc (.cells #[.bool g1, .int .i64 0, .int .i64 s1, .int .i64 e1, .int .i64 c1, .int .i64 l1] 30)) ((((((((w4.alloc (.cells #[.bool g1, .int .i64 0, .int .i64 s1, .int .i64 e1, .int .i64 c1, .int .i64 l1] 30)).setCell ⟨w.heap.size + 1 + 1, 0, none⟩ (.bool g1)).setCell ⟨w.heap.size + 1 + 1, 1, none⟩ (.int .i64 0)).setCell ⟨w.heap.size + 1 + 1, 2, none⟩ (.int .i64 s1)).setCell ⟨w.heap.size + 1 + 1, 3, none⟩ (.int .i64 e1)).setCell ⟨w.heap.size + 1 + 1, 4, none⟩ (.int .i64 c1)).setCell ⟨w.heap.size + 1 + 1, 5, none⟩ (.int .i64 l1)).setCell ⟨w.heap.size + 1 + 1, 1, none⟩ (.int .i64 1)) := by
    (iterate 7 refine Kept.setCell (R := fun b => b = w.heap.size + 1 + 1) ?_ (.inr rfl) _)
    exact Kept.refl _ _
   have HKx := (show Hid (Same w ((((((((w4.alloc (.cells #[.bool g1, .int .i64 0, .int .i64 s1, .int .i64 e1, .int .i64 c1, .int .i64 l1] 30)).setCell ⟨w.heap.size + 1 + 1, 0, none⟩ (.bool g1)).setCell ⟨w.heap.size + 1 + 1, 1, none⟩ (.int .i64 0)).setCell ⟨w.heap.size + 1 + 1, 2, none⟩ (.int .i64 s1)).setCell ⟨w.heap.size + 1 + 1, 3, none⟩ (.int .i64 e1)).setCell ⟨w.heap.size + 1 + 1, 4, none⟩ (.int .i64 c1)).setCell ⟨w.heap.size + 1 + 1, 5, none⟩ (.int .i64 l1)).setCell ⟨w.heap.size + 1 + 1, 1, none⟩ (.int .i64 1))) from HK4.out.next hks (fun b hb e => by omega))
   have HRx := (show Hid (Blk ((((((((w4.alloc (.cells #[.bool g1, .int .i64 0, .int .i64 s1, .int .i64 e1, .int .i64 c1, .int .i64 l1] 30)).setCell ⟨w.heap.size + 1 + 1, 0, none⟩ (.bool g1)).setCell ⟨w.heap.size + 1 + 1, 1, none⟩ (.int .i64 0)).setCell ⟨w.heap.size + 1 + 1, 2, none⟩ (.int .i64 s1)).setCell ⟨w.heap.size + 1 + 1, 3, none⟩ (.int .i64 e1)).setCell ⟨w.heap.size + 1 + 1, 4, none⟩ (.int .i64 c1)).setCell ⟨w.heap.size + 1 + 1, 5, none⟩ (.int .i64 l1)).setCell ⟨w.heap.size + 1 + 1, 1, none⟩ (.int .i64 1)) (w.heap.size + 1) 30 [.bool false, .int .i64 0, .int .i64 0, .int .i64 0, .int .i64 0, .int .i64 0]) from HR4.out.kept hks (by omega))
   have HBx := (show Hid (Blk ((((((((w4.alloc (.cells #[.bool g1, .int .i64 0, .int .i64 s1, .int .i64 e1, .int .i64 c1, .int .i64 l1] 30)).setCell ⟨w.heap.size + 1 + 1, 0, none⟩ (.bool g1)).setCell ⟨w.heap.size + 1 + 1, 1, none⟩ (.int .i64 0)).setCell ⟨w.heap.size + 1 + 1, 2, none⟩ (.int .i64 s1)).setCell ⟨w.heap.size + 1 + 1, 3, none⟩ (.int .i64 e1)).setCell ⟨w.heap.size + 1 + 1, 4, none⟩ (.int .i64 c1)).setCell ⟨w.heap.size + 1 + 1, 5, none⟩ (.int .i64 l1)).setCell ⟨w.heap.size + 1 + 1, 1, none⟩ (.int .i64 1)) (w.heap.size + 1 + 1) 30 [.bool g1, .int .i64 1, .int .i64 s1, .int .i64 e1, .int .i64 c1, .int .i64 l1]) from ((((((HB4.out.stored 0 _).stored 1 _).stored 2 _).stored 3 _).stored 4 _).stored 5 _).stored 1 _)
   clear hks
   clear HK4 HD4 HR4 HB4 b0' b1' b2' b3' b4' b5' fb' r0 r1 r2 r3 r4 r5 fr
   obtain ⟨wx, hwx⟩ : ∃ wx, ((((((((w4.alloc (.cells #[.bool g1, .int .i64 0, .int .i64 s1, .int .i64 e1, .int .i64 c1, .int .i64 l1] 30)).setCell ⟨w.heap.size + 1 + 1, 0, none⟩ (.bool g1)).setCell ⟨w.heap.size + 1 + 1, 1, none⟩ (.int .i64 0)).setCell ⟨w.heap.size + 1 + 1, 2, none⟩ (.int .i64 s1)).setCell ⟨w.heap.size + 1 + 1, 3, none⟩ (.int .i64 e1)).setCell ⟨w.heap.size + 1 + 1, 4, none⟩ (.int .i64 c1)).setCell ⟨w.heap.size + 1 + 1, 5, none⟩ (.int .i64 l1)).setCell ⟨w.heap.size + 1 + 1, 1, none⟩ (.int .i64 1)) = wx := ⟨_, rfl⟩
   rw [hwx] at HKx HRx HBx ⊢
   clear hwx
   have b0' : wx.cell? ⟨w.heap.size + 1 + 1, 0, none⟩ = some (.bool g1) := HBx.out.cell 0
   have b1' : wx.cell? ⟨w.heap.size + 1 + 1, 1, none⟩ = some (.int .i64 1) := HBx.out.cell 1
   have b2' : wx.cell? ⟨w.heap.size + 1 + 1, 2, none⟩ = some (.int .i64 s1) := HBx.out.cell 2
   have b3' : wx.cell? ⟨w.heap.size + 1 + 1, 3, none⟩ = some (.int .i64 e1) := HBx.out.cell 3
   have b4' : wx.cell? ⟨w.heap.size + 1 + 1, 4, none⟩ = some (.int .i64 c1) := HBx.out.cell 4
   have b5' : wx.cell? ⟨w.heap.size + 1 + 1, 5, none⟩ = some (.int .i64 l1) := HBx.out.cell 5
   have fb' := HBx.out.frozen
   have r0 := HRx.out.c0
   have r1 := HRx.out.c1
   have r2 := HRx.out.c2
   have r3 := HRx.out.c3
   have r4 := HRx.out.c4
   have r5 := HRx.out.c5
   have fr := HRx.out.frozen
   have hzx := HBx.out.lt
   go_wp2
   refine bodyPost_ret (v := resV g1 1 s1 e1 c1 l1) (by simp [results, Tryd.results10, go_sem, resV, r0, r1, r2, r3, r4, r5]) rfl ⟨⟨_, rfl, b0, b1, _, _, _, _, _, _, _, _, _, _, HQ0.out, HQ1.out, HF0.out, HF1.out, by unfold pickV; rw [if_pos (HO1.elim (fun h => by omega) (fun h => ⟨h.1, .inl rfl⟩))]⟩, ?_⟩
   (iterate 6 refine Kept.setCell ?_ (.inl (Nat.le_succ _)) _)
   exact HKx.out
  ·go_wp2_with fail
   rw [rounds_succ]
   have HKx := HK4
   have HRx := HR4
   have HBx := HB4
   clear HK4 HD4 HR4 HB4 b0' b1' b2' b3' b4' b5' fb' r0 r1 r2 r3 r4 r5 fr
   obtain ⟨wx, hwx⟩ : ∃ wx, (w4.alloc (.cells #[.bool g1, .int .i64 0, .int .i64 s1, .int .i64 e1, .int .i64 c1, .int .i64 l1] 30)) = wx := ⟨_, rfl⟩
   rw [hwx] at HKx HRx HBx ⊢
   clear hwx
   have b0' : wx.cell? ⟨w.heap.size + 1 + 1, 0, none⟩ = some (.bool false) := HBx.out.cell 0
   have b1' : wx.cell? ⟨w.heap.size + 1 + 1, 1, none⟩ = some (.int .i64 0) := HBx.out.cell 1
   have b2' : wx.cell? ⟨w.heap.size + 1 + 1, 2, none⟩ = some (.int .i64 0) := HBx.out.cell 2
   have b3' : wx.cell? ⟨w.heap.size + 1 + 1, 3, none⟩ = some (.int .i64 0) := HBx.out.cell 3
   have b4' : wx.cell? ⟨w.heap.size + 1 + 1, 4, none⟩ = some (.int .i64 0) := HBx.out.cell 4
   have b5' : wx.cell? ⟨w.heap.size + 1 + 1, 5, none⟩ = some (.int .i64 0) := HBx.out.cell 5
   have fb' := HBx.out.frozen
   have r0 := HRx.out.c0
   have r1 := HRx.out.c1
   have r2 := HRx.out.c2
   have r3 := HRx.out.c3
   have r4 := HRx.out.c4
   have r5 := HRx.out.c5
   have fr := HRx.out.frozen
   have hzx := HBx.out.lt
   go_wp2
   refine bodyPost_ret (v := resV false 0 0 0 0 0) (by simp [results, Tryd.results10, go_sem, resV, r0, r1, r2, r3, r4, r5]) rfl ⟨⟨_, rfl, b0, b1, _, _, _, _, _, _, _, _, _, _, HQ0.out, HQ1.out, HF0.out, HF1.out, by unfold pickV; rw [if_neg (HO1.elim (fun h => by simp [h.1]) (fun h => by omega))]⟩, ?_⟩
   (iterate 6 refine Kept.setCell ?_ (.inl (Nat.le_succ _)) _)
   exact HKx.out
 ·have h0 : 0 < s0 := by omega
  have b0' : (w2.alloc (.cells #[.bool true, .int .i64 0, .int .i64 s0, .int .i64 e0, .int .i64 c0, .int .i64 l0] 30)).cell? ⟨w.heap.size + 1 + 1, 0, none⟩ = some (.bool false) := HB2.out.cell 0
  have b1' : (w2.alloc (.cells #[.bool true, .int .i64 0, .int .i64 s0, .int .i64 e0, .int .i64 c0, .int .i64 l0] 30)).cell? ⟨w.heap.size + 1 + 1, 1, none⟩ = some (.int .i64 0) := HB2.out.cell 1
  have b2' : (w2.alloc (.cells #[.bool true, .int .i64 0, .int .i64 s0, .int .i64 e0, .int .i64 c0, .int .i64 l0] 30)).cell? ⟨w.heap.size + 1 + 1, 2, none⟩ = some (.int .i64 0) := HB2.out.cell 2
  have b3' : (w2.alloc (.cells #[.bool true, .int .i64 0, .int .i64 s0, .int .i64 e0, .int .i64 c0, .int .i64 l0] 30)).cell? ⟨w.heap.size + 1 + 1, 3, none⟩ = some (.int .i64 0) := HB2.out.cell 3
  have b4' : (w2.alloc (.cells #[.bool true, .int .i64 0, .int .i64 s0, .int .i64 e0, .int .i64 c0, .int .i64 l0] 30)).cell? ⟨w.heap.size + 1 + 1, 4, none⟩ = some (.int .i64 0) := HB2.out.cell 4
  have b5' : (w2.alloc (.cells #[.bool true, .int .i64 0, .int .i64 s0, .int .i64 e0, .int .i64 c0, .int .i64 l0] 30)).cell? ⟨w.heap.size + 1 + 1, 5, none⟩ = some (.int .i64 0) := HB2.out.cell 5
  have fb' := HB2.out.frozen
  have hks : Kept (fun b => b = w.heap.size + 1 + 1) (w2.alloc (.cells #[.bool true, .int .i64 0, .int .i64 s0, .int .i64 e0, .int .i64 c0, .int .i64 l0] 30)) ((((((((w2.alloc (.cells #[.bool true, .int .i64 0, .int .i64 s0, .int .i64 e0, .int .i64 c0, .int .i64 l0] 30)).setCell ⟨w.heap.size + 1 + 1, 0, none⟩ (.bool true)).setCell ⟨w.heap.size + 1 + 1, 1, none⟩ (.int .i64 0)).setCell ⟨w.heap.size + 1 + 1, 2, none⟩ (.int .i64 s0)).setCell ⟨w.heap.size + 1 + 1, 3, none⟩ (.int .i64 e0)).setCell ⟨w.heap.size + 1 + 1, 4, none⟩ (.int .i64 c0)).setCell ⟨w.heap.size + 1 + 1, 5, none⟩ (.int .i64 l0)).setCell ⟨w.heap.size + 1 + 1, 1, none⟩ (.int .i64 0)) := by
   (iterate 7 refine Kept.setCell (R := fun b => b = w.heap.size + 1 + 1) ?_ (.inr rfl) _)
   exact Kept.refl _ _
  have HK3 := (show Hid (Same w ((((((((w2.alloc (.cells #[.bool true, .int .i64 0, .int .i64 s0, .int .i64 e0, .int .i64 c0, .int .i64 l0] 30)).setCell ⟨w.heap.size + 1 + 1, 0, none⟩ (.bool true)).setCell ⟨w.heap.size + 1 + 1, 1, none⟩ (.int .i64 0)).setCell ⟨w.heap.size + 1 + 1, 2, none⟩ (.int .i64 s0)).setCell ⟨w.heap.size + 1 + 1, 3, none⟩ (.int .i64 e0)).setCell ⟨w.heap.size + 1 + 1, 4, none⟩ (.int .i64 c0)).setCell ⟨w.heap.size + 1 + 1, 5, none⟩ (.int .i64 l0)).setCell ⟨w.heap.size + 1 + 1, 1, none⟩ (.int .i64 0))) from HK2.out.next hks (fun b hb e => by omega))
  have HD3 := (show Hid (Blk ((((((((w2.alloc (.cells #[.bool true, .int .i64 0, .int .i64 s0, .int .i64 e0, .int .i64 c0, .int .i64 l0] 30)).setCell ⟨w.heap.size + 1 + 1, 0, none⟩ (.bool true)).setCell ⟨w.heap.size + 1 + 1, 1, none⟩ (.int .i64 0)).setCell ⟨w.heap.size + 1 + 1, 2, none⟩ (.int .i64 s0)).setCell ⟨w.heap.size + 1 + 1, 3, none⟩ (.int .i64 e0)).setCell ⟨w.heap.size + 1 + 1, 4, none⟩ (.int .i64 c0)).setCell ⟨w.heap.size + 1 + 1, 5, none⟩ (.int .i64 l0)).setCell ⟨w.heap.size + 1 + 1, 1, none⟩ (.int .i64 0)) w.heap.size 25 [.slice ad dur.length cd, .slice ap ps.length cp]) from HD2.out.kept hks (by omega))
  have HR3 := (show Hid (Blk ((((((((w2.alloc (.cells #[.bool true, .int .i64 0, .int .i64 s0, .int .i64 e0, .int .i64 c0, .int .i64 l0] 30)).setCell ⟨w.heap.size + 1 + 1, 0, none⟩ (.bool true)).setCell ⟨w.heap.size + 1 + 1, 1, none⟩ (.int .i64 0)).setCell ⟨w.heap.size + 1 + 1, 2, none⟩ (.int .i64 s0)).setCell ⟨w.heap.size + 1 + 1, 3, none⟩ (.int .i64 e0)).setCell ⟨w.heap.size + 1 + 1, 4, none⟩ (.int .i64 c0)).setCell ⟨w.heap.size + 1 + 1, 5, none⟩ (.int .i64 l0)).setCell ⟨w.heap.size + 1 + 1, 1, none⟩ (.int .i64 0)) (w.heap.size + 1) 30 [.bool false, .int .i64 0, .int .i64 0, .int .i64 0, .int .i64 0, .int .i64 0]) from HR2.out.kept hks (by omega))
  have HB3 := (show Hid (Blk ((((((((w2.alloc (.cells #[.bool true, .int .i64 0, .int .i64 s0, .int .i64 e0, .int .i64 c0, .int .i64 l0] 30)).setCell ⟨w.heap.size + 1 + 1, 0, none⟩ (.bool true)).setCell ⟨w.heap.size + 1 + 1, 1, none⟩ (.int .i64 0)).setCell ⟨w.heap.size + 1 + 1, 2, none⟩ (.int .i64 s0)).setCell ⟨w.heap.size + 1 + 1, 3, none⟩ (.int .i64 e0)).setCell ⟨w.heap.size + 1 + 1, 4, none⟩ (.int .i64 c0)).setCell ⟨w.heap.size + 1 + 1, 5, none⟩ (.int .i64 l0)).setCell ⟨w.heap.size + 1 + 1, 1, none⟩ (.int .i64 0)) (w.heap.size + 1 + 1) 30 [.bool true, .int .i64 0, .int .i64 s0, .int .i64 e0, .int .i64 c0, .int .i64 l0]) from ((((((HB2.out.stored 0 _).stored 1 _).stored 2 _).stored 3 _).stored 4 _).stored 5 _).stored 1 _)
  clear hks HK2 HD2 HR2 HB2
  go_wp2_with fail
  rw [rounds_succ]
  obtain ⟨d0, d1⟩ := HD3.out.all2
  go_wp2_with fail
  refine (implRead_any _ _ dur ps 1 _ hd HS.out (HV.out.same HK3.out)).mono ?_
  rintro ex w4 ⟨x4, n4, y4, b1, rfl, hr, ho, hf, hk⟩
  have HR4 := hid (HR3.out.same hk)
  have HB4 := hid (HB3.out.same hk)
  have HD4 := hid (HD3.out.same hk)
  have HK4 := hid (HK3.out.trans hk)
  have HQ1 := (show Hid (IsRead 1 dur (dataP ps) b1) from hr)
  have HO4 := (show Hid (Rd .u8 w4 (.slice x4 n4 y4) b1) from ho.rd)
  clear hr ho hf hk HK3 HD3 HR3 HB3 d0 d1
  obtain ⟨g1, s1, e1, c1, l1, hf1⟩ := decF b1
  have HF1 := (show Hid (DecF b1 g1 s1 e1 c1 l1) from hf1)
  clear hf1
  go_wp2_with fail
  refine (implDec_any _ b1 a0 a1 a2 a3 a4 _ (HE.out.same HK4.out) (read_isB HQ1.out HB.out) HO4.out).mono ?_
  rintro ex w5 ⟨rfl, hk⟩
  rw [HF1.out.val]
  unfold resV
  have hkA : Same w4 (w5.alloc (.cells #[.bool g1, .int .i64 0, .int .i64 s1, .int .i64 e1, .int .i64 c1, .int .i64 l1] 30)) := hk.alloc _
  have HR5 := hid (HR4.out.same hkA)
  have HB5 := hid (HB4.out.same hkA)
  have HD5 := hid (HD4.out.same hkA)
  have HK5 := hid (HK4.out.trans hkA)
  have hz4 := HB4.out.lt
  have hz5 := hk.size
  clear hk hkA HK4 HD4 HR4 HB4 HO4
  have b0' : (w5.alloc (.cells #[.bool g1, .int .i64 0, .int .i64 s1, .int .i64 e1, .int .i64 c1, .int .i64 l1] 30)).cell? ⟨w.heap.size + 1 + 1, 0, none⟩ = some (.bool true) := HB5.out.cell 0
  have b1' : (w5.alloc (.cells #[.bool g1, .int .i64 0, .int .i64 s1, .int .i64 e1, .int .i64 c1, .int .i64 l1] 30)).cell? ⟨w.heap.size + 1 + 1, 1, none⟩ = some (.int .i64 0) := HB5.out.cell 1
  have b2' : (w5.alloc (.cells #[.bool g1, .int .i64 0, .int .i64 s1, .int .i64 e1, .int .i64 c1, .int .i64 l1] 30)).cell? ⟨w.heap.size + 1 + 1, 2, none⟩ = some (.int .i64 s0) := HB5.out.cell 2
  have b3' : (w5.alloc (.cells #[.bool g1, .int .i64 0, .int .i64 s1, .int .i64 e1, .int .i64 c1, .int .i64 l1] 30)).cell? ⟨w.heap.size + 1 + 1, 3, none⟩ = some (.int .i64 e0) := HB5.out.cell 3
  have b4' : (w5.alloc (.cells #[.bool g1, .int .i64 0, .int .i64 s1, .int .i64 e1, .int .i64 c1, .int .i64 l1] 30)).cell? ⟨w.heap.size + 1 + 1, 4, none⟩ = some (.int .i64 c0) := HB5.out.cell 4
  have b5' : (w5.alloc (.cells #[.bool g1, .int .i64 0, .int .i64 s1, .int .i64 e1, .int .i64 c1, .int .i64 l1] 30)).cell? ⟨w.heap.size + 1 + 1, 5, none⟩ = some (.int .i64 l0) := HB5.out.cell 5
  have fb' := HB5.out.frozen
  have r0 : (w5.alloc (.cells #[.bool g1, .int .i64 0, .int .i64 s1, .int .i64 e1, .int .i64 c1, .int .i64 l1] 30)).cell? ⟨w.heap.size + 1, 0, none⟩ = some (.bool false) := HR5.out.cell 0
  have r1 : (w5.alloc (.cells #[.bool g1, .int .i64 0, .int .i64 s1, .int .i64 e1, .int .i64 c1, .int .i64 l1] 30)).cell? ⟨w.heap.size + 1, 1, none⟩ = some (.int .i64 0) := HR5.out.cell 1
  have r2 : (w5.alloc (.cells #[.bool g1, .int .i64 0, .int .i64 s1, .int .i64 e1, .int .i64 c1, .int .i64 l1] 30)).cell? ⟨w.heap.size + 1, 2, none⟩ = some (.int .i64 0) := HR5.out.cell 2
  have r3 : (w5.alloc (.cells #[.bool g1, .int .i64 0, .int .i64 s1, .int .i64 e1, .int .i64 c1, .int .i64 l1] 30)).cell? ⟨w.heap.size + 1, 3, none⟩ = some (.int .i64 0) := HR5.out.cell 3
  have r4 : (w5.alloc (.cells #[.bool g1, .int .i64 0, .int .i64 s1, .int .i64 e1, .int .i64 c1, .int .i64 l1] 30)).cell? ⟨w.heap.size + 1, 4, none⟩ = some (.int .i64 0) := HR5.out.cell 4
  have r5 : (w5.alloc (.cells #[.bool g1, .int .i64 0, .int .i64 s1, .int .i64 e1, .int .i64 c1, .int .i64 l1] 30)).cell? ⟨w.heap.size + 1, 5, none⟩ = some (.int .i64 0) := HR5.out.cell 5
  have fr := HR5.out.frozen
  have HO1 := HF1.out.one
  by_cases h1 : s0 < s1
  ·go_wp2_with fail
   rw [rounds_succ]
   have hks : Kept (fun b => b = w.heap.size + 1 + 1) (w5.alloc (.cells #[.bool g1, .int .i64 0, .int .i64 s1, .int .i64 e1, .int .i64 c1, .int .i64 l1] 30)) ((((((((w5.alloc (.cells #[.bool g1, .int .i64 0, .int .i64 s1, .int .i64 e1, .int .i64 c1, .int .i64 l1] 30)).setCell ⟨w.heap.size + 1 + 1, 0, none⟩ (.bool g1)).setCell ⟨w.heap.size + 1 + 1, 1, none⟩ (.int .i64 0)).setCell ⟨w.heap.size + 1 + 1, 2, none⟩ (.int .i64 s1)).setCell ⟨w.heap.size + 1 + 1, 3, none⟩ (.int .i64 e1)).setCell ⟨w.heap.size + 1 + 1, 4, none⟩ (.int .i64 c1)).setCell ⟨w.heap.size + 1 + 1, 5, none⟩ (.int .i64 l1)).setCell ⟨w.heap.size + 1 + 1, 1, none⟩ (.int .i64 1)) := by
    (iterate 7 refine Kept.setCell (R := fun b => b = w.heap.size + 1 + 1) ?_ (.inr rfl) _)
    exact Kept.refl _ _
   have HKx := (show Hid (Same w ((((((((w5.alloc (.cells #[.bool g1, .int .i64 0, .int .i64 s1, .int .i64 e1, .int .i64 c1, .int .i64 l1] 30)).setCell ⟨w.heap.size + 1 + 1, 0, none⟩ (.bool g1)).setCell ⟨w.heap.size + 1 + 1, 1, none⟩ (.int .i64 0)).setCell ⟨w.heap.size + 1 + 1, 2, none⟩ (.int .i64 s1)).setCell ⟨w.heap.size + 1 + 1, 3, none⟩ (.int .i64 e1)).setCell ⟨w.heap.size + 1 + 1, 4, none⟩ (.int .i64 c1)).setCell ⟨w.heap.size + 1 + 1, 5, none⟩ (.int .i64 l1)).setCell ⟨w.heap.size + 1 + 1, 1, none⟩ (.int .i64 1))) from HK5.out.next hks (fun b hb e => by omega))
   have HRx := (show Hid (Blk ((((((((w5.alloc (.cells #[.bool g1, .int .i64 0, .int .i64 s1, .int .i64 e1, .int .i64 c1, .int .i64 l1] 30)).setCell ⟨w.heap.size + 1 + 1, 0, none⟩ (.bool g1)).setCell ⟨w.heap.size + 1 + 1, 1, none⟩ (.int .i64 0)).setCell ⟨w.heap.size + 1 + 1, 2, none⟩ (.int .i64 s1)).setCell ⟨w.heap.size + 1 + 1, 3, none⟩ (.int .i64 e1)).setCell ⟨w.heap.size + 1 + 1, 4, none⟩ (.int .i64 c1)).setCell ⟨w.heap.size + 1 + 1, 5, none⟩ (.int .i64 l1)).setCell ⟨w.heap.size + 1 + 1, 1, none⟩ (.int .i64 1)) (w.heap.size + 1) 30 [.bool false, .int .i64 0, .int .i64 0, .int .i64 0, .int .i64 0, .int .i64 0]) from HR5.out.kept hks (by omega))
   have HBx := (show Hid (Blk ((((((((w5.alloc (.cells #[.bool g1, .int .i64 0, .int .i64 s1, .int .i64 e1, .int .i64 c1, .int .i64 l1] 30)).setCell ⟨w.heap.size + 1 + 1, 0, none⟩ (.bool g1)).setCell ⟨w.heap.size + 1 + 1, 1, none⟩ (.int .i64 0)).setCell ⟨w.heap.size + 1 + 1, 2, none⟩ (.int .i64 s1)).setCell ⟨w.heap.size + 1 + 1, 3, none⟩ (.int .i64 e1)).setCell ⟨w.heap.size + 1 + 1, 4, none⟩ (.int .i64 c1)).setCell ⟨w.heap.size + 1 + 1, 5, none⟩ (.int .i64 l1)).setCell ⟨w.heap.size + 1 + 1, 1, none⟩ (.int .i64 1)) (w.heap.size + 1 + 1) 30 [.bool g1, .int .i64 1, .int .i64 s1, .int .i64 e1, .int .i64 c1, .int .i64 l1]) from ((((((HB5.out.stored 0 _).stored 1 _).stored 2 _).stored 3 _).stored 4 _).stored 5 _).stored 1 _)
   clear hks
   clear HK5 HD5 HR5 HB5 b0' b1' b2' b3' b4' b5' fb' r0 r1 r2 r3 r4 r5 fr
   obtain ⟨wx, hwx⟩ : ∃ wx, ((((((((w5.alloc (.cells #[.bool g1, .int .i64 0, .int .i64 s1, .int .i64 e1, .int .i64 c1, .int .i64 l1] 30)).setCell ⟨w.heap.size + 1 + 1, 0, none⟩ (.bool g1)).setCell ⟨w.heap.size + 1 + 1, 1, none⟩ (.int .i64 0)).setCell ⟨w.heap.size + 1 + 1, 2, none⟩ (.int .i64 s1)).setCell ⟨w.heap.size + 1 + 1, 3, none⟩ (.int .i64 e1)).setCell ⟨w.heap.size + 1 + 1, 4, none⟩ (.int .i64 c1)).setCell ⟨w.heap.size + 1 + 1, 5, none⟩ (.int .i64 l1)).setCell ⟨w.heap.size + 1 + 1, 1, none⟩ (.int .i64 1)) = wx := ⟨_, rfl⟩
   rw [hwx] at HKx HRx HBx ⊢
   clear hwx
   have b0' : wx.cell? ⟨w.heap.size + 1 + 1, 0, none⟩ = some (.bool g1) := HBx.out.cell 0
   have b1' : wx.cell? ⟨w.heap.size + 1 + 1, 1, none⟩ = some (.int .i64 1) := HBx.out.cell 1
   have b2' : wx.cell? ⟨w.heap.size + 1 + 1, 2, none⟩ = some (.int .i64 s1) := HBx.out.cell 2
   have b3' : wx.cell? ⟨w.heap.size + 1 + 1, 3, none⟩ = some (.int .i64 e1) := HBx.out.cell 3
   have b4' : wx.cell? ⟨w.heap.size + 1 + 1, 4, none⟩ = some (.int .i64 c1) := HBx.out.cell 4
   have b5' : wx.cell? ⟨w.heap.size + 1 + 1, 5, none⟩ = some (.int .i64 l1) := HBx.out.cell 5
   have fb' := HBx.out.frozen
   have r0 := HRx.out.c0
   have r1 := HRx.out.c1
   have r2 := HRx.out.c2
   have r3 := HRx.out.c3
   have r4 := HRx.out.c4
   have r5 := HRx.out.c5
   have fr := HRx.out.frozen
   have hzx := HBx.out.lt
   go_wp2
   refine bodyPost_ret (v := resV g1 1 s1 e1 c1 l1) (by simp [results, Tryd.results10, go_sem, resV, r0, r1, r2, r3, r4, r5]) rfl ⟨⟨_, rfl, b0, b1, _, _, _, _, _, _, _, _, _, _, HQ0.out, HQ1.out, HF0.out, HF1.out, by unfold pickV; rw [if_pos (HO1.elim (fun h => by omega) (fun h => ⟨h.1, .inr h1⟩))]⟩, ?_⟩
   (iterate 6 refine Kept.setCell ?_ (.inl (Nat.le_succ _)) _)
   exact HKx.out
  ·go_wp2_with fail
   rw [rounds_succ]
   have HKx := HK5
   have HRx := HR5
   have HBx := HB5
   clear HK5 HD5 HR5 HB5 b0' b1' b2' b3' b4' b5' fb' r0 r1 r2 r3 r4 r5 fr
   obtain ⟨wx, hwx⟩ : ∃ wx, (w5.alloc (.cells #[.bool g1, .int .i64 0, .int .i64 s1, .int .i64 e1, .int .i64 c1, .int .i64 l1] 30)) = wx := ⟨_, rfl⟩
   rw [hwx] at HKx HRx HBx ⊢
   clear hwx
   have b0' : wx.cell? ⟨w.heap.size + 1 + 1, 0, none⟩ = some (.bool true) := HBx.out.cell 0
   have b1' : wx.cell? ⟨w.heap.size + 1 + 1, 1, none⟩ = some (.int .i64 0) := HBx.out.cell 1
   have b2' : wx.cell? ⟨w.heap.size + 1 + 1, 2, none⟩ = some (.int .i64 s0) := HBx.out.cell 2
   have b3' : wx.cell? ⟨w.heap.size + 1 + 1, 3, none⟩ = some (.int .i64 e0) := HBx.out.cell 3
   have b4' : wx.cell? ⟨w.heap.size + 1 + 1, 4, none⟩ = some (.int .i64 c0) := HBx.out.cell 4
   have b5' : wx.cell? ⟨w.heap.size + 1 + 1, 5, none⟩ = some (.int .i64 l0) := HBx.out.cell 5
   have fb' := HBx.out.frozen
   have r0 := HRx.out.c0
   have r1 := HRx.out.c1
   have r2 := HRx.out.c2
   have r3 := HRx.out.c3
   have r4 := HRx.out.c4
   have r5 := HRx.out.c5
   have fr := HRx.out.frozen
   have hzx := HBx.out.lt
   go_wp2
   refine bodyPost_ret (v := resV true 0 s0 e0 c0 l0) (by simp [results, Tryd.results10, go_sem, resV, r0, r1, r2, r3, r4, r5]) rfl ⟨⟨_, rfl, b0, b1, _, _, _, _, _, _, _, _, _, _, HQ0.out, HQ1.out, HF0.out, HF1.out, by unfold pickV; rw [if_neg (by simp [h1])]⟩, ?_⟩
   (iterate 6 refine Kept.setCell ?_ (.inl (Nat.le_succ _)) _)
   exact HKx.out
end Go.Proofs.YtnkollbhicmdhaaDoor
