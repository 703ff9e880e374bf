import Derived.Test.YtaiiffgbjabjgaaDoorG13
import Derived.Test.YtaiiffgbjabjgaaDoorG07
import Derived.Test.YtaiiffgbjabjgaaDoorG12
import Derived.Deep.DeepCutAuto
namespace Go.Proofs.YtaiiffgbjabjgaaDoor
set_option maxRecDepth 100000
set_option maxHeartbeats 8000000
open Go.RowKit
set_option linter.unusedVariables false
set_option linter.unusedSimpArgs false
theorem implPick_any (dv pv : Value) (dur : List Int) (ps : List PW) (a0 a1 a2 a3 a4 : Addr) (w : World) (hE : Errs5 w a0 a1 a2 a3 a4) (hd : dur.length ≤ 1099511627776) (hs : ∀ p ∈ ps, p.bs.length ≤ 1099511627776) (hb : DiskB dur ps) (hv : RdD w dv pv dur ps) :
    Calls Tryd.prog 23 #[.agg #[dv, pv]] w fun ex w' => (∃ v, ex = .returned v ∧ Picked dur (dataP ps) v) ∧ Same w w' := by
  obtain ⟨ad, cd, rfl⟩ := hv.dur.form
  obtain ⟨ap, cp, rfl⟩ := hv.pend.form
  have HE := (show Hid (Errs5 w a0 a1 a2 a3 a4) from hE)
  have HV := (show Hid (RdD w (.slice ad dur.length cd) (.slice ap ps.length cp) dur ps) from hv)
  have HB := (show Hid (DiskB dur ps) from hb)
  have HS := (show Hid (∀ p ∈ ps, p.bs.length ≤ 1099511627776) from hs)
  clear hv hb hs hE
  have HK0 := (show Hid (Same w (((w.alloc (.cells #[.slice ad dur.length cd, .slice ap ps.length cp] 45)).alloc (.cells #[.bool false, .int .i64 0, .int .i64 0, .int .i64 0, .int .i64 0, .int .i64 0] 33)).alloc (.cells #[.bool false, .int .i64 0, .int .i64 0, .int .i64 0, .int .i64 0, .int .i64 0] 33))) from (((Kept.refl _ _).alloc _).alloc _).alloc _)
  have HD0 := (show Hid (Blk (((w.alloc (.cells #[.slice ad dur.length cd, .slice ap ps.length cp] 45)).alloc (.cells #[.bool false, .int .i64 0, .int .i64 0, .int .i64 0, .int .i64 0, .int .i64 0] 33)).alloc (.cells #[.bool false, .int .i64 0, .int .i64 0, .int .i64 0, .int .i64 0, .int .i64 0] 33)) w.heap.size 45 [.slice ad dur.length cd, .slice ap ps.length cp]) from ((Blk.new w #[.slice ad dur.length cd, .slice ap ps.length cp] 45).same ((Kept.refl _ _).alloc _)).same ((Kept.refl _ _).alloc _))
  have HR0 := (show Hid (Blk (((w.alloc (.cells #[.slice ad dur.length cd, .slice ap ps.length cp] 45)).alloc (.cells #[.bool false, .int .i64 0, .int .i64 0, .int .i64 0, .int .i64 0, .int .i64 0] 33)).alloc (.cells #[.bool false, .int .i64 0, .int .i64 0, .int .i64 0, .int .i64 0, .int .i64 0] 33)) (w.heap.size + 1) 33 [.bool false, .int .i64 0, .int .i64 0, .int .i64 0, .int .i64 0, .int .i64 0]) from by have h := Blk.new (w.alloc (.cells #[.slice ad dur.length cd, .slice ap ps.length cp] 45)) #[.bool false, .int .i64 0, .int .i64 0, .int .i64 0, .int .i64 0, .int .i64 0] 33; rw [World.size_alloc] at h; exact h.same ((Kept.refl _ _).alloc _))
  have HB0 := (show Hid (Blk (((w.alloc (.cells #[.slice ad dur.length cd, .slice ap ps.length cp] 45)).alloc (.cells #[.bool false, .int .i64 0, .int .i64 0, .int .i64 0, .int .i64 0, .int .i64 0] 33)).alloc (.cells #[.bool false, .int .i64 0, .int .i64 0, .int .i64 0, .int .i64 0, .int .i64 0] 33)) (w.heap.size + 1 + 1) 33 [.bool false, .int .i64 0, .int .i64 0, .int .i64 0, .int .i64 0, .int .i64 0]) from by have h := Blk.new ((w.alloc (.cells #[.slice ad dur.length cd, .slice ap ps.length cp] 45)).alloc (.cells #[.bool false, .int .i64 0, .int .i64 0, .int .i64 0, .int .i64 0, .int .i64 0] 33)) #[.bool false, .int .i64 0, .int .i64 0, .int .i64 0, .int .i64 0, .int .i64 0] 33; rwa [World.size_alloc, World.size_alloc] at h)
  go_enter Tryd.func23, Tryd.ntmps23
  go_wp2_with fail
  refine wp_loop_rounds 3 ?_
  rw [rounds_succ]
  obtain ⟨d0, d1⟩ := HD0.out.all2
  go_wp2_with fail
  refine (implRead_any _ _ dur ps 0 _ hd HS.out (HV.out.same HK0.out)).mono ?_
  rintro ex w1 ⟨x1, n1, y1, b0, rfl, hr, ho, hf, hk⟩
  have HR1 := hid (HR0.out.same hk)
  have HB1 := hid (HB0.out.same hk)
  have HD1 := hid (HD0.out.same hk)
  have HK1 := (show Hid (Same w w1) from HK0.out.trans hk)
  have HQ0 := (show Hid (IsRead 0 dur (dataP ps) b0) from hr)
  have HO1 := (show Hid (Rd .u8 w1 (.slice x1 n1 y1) b0) from ho.rd)
  clear hr ho hf hk HK0 HD0 HR0 HB0 d0 d1
  obtain ⟨g0, s0, e0, c0, l0, hf0⟩ := decF b0
  have HF0 := (show Hid (DecF b0 g0 s0 e0 c0 l0) from hf0)
  clear hf0
  go_wp2_with fail
  refine (implDec_any _ b0 a0 a1 a2 a3 a4 _ (HE.out.same HK1.out) (read_isB HQ0.out HB.out) HO1.out).mono ?_
  rintro ex w2 ⟨rfl, hk⟩
  rw [HF0.out.val]
  unfold resV
  have hkA : Same w1 (w2.alloc (.cells #[.bool g0, .int .i64 0, .int .i64 s0, .int .i64 e0, .int .i64 c0, .int .i64 l0] 33)) := hk.alloc _
  have HR2 := hid (HR1.out.same hkA)
  have HB2 := hid (HB1.out.same hkA)
  have HD2 := hid (HD1.out.same hkA)
  have HK2 := hid (HK1.out.trans hkA)
  have hz1 := HB1.out.lt
  have hz2 := hk.size
  clear hk hkA HK1 HD1 HR1 HB1 HO1
  have hone0 := HF0.out.one
  rcases hone0 with ⟨rfl, rfl, rfl, rfl, rfl⟩ | ⟨rfl, hs0⟩
  · have b0' : (w2.alloc (.cells #[.bool false, .int .i64 0, .int .i64 0, .int .i64 0, .int .i64 0, .int .i64 0] 33)).cell? ⟨w.heap.size + 1 + 1, 0, none⟩ = some (.bool false) := HB2.out.cell 0
    have b1' : (w2.alloc (.cells #[.bool false, .int .i64 0, .int .i64 0, .int .i64 0, .int .i64 0, .int .i64 0] 33)).cell? ⟨w.heap.size + 1 + 1, 1, none⟩ = some (.int .i64 0) := HB2.out.cell 1
    have b2' : (w2.alloc (.cells #[.bool false, .int .i64 0, .int .i64 0, .int .i64 0, .int .i64 0, .int .i64 0] 33)).cell? ⟨w.heap.size + 1 + 1, 2, none⟩ = some (.int .i64 0) := HB2.out.cell 2
    have b3' : (w2.alloc (.cells #[.bool false, .int .i64 0, .int .i64 0, .int .i64 0, .int .i64 0, .int .i64 0] 33)).cell? ⟨w.heap.size + 1 + 1, 3, none⟩ = some (.int .i64 0) := HB2.out.cell 3
    have b4' : (w2.alloc (.cells #[.bool false, .int .i64 0, .int .i64 0, .int .i64 0, .int .i64 0, .int .i64 0] 33)).cell? ⟨w.heap.size + 1 + 1, 4, none⟩ = some (.int .i64 0) := HB2.out.cell 4
    have b5' : (w2.alloc (.cells #[.bool false, .int .i64 0, .int .i64 0, .int .i64 0, .int .i64 0, .int .i64 0] 33)).cell? ⟨w.heap.size + 1 + 1, 5, none⟩ = some (.int .i64 0) := HB2.out.cell 5
    have fb' := HB2.out.frozen
    go_wp2_with fail
    rw [rounds_succ]
    obtain ⟨d0, d1⟩ := HD2.out.all2
    go_wp2_with fail
    refine (implRead_any _ _ dur ps 1 _ hd HS.out (HV.out.same HK2.out)).mono ?_
    rintro ex w3 ⟨x3, n3, y3, b1, rfl, hr, ho, hf, hk⟩
    have HR3 := hid (HR2.out.same hk)
    have HB3 := hid (HB2.out.same hk)
    have HD3 := hid (HD2.out.same hk)
    have HK3 := (show Hid (Same w w3) from HK2.out.trans hk)
    have HQ1 := (show Hid (IsRead 1 dur (dataP ps) b1) from hr)
    have HO3 := (show Hid (Rd .u8 w3 (.slice x3 n3 y3) b1) from ho.rd)
    clear hr ho hf hk HK2 HD2 HR2 HB2 d0 d1
    obtain ⟨g1, s1, e1, c1, l1, hf1⟩ := decF b1
    have HF1 := (show Hid (DecF b1 g1 s1 e1 c1 l1) from hf1)
    clear hf1
    go_wp2_with fail
    refine (implDec_any _ b1 a0 a1 a2 a3 a4 _ (HE.out.same HK3.out) (read_isB HQ1.out HB.out) HO3.out).mono ?_
    rintro ex w4 ⟨rfl, hk⟩
    rw [HF1.out.val]
    unfold resV
    have hkA : Same w3 (w4.alloc (.cells #[.bool g1, .int .i64 0, .int .i64 s1, .int .i64 e1, .int .i64 c1, .int .i64 l1] 33)) := hk.alloc _
    have HR4 := hid (HR3.out.same hkA)
    have HB4 := hid (HB3.out.same hkA)
    have HD4 := hid (HD3.out.same hkA)
    have HK4 := hid (HK3.out.trans hkA)
    have hz3 := HB3.out.lt
    have hz4 := hk.size
    clear hk hkA HK3 HD3 HR3 HB3 HO3
    have b0' : (w4.alloc (.cells #[.bool g1, .int .i64 0, .int .i64 s1, .int .i64 e1, .int .i64 c1, .int .i64 l1] 33)).cell? ⟨w.heap.size + 1 + 1, 0, none⟩ = some (.bool false) := HB4.out.cell 0
    have b1' : (w4.alloc (.cells #[.bool g1, .int .i64 0, .int .i64 s1, .int .i64 e1, .int .i64 c1, .int .i64 l1] 33)).cell? ⟨w.heap.size + 1 + 1, 1, none⟩ = some (.int .i64 0) := HB4.out.cell 1
    have b2' : (w4.alloc (.cells #[.bool g1, .int .i64 0, .int .i64 s1, .int .i64 e1, .int .i64 c1, .int .i64 l1] 33)).cell? ⟨w.heap.size + 1 + 1, 2, none⟩ = some (.int .i64 0) := HB4.out.cell 2
    have b3' : (w4.alloc (.cells #[.bool g1, .int .i64 0, .int .i64 s1, .int .i64 e1, .int .i64 c1, .int .i64 l1] 33)).cell? ⟨w.heap.size + 1 + 1, 3, none⟩ = some (.int .i64 0) := HB4.out.cell 3
    have b4' : (w4.alloc (.cells #[.bool g1, .int .i64 0, .int .i64 s1, .int .i64 e1, .int .i64 c1, .int .i64 l1] 33)).cell? ⟨w.heap.size + 1 + 1, 4, none⟩ = some (.int .i64 0) := HB4.out.cell 4
    have b5' : (w4.alloc (.cells #[.bool g1, .int .i64 0, .int .i64 s1, .int .i64 e1, .int .i64 c1, .int .i64 l1] 33)).cell? ⟨w.heap.size + 1 + 1, 5, none⟩ = some (.int .i64 0) := HB4.out.cell 5
    have fb' := HB4.out.frozen
    have r0 : (w4.alloc (.cells #[.bool g1, .int .i64 0, .int .i64 s1, .int .i64 e1, .int .i64 c1, .int .i64 l1] 33)).cell? ⟨w.heap.size + 1, 0, none⟩ = some (.bool false) := HR4.out.cell 0
    have r1 : (w4.alloc (.cells #[.bool g1, .int .i64 0, .int .i64 s1, .int .i64 e1, .int .i64 c1, .int .i64 l1] 33)).cell? ⟨w.heap.size + 1, 1, none⟩ = some (.int .i64 0) := HR4.out.cell 1
    have r2 : (w4.alloc (.cells #[.bool g1, .int .i64 0, .int .i64 s1, .int .i64 e1, .int .i64 c1, .int .i64 l1] 33)).cell? ⟨w.heap.size + 1, 2, none⟩ = some (.int .i64 0) := HR4.out.cell 2
    have r3 : (w4.alloc (.cells #[.bool g1, .int .i64 0, .int .i64 s1, .int .i64 e1, .int .i64 c1, .int .i64 l1] 33)).cell? ⟨w.heap.size + 1, 3, none⟩ = some (.int .i64 0) := HR4.out.cell 3
    have r4 : (w4.alloc (.cells #[.bool g1, .int .i64 0, .int .i64 s1, .int .i64 e1, .int .i64 c1, .int .i64 l1] 33)).cell? ⟨w.heap.size + 1, 4, none⟩ = some (.int .i64 0) := HR4.out.cell 4
    have r5 : (w4.alloc (.cells #[.bool g1, .int .i64 0, .int .i64 s1, .int .i64 e1, .int .i64 c1, .int .i64 l1] 33)).cell? ⟨w.heap.size + 1, 5, none⟩ = some (.int .i64 0) := HR4.out.cell 5
    have fr := HR4.out.frozen
    have HO1 := HF1.out.one
    by_cases h1 : 0 < s1
    · go_wp2_with fail
      rw [rounds_succ]
      have hks : Kept (fun b => b = w.heap.size + 1 + 1) (w4.alloc (.cells #[.bool g1, .int .i64 0, .int .i64 s1, .int .i64 e1, .int .i64 c1, .int .i64 l1] 33)) ((((((((w4.alloc (.cells #[.bool g1, .int .i64 0, .int .i64 s1, .int .i64 e1, .int .i64 c1, .int .i64 l1] 33)).setCell ⟨w.heap.size + 1 + 1, 0, none⟩ (.bool g1)).setCell ⟨w.heap.size + 1 + 1, 1, none⟩ (.int .i64 0)).setCell ⟨w.heap.size + 1 + 1, 2, none⟩ (.int .i64 s1)).setCell ⟨w.heap.size + 1 + 1, 3, none⟩ (.int .i64 e1)).setCell ⟨w.heap.size + 1 + 1, 4, none⟩ (.int .i64 c1)).setCell ⟨w.heap.size + 1 + 1, 5, none⟩ (.int .i64 l1)).setCell ⟨w.heap.size + 1 + 1, 1, none⟩ (.int .i64 1)) := by
        (iterate 7 refine Kept.setCell (R := fun b => b = w.heap.size + 1 + 1) ?_ (.inr rfl) _)
        exact Kept.refl _ _
      have HKx := (show Hid (Same w ((((((((w4.alloc (.cells #[.bool g1, .int .i64 0, .int .i64 s1, .int .i64 e1, .int .i64 c1, .int .i64 l1] 33)).setCell ⟨w.heap.size + 1 + 1, 0, none⟩ (.bool g1)).setCell ⟨w.heap.size + 1 + 1, 1, none⟩ (.int .i64 0)).setCell ⟨w.heap.size + 1 + 1, 2, none⟩ (.int .i64 s1)).setCell ⟨w.heap.size + 1 + 1, 3, none⟩ (.int .i64 e1)).setCell ⟨w.heap.size + 1 + 1, 4, none⟩ (.int .i64 c1)).setCell ⟨w.heap.size + 1 + 1, 5, none⟩ (.int .i64 l1)).setCell ⟨w.heap.size + 1 + 1, 1, none⟩ (.int .i64 1))) from HK4.out.next hks (fun b hb e => by omega))
      have HRx := (show Hid (Blk ((((((((w4.alloc (.cells #[.bool g1, .int .i64 0, .int .i64 s1, .int .i64 e1, .int .i64 c1, .int .i64 l1] 33)).setCell ⟨w.heap.size + 1 + 1, 0, none⟩ (.bool g1)).setCell ⟨w.heap.size + 1 + 1, 1, none⟩ (.int .i64 0)).setCell ⟨w.heap.size + 1 + 1, 2, none⟩ (.int .i64 s1)).setCell ⟨w.heap.size + 1 + 1, 3, none⟩ (.int .i64 e1)).setCell ⟨w.heap.size + 1 + 1, 4, none⟩ (.int .i64 c1)).setCell ⟨w.heap.size + 1 + 1, 5, none⟩ (.int .i64 l1)).setCell ⟨w.heap.size + 1 + 1, 1, none⟩ (.int .i64 1)) (w.heap.size + 1) 33 [.bool false, .int .i64 0, .int .i64 0, .int .i64 0, .int .i64 0, .int .i64 0]) from HR4.out.kept hks (by omega))
      have HBx := (show Hid (Blk ((((((((w4.alloc (.cells #[.bool g1, .int .i64 0, .int .i64 s1, .int .i64 e1, .int .i64 c1, .int .i64 l1] 33)).setCell ⟨w.heap.size + 1 + 1, 0, none⟩ (.bool g1)).setCell ⟨w.heap.size + 1 + 1, 1, none⟩ (.int .i64 0)).setCell ⟨w.heap.size + 1 + 1, 2, none⟩ (.int .i64 s1)).setCell ⟨w.heap.size + 1 + 1, 3, none⟩ (.int .i64 e1)).setCell ⟨w.heap.size + 1 + 1, 4, none⟩ (.int .i64 c1)).setCell ⟨w.heap.size + 1 + 1, 5, none⟩ (.int .i64 l1)).setCell ⟨w.heap.size + 1 + 1, 1, none⟩ (.int .i64 1)) (w.heap.size + 1 + 1) 33 [.bool g1, .int .i64 1, .int .i64 s1, .int .i64 e1, .int .i64 c1, .int .i64 l1]) from ((((((HB4.out.stored 0 _).stored 1 _).stored 2 _).stored 3 _).stored 4 _).stored 5 _).stored 1 _)
      clear hks
      clear HK4 HD4 HR4 HB4 b0' b1' b2' b3' b4' b5' fb' r0 r1 r2 r3 r4 r5 fr
      obtain ⟨wx, hwx⟩ : ∃ wx, ((((((((w4.alloc (.cells #[.bool g1, .int .i64 0, .int .i64 s1, .int .i64 e1, .int .i64 c1, .int .i64 l1] 33)).setCell ⟨w.heap.size + 1 + 1, 0, none⟩ (.bool g1)).setCell ⟨w.heap.size + 1 + 1, 1, none⟩ (.int .i64 0)).setCell ⟨w.heap.size + 1 + 1, 2, none⟩ (.int .i64 s1)).setCell ⟨w.heap.size + 1 + 1, 3, none⟩ (.int .i64 e1)).setCell ⟨w.heap.size + 1 + 1, 4, none⟩ (.int .i64 c1)).setCell ⟨w.heap.size + 1 + 1, 5, none⟩ (.int .i64 l1)).setCell ⟨w.heap.size + 1 + 1, 1, none⟩ (.int .i64 1)) = wx := ⟨_, rfl⟩
      rw [hwx] at HKx HRx HBx ⊢
      clear hwx
      have b0' : wx.cell? ⟨w.heap.size + 1 + 1, 0, none⟩ = some (.bool g1) := HBx.out.cell 0
      have b1' : wx.cell? ⟨w.heap.size + 1 + 1, 1, none⟩ = some (.int .i64 1) := HBx.out.cell 1
      have b2' : wx.cell? ⟨w.heap.size + 1 + 1, 2, none⟩ = some (.int .i64 s1) := HBx.out.cell 2
      have b3' : wx.cell? ⟨w.heap.size + 1 + 1, 3, none⟩ = some (.int .i64 e1) := HBx.out.cell 3
      have b4' : wx.cell? ⟨w.heap.size + 1 + 1, 4, none⟩ = some (.int .i64 c1) := HBx.out.cell 4
      have b5' : wx.cell? ⟨w.heap.size + 1 + 1, 5, none⟩ = some (.int .i64 l1) := HBx.out.cell 5
      have fb' := HBx.out.frozen
      have r0 := HRx.out.c0
      have r1 := HRx.out.c1
      have r2 := HRx.out.c2
      have r3 := HRx.out.c3
      have r4 := HRx.out.c4
      have r5 := HRx.out.c5
      have fr := HRx.out.frozen
      have hzx := HBx.out.lt
      go_wp2
      refine bodyPost_ret (v := resV g1 1 s1 e1 c1 l1) (by simp [results, Tryd.results23, go_sem, resV, r0, r1, r2, r3, r4, r5]) rfl ⟨⟨_, rfl, b0, b1, _, _, _, _, _, _, _, _, _, _, HQ0.out, HQ1.out, HF0.out, HF1.out, by unfold pickV; rw [if_pos (HO1.elim (fun h => by omega) (fun h => ⟨h.1, .inl rfl⟩))]⟩, ?_⟩
      (iterate 6 refine Kept.setCell ?_ (.inl (Nat.le_succ _)) _)
      exact HKx.out
    · go_wp2_with fail
      rw [rounds_succ]
      have HKx := HK4
      have HRx := HR4
      have HBx := HB4
      clear HK4 HD4 HR4 HB4 b0' b1' b2' b3' b4' b5' fb' r0 r1 r2 r3 r4 r5 fr
      obtain ⟨wx, hwx⟩ : ∃ wx, (w4.alloc (.cells #[.bool g1, .int .i64 0, .int .i64 s1, .int .i64 e1, .int .i64 c1, .int .i64 l1] 33)) = wx := ⟨_, rfl⟩
      rw [hwx] at HKx HRx HBx ⊢
      clear hwx
      have b0' : wx.cell? ⟨w.heap.size + 1 + 1, 0, none⟩ = some (.bool false) := HBx.out.cell 0
      have b1' : wx.cell? ⟨w.heap.size + 1 + 1, 1, none⟩ = some (.int .i64 0) := HBx.out.cell 1
      have b2' : wx.cell? ⟨w.heap.size + 1 + 1, 2, none⟩ = some (.int .i64 0) := HBx.out.cell 2
      have b3' : wx.cell? ⟨w.heap.size + 1 + 1, 3, none⟩ = some (.int .i64 0) := HBx.out.cell 3
      have b4' : wx.cell? ⟨w.heap.size + 1 + 1, 4, none⟩ = some (.int .i64 0) := HBx.out.cell 4
      have b5' : wx.cell? ⟨w.heap.size + 1 + 1, 5, none⟩ = some (.int .i64 0) := HBx.out.cell 5
      have fb' := HBx.out.frozen
      have r0 := HRx.out.c0
      have r1 := HRx.out.c1
      have r2 := HRx.out.c2
      have r3 := HRx.out.c3
      have r4 := HRx.out.c4
      have r5 := HRx.out.c5
      have fr := HRx.out.frozen
      have hzx := HBx.out.lt
      go_wp2
      refine bodyPost_ret (v := resV false 0 0 0 0 0) (by simp [results, Tryd.results23, go_sem, resV, r0, r1, r2, r3, r4, r5]) rfl ⟨⟨_, rfl, b0, b1, _, _, _, _, _, _, _, _, _, _, HQ0.out, HQ1.out, HF0.out, HF1.out, by unfold pickV; rw [if_neg (HO1.elim (fun h => by simp [h.1]) (fun h => by omega))]⟩, ?_⟩
      (iterate 6 refine Kept.setCell ?_ (.inl (Nat.le_succ _)) _)
      exact HKx.out
  · have h0 : 0 < s0 := by omega
    have b0' : (w2.alloc (.cells #[.bool true, .int .i64 0, .int .i64 s0, .int .i64 e0, .int .i64 c0, .int .i64 l0] 33)).cell? ⟨w.heap.size + 1 + 1, 0, none⟩ = some (.bool false) := HB2.out.cell 0
    have b1' : (w2.alloc (.cells #[.bool true, .int .i64 0, .int .i64 s0, .int .i64 e0, .int .i64 c0, .int .i64 l0] 33)).cell? ⟨w.heap.size + 1 + 1, 1, none⟩ = some (.int .i64 0) := HB2.out.cell 1
    have b2' : (w2.alloc (.cells #[.bool true, .int .i64 0, .int .i64 s0, .int .i64 e0, .int .i64 c0, .int .i64 l0] 33)).cell? ⟨w.heap.size + 1 + 1, 2, none⟩ = some (.int .i64 0) := HB2.out.cell 2
    have b3' : (w2.alloc (.cells #[.bool true, .int .i64 0, .int .i64 s0, .int .i64 e0, .int .i64 c0, .int .i64 l0] 33)).cell? ⟨w.heap.size + 1 + 1, 3, none⟩ = some (.int .i64 0) := HB2.out.cell 3
    have b4' : (w2.alloc (.cells #[.bool true, .int .i64 0, .int .i64 s0, .int .i64 e0, .int .i64 c0, .int .i64 l0] 33)).cell? ⟨w.heap.size + 1 + 1, 4, none⟩ = some (.int .i64 0) := HB2.out.cell 4
    have b5' : (w2.alloc (.cells #[.bool true, .int .i64 0, .int .i64 s0, .int .i64 e0, .int .i64 c0, .int .i64 l0] 33)).cell? ⟨w.heap.size + 1 + 1, 5, none⟩ = some (.int .i64 0) := HB2.out.cell 5
    have fb' := HB2.out.frozen
    have hks : Kept (fun b => b = w.heap.size + 1 + 1) (w2.alloc (.cells #[.bool true, .int .i64 0, .int .i64 s0, .int .i64 e0, .int .i64 c0, .int .i64 l0] 33)) ((((((((w2.alloc (.cells #[.bool true, .int .i64 0, .int .i64 s0, .int .i64 e0, .int .i64 c0, .int .i64 l0] 33)).setCell ⟨w.heap.size + 1 + 1, 0, none⟩ (.bool true)).setCell ⟨w.heap.size + 1 + 1, 1, none⟩ (.int .i64 0)).setCell ⟨w.heap.size + 1 + 1, 2, none⟩ (.int .i64 s0)).setCell ⟨w.heap.size + 1 + 1, 3, none⟩ (.int .i64 e0)).setCell ⟨w.heap.size + 1 + 1, 4, none⟩ (.int .i64 c0)).setCell ⟨w.heap.size + 1 + 1, 5, none⟩ (.int .i64 l0)).setCell ⟨w.heap.size + 1 + 1, 1, none⟩ (.int .i64 0)) := by
      (iterate 7 refine Kept.setCell (R := fun b => b = w.heap.size + 1 + 1) ?_ (.inr rfl) _)
      exact Kept.refl _ _
    have HK3 := (show Hid (Same w ((((((((w2.alloc (.cells #[.bool true, .int .i64 0, .int .i64 s0, .int .i64 e0, .int .i64 c0, .int .i64 l0] 33)).setCell ⟨w.heap.size + 1 + 1, 0, none⟩ (.bool true)).setCell ⟨w.heap.size + 1 + 1, 1, none⟩ (.int .i64 0)).setCell ⟨w.heap.size + 1 + 1, 2, none⟩ (.int .i64 s0)).setCell ⟨w.heap.size + 1 + 1, 3, none⟩ (.int .i64 e0)).setCell ⟨w.heap.size + 1 + 1, 4, none⟩ (.int .i64 c0)).setCell ⟨w.heap.size + 1 + 1, 5, none⟩ (.int .i64 l0)).setCell ⟨w.heap.size + 1 + 1, 1, none⟩ (.int .i64 0))) from HK2.out.next hks (fun b hb e => by omega))
    have HD3 := (show Hid (Blk ((((((((w2.alloc (.cells #[.bool true, .int .i64 0, .int .i64 s0, .int .i64 e0, .int .i64 c0, .int .i64 l0] 33)).setCell ⟨w.heap.size + 1 + 1, 0, none⟩ (.bool true)).setCell ⟨w.heap.size + 1 + 1, 1, none⟩ (.int .i64 0)).setCell ⟨w.heap.size + 1 + 1, 2, none⟩ (.int .i64 s0)).setCell ⟨w.heap.size + 1 + 1, 3, none⟩ (.int .i64 e0)).setCell ⟨w.heap.size + 1 + 1, 4, none⟩ (.int .i64 c0)).setCell ⟨w.heap.size + 1 + 1, 5, none⟩ (.int .i64 l0)).setCell ⟨w.heap.size + 1 + 1, 1, none⟩ (.int .i64 0)) w.heap.size 45 [.slice ad dur.length cd, .slice ap ps.length cp]) from HD2.out.kept hks (by omega))
    have HR3 := (show Hid (Blk ((((((((w2.alloc (.cells #[.bool true, .int .i64 0, .int .i64 s0, .int .i64 e0, .int .i64 c0, .int .i64 l0] 33)).setCell ⟨w.heap.size + 1 + 1, 0, none⟩ (.bool true)).setCell ⟨w.heap.size + 1 + 1, 1, none⟩ (.int .i64 0)).setCell ⟨w.heap.size + 1 + 1, 2, none⟩ (.int .i64 s0)).setCell ⟨w.heap.size + 1 + 1, 3, none⟩ (.int .i64 e0)).setCell ⟨w.heap.size + 1 + 1, 4, none⟩ (.int .i64 c0)).setCell ⟨w.heap.size + 1 + 1, 5, none⟩ (.int .i64 l0)).setCell ⟨w.heap.size + 1 + 1, 1, none⟩ (.int .i64 0)) (w.heap.size + 1) 33 [.bool false, .int .i64 0, .int .i64 0, .int .i64 0, .int .i64 0, .int .i64 0]) from HR2.out.kept hks (by omega))
    have HB3 := (show Hid (Blk ((((((((w2.alloc (.cells #[.bool true, .int .i64 0, .int .i64 s0, .int .i64 e0, .int .i64 c0, .int .i64 l0] 33)).setCell ⟨w.heap.size + 1 + 1, 0, none⟩ (.bool true)).setCell ⟨w.heap.size + 1 + 1, 1, none⟩ (.int .i64 0)).setCell ⟨w.heap.size + 1 + 1, 2, none⟩ (.int .i64 s0)).setCell ⟨w.heap.size + 1 + 1, 3, none⟩ (.int .i64 e0)).setCell ⟨w.heap.size + 1 + 1, 4, none⟩ (.int .i64 c0)).setCell ⟨w.heap.size + 1 + 1, 5, none⟩ (.int .i64 l0)).setCell ⟨w.heap.size + 1 + 1, 1, none⟩ (.int .i64 0)) (w.heap.size + 1 + 1) 33 [.bool true, .int .i64 0, .int .i64 s0, .int .i64 e0, .int .i64 c0, .int .i64 l0]) from ((((((HB2.out.stored 0 _).stored 1 _).stored 2 _).stored 3 _).stored 4 _).stored 5 _).stored 1 _)
    clear hks HK2 HD2 HR2 HB2
    go_wp2_with fail
    rw [rounds_succ]
    obtain ⟨d0, d1⟩ := HD3.out.all2
    go_wp2_with fail
    refine (implRead_any _ _ dur ps 1 _ hd HS.out (HV.out.same HK3.out)).mono ?_
    rintro ex w4 ⟨x4, n4, y4, b1, rfl, hr, ho, hf, hk⟩
    have HR4 := hid (HR3.out.same hk)
    have HB4 := hid (HB3.out.same hk)
    have HD4 := hid (HD3.out.same hk)
    have HK4 := (show Hid (Same w w4) from HK3.out.trans hk)
    have HQ1 := (show Hid (IsRead 1 dur (dataP ps) b1) from hr)
    have HO4 := (show Hid (Rd .u8 w4 (.slice x4 n4 y4) b1) from ho.rd)
    clear hr ho hf hk HK3 HD3 HR3 HB3 d0 d1
    obtain ⟨g1, s1, e1, c1, l1, hf1⟩ := decF b1
    have HF1 := (show Hid (DecF b1 g1 s1 e1 c1 l1) from hf1)
    clear hf1
    go_wp2_with fail
    refine (implDec_any _ b1 a0 a1 a2 a3 a4 _ (HE.out.same HK4.out) (read_isB HQ1.out HB.out) HO4.out).mono ?_
    rintro ex w5 ⟨rfl, hk⟩
    rw [HF1.out.val]
    unfold resV
    have hkA : Same w4 (w5.alloc (.cells #[.bool g1, .int .i64 0, .int .i64 s1, .int .i64 e1, .int .i64 c1, .int .i64 l1] 33)) := hk.alloc _
    have HR5 := hid (HR4.out.same hkA)
    have HB5 := hid (HB4.out.same hkA)
    have HD5 := hid (HD4.out.same hkA)
    have HK5 := hid (HK4.out.trans hkA)
    have hz4 := HB4.out.lt
    have hz5 := hk.size
    clear hk hkA HK4 HD4 HR4 HB4 HO4
    have b0' : (w5.alloc (.cells #[.bool g1, .int .i64 0, .int .i64 s1, .int .i64 e1, .int .i64 c1, .int .i64 l1] 33)).cell? ⟨w.heap.size + 1 + 1, 0, none⟩ = some (.bool true) := HB5.out.cell 0
    have b1' : (w5.alloc (.cells #[.bool g1, .int .i64 0, .int .i64 s1, .int .i64 e1, .int .i64 c1, .int .i64 l1] 33)).cell? ⟨w.heap.size + 1 + 1, 1, none⟩ = some (.int .i64 0) := HB5.out.cell 1
    have b2' : (w5.alloc (.cells #[.bool g1, .int .i64 0, .int .i64 s1, .int .i64 e1, .int .i64 c1, .int .i64 l1] 33)).cell? ⟨w.heap.size + 1 + 1, 2, none⟩ = some (.int .i64 s0) := HB5.out.cell 2
    have b3' : (w5.alloc (.cells #[.bool g1, .int .i64 0, .int .i64 s1, .int .i64 e1, .int .i64 c1, .int .i64 l1] 33)).cell? ⟨w.heap.size + 1 + 1, 3, none⟩ = some (.int .i64 e0) := HB5.out.cell 3
    have b4' : (w5.alloc (.cells #[.bool g1, .int .i64 0, .int .i64 s1, .int .i64 e1, .int .i64 c1, .int .i64 l1] 33)).cell? ⟨w.heap.size + 1 + 1, 4, none⟩ = some (.int .i64 c0) := HB5.out.cell 4
    have b5' : (w5.alloc (.cells #[.bool g1, .int .i64 0, .int .i64 s1, .int .i64 e1, .int .i64 c1, .int .i64 l1] 33)).cell? ⟨w.heap.size + 1 + 1, 5, none⟩ = some (.int .i64 l0) := HB5.out.cell 5
    have fb' := HB5.out.frozen
    have r0 : (w5.alloc (.cells #[.bool g1, .int .i64 0, .int .i64 s1, .int .i64 e1, .int .i64 c1, .int .i64 l1] 33)).cell? ⟨w.heap.size + 1, 0, none⟩ = some (.bool false) := HR5.out.cell 0
    have r1 : (w5.alloc (.cells #[.bool g1, .int .i64 0, .int .i64 s1, .int .i64 e1, .int .i64 c1, .int .i64 l1] 33)).cell? ⟨w.heap.size + 1, 1, none⟩ = some (.int .i64 0) := HR5.out.cell 1
    have r2 : (w5.alloc (.cells #[.bool g1, .int .i64 0, .int .i64 s1, .int .i64 e1, .int .i64 c1, .int .i64 l1] 33)).cell? ⟨w.heap.size + 1, 2, none⟩ = some (.int .i64 0) := HR5.out.cell 2
    have r3 : (w5.alloc (.cells #[.bool g1, .int .i64 0, .int .i64 s1, .int .i64 e1, .int .i64 c1, .int .i64 l1] 33)).cell? ⟨w.heap.size + 1, 3, none⟩ = some (.int .i64 0) := HR5.out.cell 3
    have r4 : (w5.alloc (.cells #[.bool g1, .int .i64 0, .int .i64 s1, .int .i64 e1, .int .i64 c1, .int .i64 l1] 33)).cell? ⟨w.heap.size + 1, 4, none⟩ = some (.int .i64 0) := HR5.out.cell 4
    have r5 : (w5.alloc (.cells #[.bool g1, .int .i64 0, .int .i64 s1, .int .i64 e1, .int .i64 c1, .int .i64 l1] 33)).cell? ⟨w.heap.size + 1, 5, none⟩ = some (.int .i64 0) := HR5.out.cell 5
    have fr := HR5.out.frozen
    have HO1 := HF1.out.one
    by_cases h1 : s0 < s1
    · go_wp2_with fail
      rw [rounds_succ]
      have hks : Kept (fun b => b = w.heap.size + 1 + 1) (w5.alloc (.cells #[.bool g1, .int .i64 0, .int .i64 s1, .int .i64 e1, .int .i64 c1, .int .i64 l1] 33)) ((((((((w5.alloc (.cells #[.bool g1, .int .i64 0, .int .i64 s1, .int .i64 e1, .int .i64 c1, .int .i64 l1] 33)).setCell ⟨w.heap.size + 1 + 1, 0, none⟩ (.bool g1)).setCell ⟨w.heap.size + 1 + 1, 1, none⟩ (.int .i64 0)).setCell ⟨w.heap.size + 1 + 1, 2, none⟩ (.int .i64 s1)).setCell ⟨w.heap.size + 1 + 1, 3, none⟩ (.int .i64 e1)).setCell ⟨w.heap.size + 1 + 1, 4, none⟩ (.int .i64 c1)).setCell ⟨w.heap.size + 1 + 1, 5, none⟩ (.int .i64 l1)).setCell ⟨w.heap.size + 1 + 1, 1, none⟩ (.int .i64 1)) := by
        (iterate 7 refine Kept.setCell (R := fun b => b = w.heap.size + 1 + 1) ?_ (.inr rfl) _)
        exact Kept.refl _ _
      have HKx := (show Hid (Same w ((((((((w5.alloc (.cells #[.bool g1, .int .i64 0, .int .i64 s1, .int .i64 e1, .int .i64 c1, .int .i64 l1] 33)).setCell ⟨w.heap.size + 1 + 1, 0, none⟩ (.bool g1)).setCell ⟨w.heap.size + 1 + 1, 1, none⟩ (.int .i64 0)).setCell ⟨w.heap.size + 1 + 1, 2, none⟩ (.int .i64 s1)).setCell ⟨w.heap.size + 1 + 1, 3, none⟩ (.int .i64 e1)).setCell ⟨w.heap.size + 1 + 1, 4, none⟩ (.int .i64 c1)).setCell ⟨w.heap.size + 1 + 1, 5, none⟩ (.int .i64 l1)).setCell ⟨w.heap.size + 1 + 1, 1, none⟩ (.int .i64 1))) from HK5.out.next hks (fun b hb e => by omega))
      have HRx := (show Hid (Blk ((((((((w5.alloc (.cells #[.bool g1, .int .i64 0, .int .i64 s1, .int .i64 e1, .int .i64 c1, .int .i64 l1] 33)).setCell ⟨w.heap.size + 1 + 1, 0, none⟩ (.bool g1)).setCell ⟨w.heap.size + 1 + 1, 1, none⟩ (.int .i64 0)).setCell ⟨w.heap.size + 1 + 1, 2, none⟩ (.int .i64 s1)).setCell ⟨w.heap.size + 1 + 1, 3, none⟩ (.int .i64 e1)).setCell ⟨w.heap.size + 1 + 1, 4, none⟩ (.int .i64 c1)).setCell ⟨w.heap.size + 1 + 1, 5, none⟩ (.int .i64 l1)).setCell ⟨w.heap.size + 1 + 1, 1, none⟩ (.int .i64 1)) (w.heap.size + 1) 33 [.bool false, .int .i64 0, .int .i64 0, .int .i64 0, .int .i64 0, .int .i64 0]) from HR5.out.kept hks (by omega))
      have HBx := (show Hid (Blk ((((((((w5.alloc (.cells #[.bool g1, .int .i64 0, .int .i64 s1, .int .i64 e1, .int .i64 c1, .int .i64 l1] 33)).setCell ⟨w.heap.size + 1 + 1, 0, none⟩ (.bool g1)).setCell ⟨w.heap.size + 1 + 1, 1, none⟩ (.int .i64 0)).setCell ⟨w.heap.size + 1 + 1, 2, none⟩ (.int .i64 s1)).setCell ⟨w.heap.size + 1 + 1, 3, none⟩ (.int .i64 e1)).setCell ⟨w.heap.size + 1 + 1, 4, none⟩ (.int .i64 c1)).setCell ⟨w.heap.size + 1 + 1, 5, none⟩ (.int .i64 l1)).setCell ⟨w.heap.size + 1 + 1, 1, none⟩ (.int .i64 1)) (w.heap.size + 1 + 1) 33 [.bool g1, .int .i64 1, .int .i64 s1, .int .i64 e1, .int .i64 c1, .int .i64 l1]) from ((((((HB5.out.stored 0 _).stored 1 _).stored 2 _).stored 3 _).stored 4 _).stored 5 _).stored 1 _)
      clear hks
      clear HK5 HD5 HR5 HB5 b0' b1' b2' b3' b4' b5' fb' r0 r1 r2 r3 r4 r5 fr
      obtain ⟨wx, hwx⟩ : ∃ wx, ((((((((w5.alloc (.cells #[.bool g1, .int .i64 0, .int .i64 s1, .int .i64 e1, .int .i64 c1, .int .i64 l1] 33)).setCell ⟨w.heap.size + 1 + 1, 0, none⟩ (.bool g1)).setCell ⟨w.heap.size + 1 + 1, 1, none⟩ (.int .i64 0)).setCell ⟨w.heap.size + 1 + 1, 2, none⟩ (.int .i64 s1)).setCell ⟨w.heap.size + 1 + 1, 3, none⟩ (.int .i64 e1)).setCell ⟨w.heap.size + 1 + 1, 4, none⟩ (.int .i64 c1)).setCell ⟨w.heap.size + 1 + 1, 5, none⟩ (.int .i64 l1)).setCell ⟨w.heap.size + 1 + 1, 1, none⟩ (.int .i64 1)) = wx := ⟨_, rfl⟩
      rw [hwx] at HKx HRx HBx ⊢
      clear hwx
      have b0' : wx.cell? ⟨w.heap.size + 1 + 1, 0, none⟩ = some (.bool g1) := HBx.out.cell 0
      have b1' : wx.cell? ⟨w.heap.size + 1 + 1, 1, none⟩ = some (.int .i64 1) := HBx.out.cell 1
      have b2' : wx.cell? ⟨w.heap.size + 1 + 1, 2, none⟩ = some (.int .i64 s1) := HBx.out.cell 2
      have b3' : wx.cell? ⟨w.heap.size + 1 + 1, 3, none⟩ = some (.int .i64 e1) := HBx.out.cell 3
      have b4' : wx.cell? ⟨w.heap.size + 1 + 1, 4, none⟩ = some (.int .i64 c1) := HBx.out.cell 4
      have b5' : wx.cell? ⟨w.heap.size + 1 + 1, 5, none⟩ = some (.int .i64 l1) := HBx.out.cell 5
      have fb' := HBx.out.frozen
      have r0 := HRx.out.c0
      have r1 := HRx.out.c1
      have r2 := HRx.out.c2
      have r3 := HRx.out.c3
      have r4 := HRx.out.c4
      have r5 := HRx.out.c5
      have fr := HRx.out.frozen
      have hzx := HBx.out.lt
      go_wp2
      refine bodyPost_ret (v := resV g1 1 s1 e1 c1 l1) (by simp [results, Tryd.results23, go_sem, resV, r0, r1, r2, r3, r4, r5]) rfl ⟨⟨_, rfl, b0, b1, _, _, _, _, _, _, _, _, _, _, HQ0.out, HQ1.out, HF0.out, HF1.out, by unfold pickV; rw [if_pos (HO1.elim (fun h => by omega) (fun h => ⟨h.1, .inr h1⟩))]⟩, ?_⟩
      (iterate 6 refine Kept.setCell ?_ (.inl (Nat.le_succ _)) _)
      exact HKx.out
    · go_wp2_with fail
      rw [rounds_succ]
      have HKx := HK5
      have HRx := HR5
      have HBx := HB5
      clear HK5 HD5 HR5 HB5 b0' b1' b2' b3' b4' b5' fb' r0 r1 r2 r3 r4 r5 fr
      obtain ⟨wx, hwx⟩ : ∃ wx, (w5.alloc (.cells #[.bool g1, .int .i64 0, .int .i64 s1, .int .i64 e1, .int .i64 c1, .int .i64 l1] 33)) = wx := ⟨_, rfl⟩
      rw [hwx] at HKx HRx HBx ⊢
      clear hwx
      have b0' : wx.cell? ⟨w.heap.size + 1 + 1, 0, none⟩ = some (.bool true) := HBx.out.cell 0
      have b1' : wx.cell? ⟨w.heap.size + 1 + 1, 1, none⟩ = some (.int .i64 0) := HBx.out.cell 1
      have b2' : wx.cell? ⟨w.heap.size + 1 + 1, 2, none⟩ = some (.int .i64 s0) := HBx.out.cell 2
      have b3' : wx.cell? ⟨w.heap.size + 1 + 1, 3, none⟩ = some (.int .i64 e0) := HBx.out.cell 3
      have b4' : wx.cell? ⟨w.heap.size + 1 + 1, 4, none⟩ = some (.int .i64 c0) := HBx.out.cell 4
      have b5' : wx.cell? ⟨w.heap.size + 1 + 1, 5, none⟩ = some (.int .i64 l0) := HBx.out.cell 5
      have fb' := HBx.out.frozen
      have r0 := HRx.out.c0
      have r1 := HRx.out.c1
      have r2 := HRx.out.c2
      have r3 := HRx.out.c3
      have r4 := HRx.out.c4
      have r5 := HRx.out.c5
      have fr := HRx.out.frozen
      have hzx := HBx.out.lt
      go_wp2
      refine bodyPost_ret (v := resV true 0 s0 e0 c0 l0) (by simp [results, Tryd.results23, go_sem, resV, r0, r1, r2, r3, r4, r5]) rfl ⟨⟨_, rfl, b0, b1, _, _, _, _, _, _, _, _, _, _, HQ0.out, HQ1.out, HF0.out, HF1.out, by unfold pickV; rw [if_neg (by simp [h1])]⟩, ?_⟩
      (iterate 6 refine Kept.setCell ?_ (.inl (Nat.le_succ _)) _)
      exact HKx.out
end Go.Proofs.YtaiiffgbjabjgaaDoor

namespace Go.Proofs.YtaiiffgbjabjgaaDoor
open Go.RowKit
set_option linter.unusedVariables false
theorem DiskB.dat {dur : List Int} {ps qs : List PW} (h : DiskB dur ps) (hq : dataP qs = dataP ps) : DiskB dur qs := ⟨h.1, fun p hp => by
  have h1 : (p.sec, p.bs) ∈ dataP ps := by rw [← hq]; exact List.mem_map.2 ⟨p, hp, rfl⟩
  obtain ⟨p', hp', he⟩ := List.mem_map.1 h1
  have : p'.bs = p.bs := congrArg Prod.snd he
  rw [← this]
  exact h.2 p' hp'⟩
theorem specPickL (dv pv : Value) (dur : List Int) (ps : List PW) (w : World) (hb : DiskB dur ps) (hd : dur.length ≤ 1099511627776) (hl : ps.length ≤ 1073741824) (hs : ∀ p ∈ ps, p.bs.length ≤ 1099511627776) (hv : RdD w dv pv dur ps) :
    Calls Tryd.prog 21 #[.agg #[dv, pv]] w fun ex w' => (∃ v, ex = .returned v ∧ Picked dur (dataP ps) v) ∧ Same w w' := specPick_any dv pv dur ps w hd hs hb hv
end Go.Proofs.YtaiiffgbjabjgaaDoor

namespace Go.Proofs.YtaiiffgbjabjgaaDoor
set_option maxRecDepth 100000
set_option maxHeartbeats 16000000
open Go.RowKit
set_option linter.unusedVariables false
theorem pickMaster_law (dv0 pv0 : Value) (dur0 : List Int) (ps0 : List PW) (a0 a1 a2 a3 a4 : Addr) (w : World) (hE : Errs5 w a0 a1 a2 a3 a4) (hv0 : RdD w dv0 pv0 dur0 ps0) (hB0 : DiskB dur0 ps0) :
    Calls Tryd.prog 6 #[.agg #[dv0, pv0]] w fun e w' => e = .returned (.bool true) ∧ Same w w' := by
  obtain ⟨a0a, c0a, rfl⟩ := hv0.dur.form
  obtain ⟨a0b, c0b, rfl⟩ := hv0.pend.form
  have HB0 := (show Hid (∀ qs, dataP qs = dataP ps0 → DiskB dur0 qs) from fun qs hq => hB0.dat hq)
  clear hB0
  have HV0 := (show Hid (RdD w (.slice a0a dur0.length c0a) (.slice a0b ps0.length c0b) dur0 ps0) from hv0)
  clear hv0
  have HE := (show Hid (Errs5 w a0 a1 a2 a3 a4) from hE)
  clear hE
  go_enter Tryd.func6, Tryd.ntmps6
  have HKw : Hid (Same w w) := Kept.refl _ _
  go_wp2_with fail
  refine (szDisk_any _ _ dur0 ps0 _ _ (by omega) (by omega) (HV0.out.same ((Kept.refl _ _).alloc _))).mono ?_
  rintro e w1 ⟨sz0, rfl, hr, hk⟩
  have hkk : Same w w1 := ((Kept.refl _ _).alloc _).trans hk
  have hzw1 := hk.size
  rw [World.size_alloc] at hzw1
  have HA0w1 := (show Hid (Box w1 (w.heap.size) (.slice a0a dur0.length c0a) (.slice a0b ps0.length c0b)) from (Box.new _ _ _ _).same hk)
  have HKw1 := (show Hid (Same w w1) from HKw.out.trans hkk)
  clear hkk hk
  rcases hr with rfl | ⟨hr, hr0⟩
  · go_wp2
    go_ret
    exact ⟨rfl, HKw1.out⟩
  have hd0 : dur0.length ≤ 1048576 := by omega
  have hp0 : ps0.length ≤ 1048576 := by omega
  have hsz0 : sizeP ps0 ≤ 1048576 := by omega
  have HS0 : Hid (∀ p ∈ ps0, p.bs.length ≤ 1048576) := fun p hp => by have := sizeP_mem ps0 p hp; omega
  have HT0 : Hid (∀ qs : List PW, dataP qs = dataP ps0 → qs.length ≤ 1073741824 ∧ ∀ p ∈ qs, p.bs.length ≤ 1099511627776) := fun qs hq => ⟨by rw [← dataP_length, hq, dataP_length]; omega, fun p hp => by have := sizeP_mem qs p hp; rw [dataP_sizeP hq] at this; omega⟩
  clear hr
  obtain ⟨A01, A02⟩ := HA0w1.out
  have lA0 := HA0w1.out.lt
  go_wp2_with fail
  refine (toDisk_any _ _ dur0 ps0 _ (by omega) (by omega) (fun p hp => Nat.le_trans (HS0.out p hp) (by omega)) (HV0.out.same HKw1.out)).mono ?_
  rintro e w2 ⟨gC0, gC0', qsC0, rfl, hq, hf, ho, hk⟩
  have HQC0 : Hid (dataP qsC0 = dataP ps0) := hq
  have HFC0 := (show Hid (∀ b, footD (.slice (some ⟨gC0, 0, none⟩) dur0.length dur0.length) (.slice (some ⟨gC0', 0, none⟩) ps0.length ps0.length) qsC0 b → w1.heap.size ≤ b ∧ b < w2.heap.size) from fun b hb => ⟨hf b hb, (ho.lt b hb).2⟩)
  have HC0w2 := (show Hid (OwnD 0 92 5 w2 (.slice (some ⟨gC0, 0, none⟩) dur0.length dur0.length) (.slice (some ⟨gC0', 0, none⟩) ps0.length ps0.length) dur0 qsC0) from ho)
  clear hf ho hq
  have hkk : Same w1 w2 := hk
  have hzw2 := hkk.size
  have HA0w2 := hid (HA0w1.out.same hkk)
  have HKw2 := (show Hid (Same w w2) from HKw1.out.trans hkk)
  clear hkk hk
  clear A01 A02 lA0
  obtain ⟨A01, A02⟩ := HA0w2.out
  have lA0 := HA0w2.out.lt
  go_wp2_with fail
  refine (specPickL _ _ dur0 qsC0 _ (HB0.out qsC0 HQC0.out) (by omega) (HT0.out qsC0 HQC0.out).1 (HT0.out qsC0 HQC0.out).2 (HC0w2.out.rd)).mono ?_
  rintro e w3 ⟨⟨v, rfl, hp⟩, hk⟩
  rw [HQC0.out] at hp
  obtain ⟨g, sl, s, e, c, l, rfl⟩ := hp.form
  have HP0 := (show Hid (Picked dur0 (dataP ps0) (.agg #[.bool g, .int .i64 sl, .int .i64 s, .int .i64 e, .int .i64 c, .int .i64 l])) from hp)
  clear hp
  have hkk : Same w2 w3 := hk
  have hzw3 := hkk.size
  have HA0w3 := hid (HA0w2.out.same hkk)
  have HC0w3 := hid (HC0w2.out.same hkk)
  have HKw3 := (show Hid (Same w w3) from HKw2.out.trans hkk)
  clear hkk hk
  clear A01 A02 lA0
  obtain ⟨A01, A02⟩ := HA0w3.out
  have lA0 := HA0w3.out.lt
  go_wp2_with fail
  refine (toDisk_any _ _ dur0 ps0 _ (by omega) (by omega) (fun p hp => Nat.le_trans (HS0.out p hp) (by omega)) (HV0.out.same (HKw3.out.alloc _))).mono ?_
  rintro e w4 ⟨gX0, gX0', qsX0, rfl, hq, hf, ho, hk⟩
  have HQX0 : Hid (dataP qsX0 = dataP ps0) := hq
  simp only [World.size_alloc] at hf
  have HFX0 := (show Hid (∀ b, footD (.slice (some ⟨gX0, 0, none⟩) dur0.length dur0.length) (.slice (some ⟨gX0', 0, none⟩) ps0.length ps0.length) qsX0 b → w3.heap.size < b ∧ b < w4.heap.size) from fun b hb => ⟨by have := hf b hb; omega, (ho.lt b hb).2⟩)
  have HX0w4 := (show Hid (OwnD 0 92 5 w4 (.slice (some ⟨gX0, 0, none⟩) dur0.length dur0.length) (.slice (some ⟨gX0', 0, none⟩) ps0.length ps0.length) dur0 qsX0) from ho)
  clear hf ho hq
  have hkk : Same w3 w4 := ((Kept.refl _ _).alloc _).trans hk
  have hzw4 := hk.size
  rw [World.size_alloc] at hzw4
  have HA0w4 := hid (HA0w3.out.same hkk)
  have HZw4 := (show Hid (Blk w4 (w3.heap.size) 33 [.bool g, .int .i64 sl, .int .i64 s, .int .i64 e, .int .i64 c, .int .i64 l]) from (Blk.new w3 #[.bool g, .int .i64 sl, .int .i64 s, .int .i64 e, .int .i64 c, .int .i64 l] 33).same hk)
  have HKw4 := (show Hid (Same w w4) from HKw3.out.trans hkk)
  clear hkk hk
  clear A01 A02 lA0
  obtain ⟨A01, A02⟩ := HA0w4.out
  have lA0 := HA0w4.out.lt
  have cZ_0 := HZw4.out.c0
  have cZ_1 := HZw4.out.c1
  have cZ_2 := HZw4.out.c2
  have cZ_3 := HZw4.out.c3
  have cZ_4 := HZw4.out.c4
  have cZ_5 := HZw4.out.c5
  have lZ := HZw4.out.lt
  go_wp2_with fail
  refine (implPick_any _ _ dur0 qsX0 a0 a1 a2 a3 a4 _ (HE.out.same (HKw4.out.alloc _)) (by omega) (HT0.out qsX0 HQX0.out).2 (HB0.out qsX0 HQX0.out) (HX0w4.out.rd.same ((Kept.refl _ _).alloc _))).mono ?_
  rintro e w5 ⟨⟨v, rfl, hp⟩, hk⟩
  rw [HQX0.out] at hp
  obtain rfl := hp.one HP0.out
  clear hp
  have hkk : Same w4 w5 := ((Kept.refl _ _).alloc _).trans hk
  have hzw5 := hk.size
  rw [World.size_alloc] at hzw5
  have HA0w5 := hid (HA0w4.out.same hkk)
  have HZw5 := hid (HZw4.out.same hkk)
  have HX0w5 := hid (HX0w4.out.same hkk)
  have HT0w5 := (show Hid (Box w5 (w4.heap.size) (.slice (some ⟨gX0, 0, none⟩) dur0.length dur0.length) (.slice (some ⟨gX0', 0, none⟩) ps0.length ps0.length)) from (Box.new _ _ _ _).same hk)
  have HKw5 := (show Hid (Same w w5) from HKw4.out.trans hkk)
  clear hkk hk
  clear A01 A02 lA0
  clear cZ_0 cZ_1 cZ_2 cZ_3 cZ_4 cZ_5 lZ
  obtain ⟨A01, A02⟩ := HA0w5.out
  have lA0 := HA0w5.out.lt
  obtain ⟨T01, T02⟩ := HT0w5.out
  have lT0 := HT0w5.out.lt
  have cZ_0 := HZw5.out.c0
  have cZ_1 := HZw5.out.c1
  have cZ_2 := HZw5.out.c2
  have cZ_3 := HZw5.out.c3
  have cZ_4 := HZw5.out.c4
  have cZ_5 := HZw5.out.c5
  have lZ := HZw5.out.lt
  go_wp2_with fail
  refine (eqMasterResult_any g sl s e c l _).mono ?_
  rintro e w6 ⟨rfl, hk⟩
  have hkk : Same w5 w6 := ((Kept.refl _ _).alloc _).trans hk
  have hzw6 := hk.size
  rw [World.size_alloc] at hzw6
  have HA0w6 := hid (HA0w5.out.same hkk)
  have HZw6 := hid (HZw5.out.same hkk)
  have HX0w6 := hid (HX0w5.out.same hkk)
  have HT0w6 := hid (HT0w5.out.same hkk)
  have HYw6 := (show Hid (Blk w6 (w5.heap.size) 33 [.bool g, .int .i64 sl, .int .i64 s, .int .i64 e, .int .i64 c, .int .i64 l]) from (Blk.new w5 #[.bool g, .int .i64 sl, .int .i64 s, .int .i64 e, .int .i64 c, .int .i64 l] 33).same hk)
  have HKw6 := (show Hid (Same w w6) from HKw5.out.trans hkk)
  clear hkk hk
  clear A01 A02 lA0 T01 T02 lT0
  clear cZ_0 cZ_1 cZ_2 cZ_3 cZ_4 cZ_5 lZ
  obtain ⟨A01, A02⟩ := HA0w6.out
  have lA0 := HA0w6.out.lt
  obtain ⟨T01, T02⟩ := HT0w6.out
  have lT0 := HT0w6.out.lt
  have cZ_0 := HZw6.out.c0
  have cZ_1 := HZw6.out.c1
  have cZ_2 := HZw6.out.c2
  have cZ_3 := HZw6.out.c3
  have cZ_4 := HZw6.out.c4
  have cZ_5 := HZw6.out.c5
  have lZ := HZw6.out.lt
  have cY_0 := HYw6.out.c0
  have cY_1 := HYw6.out.c1
  have cY_2 := HYw6.out.c2
  have cY_3 := HYw6.out.c3
  have cY_4 := HYw6.out.c4
  have cY_5 := HYw6.out.c5
  have lY := HYw6.out.lt
  go_wp2_with fail
  go_cut [27] (fun v wc => v = .bool false ∧ Hid (Same w6 wc))
  case first =>
    have HD1 : Hid (Same w w6.drew) := HKw6.out.drew
    have HD2 : Hid (Same w6 w6.drew) := (Kept.refl _ _).drew
    go_region_with (first | (go_at_call 22; refine (toDisk_any _ _ dur0 ps0 _ (by omega) (by omega) (fun p hp => Nat.le_trans (HS0.out p hp) (by omega)) (by exact HV0.out.same HD1.out)).mono ?_; rintro e wx7 ⟨g3, g3', qs7, rfl, hq3, hf3, ho3, hk7⟩; obtain ⟨y1, y2⟩ := HT0w6.out.same (HD2.out.trans hk7); have HO7 := (show Hid (OwnD 0 92 5 wx7 (.slice (some ⟨g3, 0, none⟩) dur0.length dur0.length) (.slice (some ⟨g3', 0, none⟩) ps0.length ps0.length) dur0 qs7) from ho3); have HQ7 : Hid (dataP qs7 = dataP ps0) := hq3; have HK7 : Hid (Same w6 wx7) := HD2.out.trans hk7; clear ho3 hq3 hf3 hk7) | (go_at_call 24; refine (eqDisk_own 0 _ _ _ _ dur0 qsX0 qs7 _ (by omega) (by have h := (HT0.out qsX0 HQX0.out).1; omega) (HQX0.out.trans HQ7.out.symm) (fun p hp => Nat.le_trans ((HT0.out qsX0 HQX0.out).2 p hp) (by omega)) (HX0w6.out.same HK7.out) HO7.out).mono ?_; rintro e wx8 ⟨rfl, hk8⟩))
    all_goals
      have HK8 : Hid (Same w6 wx8) := HK7.out.trans hk8
      clear hk8
      go_wp2_with fail
      go_meet
      case rel => exact ⟨rfl, HK8⟩
  case rest =>
  obtain ⟨rfl, HKC⟩ := hcut
  obtain ⟨w7, hwc⟩ : ∃ x, x = wc := ⟨_, rfl⟩
  subst hwc
  clear A01 A02 lA0 T01 T02 lT0
  clear cZ_0 cZ_1 cZ_2 cZ_3 cZ_4 cZ_5 lZ cY_0 cY_1 cY_2 cY_3 cY_4 cY_5 lY
  have hkk : Same w6 w7 := HKC.out
  have hzw7 := hkk.size
  have HA0w7 := hid (HA0w6.out.same hkk)
  have HZw7 := hid (HZw6.out.same hkk)
  have HX0w7 := hid (HX0w6.out.same hkk)
  have HT0w7 := hid (HT0w6.out.same hkk)
  have HYw7 := hid (HYw6.out.same hkk)
  have HKw7 := (show Hid (Same w w7) from HKw6.out.trans hkk)
  clear hkk
  go_wp2
  go_ret
  exact ⟨rfl, HKw7.out⟩
end Go.Proofs.YtaiiffgbjabjgaaDoor
