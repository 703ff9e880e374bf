import Derived.Test.YtjlkphhdbopmiaaGreatG01
import Derived.Test.YtjlkphhdbopmiaaGreatG02
import Derived.Test.YtjlkphhdbopmiaaGreatG00
import Derived.Laws.AppendOwnNone
import Derived.Deep.AppendLies
import Derived.WalkKit
namespace Go.Proofs.YtjlkphhdbopmiaaGreat
set_option maxRecDepth 100000
set_option maxHeartbeats 4000000
set_option linter.unusedVariables false
set_option linter.unusedSimpArgs false
open Go.RowKit
def fitD (p f l : Int) (len : Nat) (ds : List (Int × List Int)) : Prop := geoF p f l = 0 ∧ Valid len ds ∧ ((len / 512 : Nat) : Int) = dskN p f l
theorem dskN_bad {p f l : Int} (h : ¬ geoF p f l = 0) : dskN p f l = -1 := if_neg h
theorem fits_any (p f l : Int) (dv pv : Value) (dur : List Int) (ps : List PW) (w : World) (hv : RdD w dv pv dur ps) :
  Calls Tryz.prog 16 #[.agg #[dv, pv], .agg #[.int .i64 p, .int .i64 f, .int .i64 l]] w fun e w' => Says e (fitD p f l dur.length (dataP ps)) ∧ Same w w' := by
 obtain ⟨a1, c1, rfl⟩ := hv.dur.form
 obtain ⟨a2, c2, rfl⟩ := hv.pend.form
 have hm := hv.dur.1
 have HV := hid hv
 obtain ⟨HK0, HA0, HG0⟩ := new2 w [.slice a1 dur.length c1, .slice a2 ps.length c2] 35 [.int .i64 p, .int .i64 f, .int .i64 l] 37
 obtain ⟨w0, hw0⟩ : ∃ x, (w.alloc (.cells [.slice a1 dur.length c1, .slice a2 ps.length c2].toArray 35)).alloc (.cells [.int .i64 p, .int .i64 f, .int .i64 l].toArray 37) = x := ⟨_, rfl⟩
 rw [hw0] at HK0 HA0 HG0
 have kV := fun wx (hk : Same w0 wx) => specValid_any _ _ dur ps wx (HV.out.same (HK0.out.trans hk))
 have kN := fun wx => l1Sectors_any a1 dur.length c1 a2 ps.length c2 wx hm
 have kD := fun wx => specDskN_any p f l wx
 clear hv HV
 generalize dur.length = n1 at *
 generalize ps.length = n2 at *
 obtain ⟨e0, e1⟩ := HA0.out.all2
 obtain ⟨e2, e3, e4⟩ := HG0.out.all3
 obtain ⟨B, hB⟩ : ∃ B : Bool, B = true ↔ Valid n1 (dataP ps) := by
  by_cases h : Valid n1 (dataP ps)
  ·exact ⟨true, fun _ => h, fun _ => rfl⟩
  ·exact ⟨false, Iff.intro (fun h2 => Bool.noConfusion h2) (fun h' => absurd h' h)⟩
 have kV : ∀ wx, Same w0 wx → Calls Tryz.prog 35 #[.agg #[.slice a1 n1 c1, .slice a2 n2 c2]] wx fun e w' => e = .returned (.bool B) ∧ Same wx w' := fun wx hk => (kV wx hk).mono (by
  rintro e w' ⟨⟨B', rfl, hB'⟩, hk⟩
  exact ⟨by rw [show B' = B from by cases B <;> cases B' <;> simp_all], hk⟩)
 have HW0 := hid hw0
 have kG := fun wx => specGeo_any p f l wx
 obtain ⟨q, hq⟩ : ∃ q, geoF p f l = q := ⟨_, rfl⟩
 obtain ⟨D, hD⟩ : ∃ D, dskN p f l = D := ⟨_, rfl⟩
 rw [hq] at kG
 rw [hD] at kD
 have HQ := hid hq
 have HD := hid hD
 clear hq hD hw0
 by_cases h0 : q = 0
 case neg =>
  clear hB
  go_enter Tryz.func16, Tryz.ntmps16
  go_wp2_with fail
  rw [show (w.alloc (.cells #[.slice a1 n1 c1, .slice a2 n2 c2] 35)).alloc (.cells #[.int .i64 p, .int .i64 f, .int .i64 l] 37) = w0 from HW0.out]
  have HKd : Hid (Same w0 w0.drew) := (Kept.refl _ _).drew
  let Y1 : World → Prop := fun wx : World => wx.cell? ⟨w.heap.size, 0, none⟩ = some (.slice a1 n1 c1) ∧ wx.cell? ⟨w.heap.size, 1, none⟩ = some (.slice a2 n2 c2) ∧ wx.cell? ⟨w.heap.size + 1, 0, none⟩ = some (.int .i64 p) ∧ wx.cell? ⟨w.heap.size + 1, 1, none⟩ = some (.int .i64 f) ∧ wx.cell? ⟨w.heap.size + 1, 2, none⟩ = some (.int .i64 l)
  have hS : Y1 w0.drew := ⟨e0, e1, e2, e3, e4⟩
  refine wp_region_V Y1 99 15 rfl (by kernel_rfl) ?_
  refine tk 0 5 hS ?_
  refine wpAnyV_one (i := 1) (by kernel_rfl) rfl (fun K hK => ?_)
  go_simp
  refine (kG _).mono ?_
  rintro e w1 ⟨rfl, hk⟩
  have HKw1 := hid (HKd.out.trans hk)
  clear hk
  have hS : Y1 w1 := ⟨HKw1.out.cellOf e0 id, HKw1.out.cellOf e1 id, HKw1.out.cellOf e2 id, HKw1.out.cellOf e3 id, HKw1.out.cellOf e4 id⟩
  refine hK.out _ _ (fun _ => hS) ?_
  clear hK K
  try simp only [Act.put, sA, s0, sS]
  refine tkV 2 7 (.bool false) hS ?_
  refine tk 3 8 hS ?_
  refine tkS 4 9 hS ?_
  refine tkS 5 10 hS ?_
  refine tk 6 11 hS ?_
  refine tk 7 12 hS ?_
  refine tkS 8 13 hS ?_
  refine tkS 9 14 hS ?_
  refine tkS 10 15 hS ?_
  refine tkS 11 16 hS ?_
  refine tkS 12 17 hS ?_
  refine tk 13 18 hS ?_
  refine tk 14 4 hS ?_
  refine wpAnyV_done (by kernel_rfl) ?_
  go_wp2
  go_ret
  exact ⟨says_false (fun h => h0 (HQ.out.symm.trans h.1)), HK0.out.trans HKw1.out⟩
 subst h0
 cases B with
 | false =>
  have HBV : Hid (¬ Valid n1 (dataP ps)) := fun h => Bool.noConfusion (hB.2 h)
  clear hB
  go_enter Tryz.func16, Tryz.ntmps16
  go_wp2_with fail
  rw [show (w.alloc (.cells #[.slice a1 n1 c1, .slice a2 n2 c2] 35)).alloc (.cells #[.int .i64 p, .int .i64 f, .int .i64 l] 37) = w0 from HW0.out]
  have HKd : Hid (Same w0 w0.drew) := (Kept.refl _ _).drew
  let Y2 : World → Prop := fun wx : World => wx.cell? ⟨w.heap.size, 0, none⟩ = some (.slice a1 n1 c1) ∧ wx.cell? ⟨w.heap.size, 1, none⟩ = some (.slice a2 n2 c2) ∧ wx.cell? ⟨w.heap.size + 1, 0, none⟩ = some (.int .i64 p) ∧ wx.cell? ⟨w.heap.size + 1, 1, none⟩ = some (.int .i64 f) ∧ wx.cell? ⟨w.heap.size + 1, 2, none⟩ = some (.int .i64 l)
  have hS : Y2 w0.drew := ⟨e0, e1, e2, e3, e4⟩
  refine wp_region_V Y2 99 15 rfl (by kernel_rfl) ?_
  refine tk 0 5 hS ?_
  refine wpAnyV_one (i := 1) (by kernel_rfl) rfl (fun K hK => ?_)
  go_simp
  refine (kG _).mono ?_
  rintro e w1 ⟨rfl, hk⟩
  have HKw1 := hid (HKd.out.trans hk)
  clear hk
  have hS : Y2 w1 := ⟨HKw1.out.cellOf e0 id, HKw1.out.cellOf e1 id, HKw1.out.cellOf e2 id, HKw1.out.cellOf e3 id, HKw1.out.cellOf e4 id⟩
  refine hK.out _ _ (fun _ => hS) ?_
  clear hK K
  try simp only [Act.put, sA, s0, sS]
  refine tkV 2 7 (.bool true) hS ?_
  refine tk 3 8 hS ?_
  refine tk 4 9 hS ?_
  refine wpAnyV_one (i := 5) (by kernel_rfl) rfl (fun K hK => ?_)
  go_simp
  refine (kV _ HKw1.out).mono ?_
  rintro e w2 ⟨rfl, hk⟩
  have HKw2 := hid (HKw1.out.trans hk)
  clear hk
  have hS : Y2 w2 := ⟨HKw2.out.cellOf e0 id, HKw2.out.cellOf e1 id, HKw2.out.cellOf e2 id, HKw2.out.cellOf e3 id, HKw2.out.cellOf e4 id⟩
  refine hK.out _ _ (fun _ => hS) ?_
  clear hK K
  try simp only [Act.put, sA, s0, sS]
  refine tk 6 11 hS ?_
  refine tk 7 12 hS ?_
  refine tkS 8 13 hS ?_
  refine tkS 9 14 hS ?_
  refine tkS 10 15 hS ?_
  refine tkS 11 16 hS ?_
  refine tkS 12 17 hS ?_
  refine tk 13 18 hS ?_
  refine tk 14 4 hS ?_
  refine wpAnyV_done (by kernel_rfl) ?_
  go_wp2
  go_ret
  exact ⟨says_false (fun h => HBV.out h.2.1), HK0.out.trans HKw2.out⟩
 | true =>
  have HBV : Hid (Valid n1 (dataP ps)) := hB.1 rfl
  clear hB
  go_enter Tryz.func16, Tryz.ntmps16
  go_wp2_with fail
  rw [show (w.alloc (.cells #[.slice a1 n1 c1, .slice a2 n2 c2] 35)).alloc (.cells #[.int .i64 p, .int .i64 f, .int .i64 l] 37) = w0 from HW0.out]
  have HKd : Hid (Same w0 w0.drew) := (Kept.refl _ _).drew
  let Y3 : World → Prop := fun wx : World => wx.cell? ⟨w.heap.size, 0, none⟩ = some (.slice a1 n1 c1) ∧ wx.cell? ⟨w.heap.size, 1, none⟩ = some (.slice a2 n2 c2) ∧ wx.cell? ⟨w.heap.size + 1, 0, none⟩ = some (.int .i64 p) ∧ wx.cell? ⟨w.heap.size + 1, 1, none⟩ = some (.int .i64 f) ∧ wx.cell? ⟨w.heap.size + 1, 2, none⟩ = some (.int .i64 l)
  have hS : Y3 w0.drew := ⟨e0, e1, e2, e3, e4⟩
  refine wp_region_V Y3 99 15 rfl (by kernel_rfl) ?_
  refine tk 0 5 hS ?_
  refine wpAnyV_one (i := 1) (by kernel_rfl) rfl (fun K hK => ?_)
  go_simp
  refine (kG _).mono ?_
  rintro e w1 ⟨rfl, hk⟩
  have HKw1 := hid (HKd.out.trans hk)
  clear hk
  have hS : Y3 w1 := ⟨HKw1.out.cellOf e0 id, HKw1.out.cellOf e1 id, HKw1.out.cellOf e2 id, HKw1.out.cellOf e3 id, HKw1.out.cellOf e4 id⟩
  refine hK.out _ _ (fun _ => hS) ?_
  clear hK K
  try simp only [Act.put, sA, s0, sS]
  refine tkV 2 7 (.bool true) hS ?_
  refine tk 3 8 hS ?_
  refine tk 4 9 hS ?_
  refine wpAnyV_one (i := 5) (by kernel_rfl) rfl (fun K hK => ?_)
  go_simp
  refine (kV _ HKw1.out).mono ?_
  rintro e w2 ⟨rfl, hk⟩
  have HKw2 := hid (HKw1.out.trans hk)
  clear hk
  have hS : Y3 w2 := ⟨HKw2.out.cellOf e0 id, HKw2.out.cellOf e1 id, HKw2.out.cellOf e2 id, HKw2.out.cellOf e3 id, HKw2.out.cellOf e4 id⟩
  refine hK.out _ _ (fun _ => hS) ?_
  clear hK K
  try simp only [Act.put, sA, s0, sS]
  refine tk 6 11 hS ?_
  refine tk 7 12 hS ?_
  refine tk 8 13 hS ?_
  refine tk 10 15 hS ?_
  refine wpAnyV_one (i := 9) (by kernel_rfl) rfl (fun K hK => ?_)
  go_simp
  refine (kN _).mono ?_
  rintro e w3 ⟨rfl, hww⟩
  have HKw3 := (show Hid (Same w0 w3) from HKw2.out.trans (by rw [hww]; exact (Kept.refl _ _).alloc _))
  clear hww
  have hS : Y3 w3 := ⟨HKw3.out.cellOf e0 id, HKw3.out.cellOf e1 id, HKw3.out.cellOf e2 id, HKw3.out.cellOf e3 id, HKw3.out.cellOf e4 id⟩
  refine hK.out _ _ (fun _ => hS) ?_
  clear hK K
  try simp only [Act.put, sA, s0, sS]
  refine wpAnyV_one (i := 11) (by kernel_rfl) rfl (fun K hK => ?_)
  go_simp
  refine (kD _).mono ?_
  rintro e w4 ⟨rfl, hk⟩
  have HKw4 := hid (HKw3.out.trans hk)
  clear hk
  have hS : Y3 w4 := ⟨HKw4.out.cellOf e0 id, HKw4.out.cellOf e1 id, HKw4.out.cellOf e2 id, HKw4.out.cellOf e3 id, HKw4.out.cellOf e4 id⟩
  refine hK.out _ _ (fun _ => hS) ?_
  clear hK K
  try simp only [Act.put, sA, s0, sS]
  by_cases hd : ((n1 / 512 : Nat) : Int) = D
  ·refine tkV 12 17 (.bool true) hS ?_
   refine tk 13 18 hS ?_
   refine tk 14 4 hS ?_
   refine wpAnyV_done (by kernel_rfl) ?_
   go_wp2
   go_ret
   exact ⟨says_true ⟨HQ.out, HBV.out, by rw [HD.out]; exact hd⟩, HK0.out.trans HKw4.out⟩
  ·refine tkV 12 17 (.bool false) hS ?_
   refine tk 13 18 hS ?_
   refine tk 14 4 hS ?_
   refine wpAnyV_done (by kernel_rfl) ?_
   go_wp2
   go_ret
   exact ⟨says_false (fun h => hd (by rw [← HD.out]; exact h.2.2)), HK0.out.trans HKw4.out⟩
theorem holds_any (p f l : Int) (dv pv : Value) (dur : List Int) (ps : List PW) (w : World) (hv : RdD w dv pv dur ps) :
  Calls Tryz.prog 44 #[.agg #[dv, pv], .agg #[.int .i64 p, .int .i64 f, .int .i64 l]] w fun e w' => Says e (fitD p f l dur.length (dataP ps)) ∧ Same w w' := by
 obtain ⟨a1, c1, rfl⟩ := hv.dur.form
 obtain ⟨a2, c2, rfl⟩ := hv.pend.form
 have hm := hv.dur.1
 have HV := hid hv
 obtain ⟨HK0, HA0, HG0⟩ := new2 w [.slice a1 dur.length c1, .slice a2 ps.length c2] 35 [.int .i64 p, .int .i64 f, .int .i64 l] 37
 obtain ⟨w0, hw0⟩ : ∃ x, (w.alloc (.cells [.slice a1 dur.length c1, .slice a2 ps.length c2].toArray 35)).alloc (.cells [.int .i64 p, .int .i64 f, .int .i64 l].toArray 37) = x := ⟨_, rfl⟩
 rw [hw0] at HK0 HA0 HG0
 have kV := fun wx (hk : Same w0 wx) => implValid_any _ _ dur ps wx (HV.out.same (HK0.out.trans hk))
 have kN := fun wx => countSectors_any a1 dur.length c1 a2 ps.length c2 wx hm
 have kD := fun wx => implDskN_any p f l wx
 clear hv HV
 generalize dur.length = n1 at *
 generalize ps.length = n2 at *
 obtain ⟨e0, e1⟩ := HA0.out.all2
 obtain ⟨e2, e3, e4⟩ := HG0.out.all3
 obtain ⟨B, hB⟩ : ∃ B : Bool, B = true ↔ Valid n1 (dataP ps) := by
  by_cases h : Valid n1 (dataP ps)
  ·exact ⟨true, fun _ => h, fun _ => rfl⟩
  ·exact ⟨false, Iff.intro (fun h2 => Bool.noConfusion h2) (fun h' => absurd h' h)⟩
 have kV : ∀ wx, Same w0 wx → Calls Tryz.prog 61 #[.agg #[.slice a1 n1 c1, .slice a2 n2 c2]] wx fun e w' => e = .returned (.bool B) ∧ Same wx w' := fun wx hk => (kV wx hk).mono (by
  rintro e w' ⟨⟨B', rfl, hB'⟩, hk⟩
  exact ⟨by rw [show B' = B from by cases B <;> cases B' <;> simp_all], hk⟩)
 have HW0 := hid hw0
 obtain ⟨D, hD⟩ : ∃ D, dskN p f l = D := ⟨_, rfl⟩
 rw [hD] at kD
 have hgeo : ((n1 / 512 : Nat) : Int) = D → geoF p f l = 0 := fun h => by
  by_cases hq : geoF p f l = 0
  ·exact hq
  ·rw [dskN_bad hq] at hD; omega
 have HGEO := hid hgeo
 have HD := hid hD
 clear hD hw0 hgeo
 cases B with
 | false =>
  have HBV : Hid (¬ Valid n1 (dataP ps)) := fun h => Bool.noConfusion (hB.2 h)
  clear hB
  go_enter Tryz.func44, Tryz.ntmps44
  go_wp2_with fail
  rw [show (w.alloc (.cells #[.slice a1 n1 c1, .slice a2 n2 c2] 35)).alloc (.cells #[.int .i64 p, .int .i64 f, .int .i64 l] 37) = w0 from HW0.out]
  have HKd : Hid (Same w0 w0.drew) := (Kept.refl _ _).drew
  let Y1 : World → Prop := fun wx : World => wx.cell? ⟨w.heap.size, 0, none⟩ = some (.slice a1 n1 c1) ∧ wx.cell? ⟨w.heap.size, 1, none⟩ = some (.slice a2 n2 c2) ∧ wx.cell? ⟨w.heap.size + 1, 0, none⟩ = some (.int .i64 p) ∧ wx.cell? ⟨w.heap.size + 1, 1, none⟩ = some (.int .i64 f) ∧ wx.cell? ⟨w.heap.size + 1, 2, none⟩ = some (.int .i64 l)
  have hS : Y1 w0.drew := ⟨e0, e1, e2, e3, e4⟩
  refine wp_region_V Y1 99 10 rfl (by kernel_rfl) ?_
  refine tk 0 5 hS ?_
  refine wpAnyV_one (i := 1) (by kernel_rfl) rfl (fun K hK => ?_)
  go_simp
  refine (kV _ HKd.out).mono ?_
  rintro e w1 ⟨rfl, hk⟩
  have HKw1 := hid (HKd.out.trans hk)
  clear hk
  have hS : Y1 w1 := ⟨HKw1.out.cellOf e0 id, HKw1.out.cellOf e1 id, HKw1.out.cellOf e2 id, HKw1.out.cellOf e3 id, HKw1.out.cellOf e4 id⟩
  refine hK.out _ _ (fun _ => hS) ?_
  clear hK K
  try simp only [Act.put, sA, s0, sS]
  refine tk 2 7 hS ?_
  refine tkS 3 8 hS ?_
  refine tkS 4 9 hS ?_
  refine tkS 5 10 hS ?_
  refine tkS 6 11 hS ?_
  refine tkS 7 12 hS ?_
  refine tk 8 13 hS ?_
  refine tk 9 4 hS ?_
  refine wpAnyV_done (by kernel_rfl) ?_
  go_wp2
  go_ret
  exact ⟨says_false (fun h => HBV.out h.2.1), HK0.out.trans HKw1.out⟩
 | true =>
  have HBV : Hid (Valid n1 (dataP ps)) := hB.1 rfl
  clear hB
  go_enter Tryz.func44, Tryz.ntmps44
  go_wp2_with fail
  rw [show (w.alloc (.cells #[.slice a1 n1 c1, .slice a2 n2 c2] 35)).alloc (.cells #[.int .i64 p, .int .i64 f, .int .i64 l] 37) = w0 from HW0.out]
  have HKd : Hid (Same w0 w0.drew) := (Kept.refl _ _).drew
  let Y2 : World → Prop := fun wx : World => wx.cell? ⟨w.heap.size, 0, none⟩ = some (.slice a1 n1 c1) ∧ wx.cell? ⟨w.heap.size, 1, none⟩ = some (.slice a2 n2 c2) ∧ wx.cell? ⟨w.heap.size + 1, 0, none⟩ = some (.int .i64 p) ∧ wx.cell? ⟨w.heap.size + 1, 1, none⟩ = some (.int .i64 f) ∧ wx.cell? ⟨w.heap.size + 1, 2, none⟩ = some (.int .i64 l)
  have hS : Y2 w0.drew := ⟨e0, e1, e2, e3, e4⟩
  refine wp_region_V Y2 99 10 rfl (by kernel_rfl) ?_
  refine tk 0 5 hS ?_
  refine wpAnyV_one (i := 1) (by kernel_rfl) rfl (fun K hK => ?_)
  go_simp
  refine (kV _ HKd.out).mono ?_
  rintro e w1 ⟨rfl, hk⟩
  have HKw1 := hid (HKd.out.trans hk)
  clear hk
  have hS : Y2 w1 := ⟨HKw1.out.cellOf e0 id, HKw1.out.cellOf e1 id, HKw1.out.cellOf e2 id, HKw1.out.cellOf e3 id, HKw1.out.cellOf e4 id⟩
  refine hK.out _ _ (fun _ => hS) ?_
  clear hK K
  try simp only [Act.put, sA, s0, sS]
  refine tk 2 7 hS ?_
  refine tk 3 8 hS ?_
  refine tk 5 10 hS ?_
  refine wpAnyV_one (i := 4) (by kernel_rfl) rfl (fun K hK => ?_)
  go_simp
  refine (kN _).mono ?_
  rintro e w3 ⟨rfl, hww⟩
  have HKw3 := (show Hid (Same w0 w3) from HKw1.out.trans (by rw [hww]; exact (Kept.refl _ _).alloc _))
  clear hww
  have hS : Y2 w3 := ⟨HKw3.out.cellOf e0 id, HKw3.out.cellOf e1 id, HKw3.out.cellOf e2 id, HKw3.out.cellOf e3 id, HKw3.out.cellOf e4 id⟩
  refine hK.out _ _ (fun _ => hS) ?_
  clear hK K
  try simp only [Act.put, sA, s0, sS]
  refine wpAnyV_one (i := 6) (by kernel_rfl) rfl (fun K hK => ?_)
  go_simp
  refine (kD _).mono ?_
  rintro e w4 ⟨rfl, hk⟩
  have HKw4 := hid (HKw3.out.trans hk)
  clear hk
  have hS : Y2 w4 := ⟨HKw4.out.cellOf e0 id, HKw4.out.cellOf e1 id, HKw4.out.cellOf e2 id, HKw4.out.cellOf e3 id, HKw4.out.cellOf e4 id⟩
  refine hK.out _ _ (fun _ => hS) ?_
  clear hK K
  try simp only [Act.put, sA, s0, sS]
  by_cases hd : ((n1 / 512 : Nat) : Int) = D
  ·refine tkV 7 12 (.bool true) hS ?_
   refine tk 8 13 hS ?_
   refine tk 9 4 hS ?_
   refine wpAnyV_done (by kernel_rfl) ?_
   go_wp2
   go_ret
   exact ⟨says_true ⟨HGEO.out hd, HBV.out, by rw [HD.out]; exact hd⟩, HK0.out.trans HKw4.out⟩
  ·refine tkV 7 12 (.bool false) hS ?_
   refine tk 8 13 hS ?_
   refine tk 9 4 hS ?_
   refine wpAnyV_done (by kernel_rfl) ?_
   go_wp2
   go_ret
   exact ⟨says_false (fun h => hd (by rw [← HD.out]; exact h.2.2)), HK0.out.trans HKw4.out⟩
theorem l1Copy_any (v : Value) (bs : List Int) (w : World) (hn : bs.length ≤ 1099511627776) (hv : Rd .u8 w v bs) :
  Calls Tryz.prog 21 #[v] w fun e w' => ∃ a n c, e = .returned (.slice a n c) ∧ Own 0 5 .u8 w' (.slice a n c) bs ∧ (∀ b, (Value.slice a n c).ownBlock = some b → w.heap.size ≤ b) ∧ Same w w' := by
 obtain ⟨i0, hi, hz0, hz1, hz2⟩ := info_parts Tryz.infoByte'
 rcases hv.2 with ⟨rfl, a, c, rfl, hac⟩ | ⟨b, off, c, rfl, _, hc⟩
 ·cases a with
  | none =>
   obtain rfl : c = 0 := hac rfl
   clear hv hn hac
   go_enter Tryz.func21, Tryz.ntmps21
   go_wp2_with (at_builtin; refine wpList_append_own_none rfl (.tmp 3) (.tmp 4) 22 rfl w.heap.size 5 i0 1 Tryz.underlying22 hi _ 0 [] rfl (World.ownsRow_made w #[] 0 (Nat.le_refl _) (by simp) (by simp)) rfl ?_)
   go_ret
   exact ⟨_, _, _, rfl, (World.ownsRow_made w #[] 0 (Nat.zero_le _) (by simp) (by simp)), fun b hb => by simp [Value.ownBlock] at hb; omega, (Kept.refl _ _).alloc _⟩
  | some ad =>
   clear hv hn hac
   go_enter Tryz.func21, Tryz.ntmps21
   go_wp2_with (at_builtin; refine wpList_append_own _ rfl (.tmp 3) (.tmp 4) 22 rfl w.heap.size 5 i0 (.int .u8 0) 1 1 Tryz.underlying22 hi hz0 hz1 hz2 rfl (by decide) (.slice (some ⟨w.heap.size, 0, none⟩) 0 0) 0 [] rfl (World.ownsRow_made w #[] 0 (Nat.le_refl _) (by simp) (by simp)) ad 0 c [] rfl rfl (fun j u h => by simp at h) (fun u h => by simp at h) (by simp) (by simp) (by simp) ?_; intro v' w1 hown1 hgrow1 _; have HF := (show Hid (Own w.heap.size 5 .u8 w1 v' []) from hown1); have HK : Hid (Same w w1) := ((Kept.refl _ _).alloc _).grown hgrow1 (fun k e => .inl (by simp [Value.ownBlock] at e; omega)); obtain ⟨aa, na, ca, rfl⟩ := slice_of_own HF.out; clear hown1 hgrow1)
   go_ret
   exact ⟨_, _, _, rfl, HF.out.mono (fun b _ => Nat.zero_le b), fun b hb => (HF.out.lt b hb).1, HK.out⟩
 ·have HC : Hid (∀ i, i < bs.length → (w.alloc (.cells #[] 5)).cell? ⟨b, off + i, none⟩ = some (.int .u8 (bs.getD i 0))) := fun i hi => ((Kept.refl (fun _ => False) w).alloc _).cellOf (hc i hi) id
  clear hv hc
  go_enter Tryz.func21, Tryz.ntmps21
  go_wp2_with (at_builtin; refine wpList_append_own _ rfl (.tmp 3) (.tmp 4) 22 rfl w.heap.size 5 i0 (.int .u8 0) 1 1 Tryz.underlying22 hi hz0 hz1 hz2 rfl (by decide) (.slice (some ⟨w.heap.size, 0, none⟩) 0 0) 0 [] rfl (World.ownsRow_made w #[] 0 (Nat.le_refl _) (by simp) (by simp)) ⟨b, off, none⟩ bs.length c (vals .u8 bs) rfl (by simp [vals_length]) (news_of HC.out) vals_one (by unfold maxLen; omega) (by omega) (by simp) ?_; intro v' w1 hown1 hgrow1 _; have HF := (show Hid (Own w.heap.size 5 .u8 w1 v' bs) from (by simpa [Own, Hid] using hown1)); have HK : Hid (Same w w1) := ((Kept.refl _ _).alloc _).grown hgrow1 (fun k e => .inl (by simp [Value.ownBlock] at e; omega)); obtain ⟨aa, na, ca, rfl⟩ := slice_of_own HF.out; clear hown1 hgrow1)
  go_ret
  exact ⟨_, _, _, rfl, HF.out.mono (fun b _ => Nat.zero_le b), fun b hb => (HF.out.lt b hb).1, HK.out⟩
theorem clone_any (v : Value) (bs : List Int) (w : World) (hn : bs.length ≤ 1099511627776) (hv : Rd .u8 w v bs) :
  Calls Tryz.prog 52 #[v] w fun e w' => ∃ a n c, e = .returned (.slice a n c) ∧ Own 0 5 .u8 w' (.slice a n c) bs ∧ (∀ b, (Value.slice a n c).ownBlock = some b → w.heap.size ≤ b) ∧ Same w w' := by
 obtain ⟨i0, hi, hz0, hz1, hz2⟩ := info_parts Tryz.infoByte'
 have hnil := fun (wx : World) (a : Option Addr) (n c : Nat) => Lib.run_eql_slice_nil (P := Tryz.prog) wx 22 5 a n c 0 0 Tryz.underlying22
 rcases hv.2 with ⟨rfl, a, c, rfl, hac⟩ | ⟨b, off, c, rfl, _, hc⟩
 ·cases a with
  | none =>
   obtain rfl : c = 0 := hac rfl
   clear hv hn hac
   go_enter Tryz.func52, Tryz.ntmps52
   go_wp2
   go_ret
   exact ⟨_, _, _, rfl, Own.nil _ _ _ _, fun b hb => by simp [Value.ownBlock] at hb, Kept.refl _ _⟩
  | some ad =>
   clear hv hn hac
   go_enter Tryz.func52, Tryz.ntmps52
   go_wp2_with (at_builtin; refine wpList_append_own _ rfl (.tmp 5) (.tmp 6) 22 rfl w.heap.size 5 i0 (.int .u8 0) 1 1 Tryz.underlying22 hi hz0 hz1 hz2 rfl (by decide) (.slice (some ⟨w.heap.size, 0, none⟩) 0 0) 0 [] rfl (World.ownsRow_made w #[] 0 (Nat.le_refl _) (by simp) (by simp)) ad 0 c [] rfl rfl (fun j u h => by simp at h) (fun u h => by simp at h) (by simp) (by simp) (by simp) ?_; intro v' w1 hown1 hgrow1 _; have HF := (show Hid (Own w.heap.size 5 .u8 w1 v' []) from hown1); have HK : Hid (Same w w1) := ((Kept.refl _ _).alloc _).grown hgrow1 (fun k e => .inl (by simp [Value.ownBlock] at e; omega)); obtain ⟨aa, na, ca, rfl⟩ := slice_of_own HF.out; clear hown1 hgrow1)
   go_ret
   exact ⟨_, _, _, rfl, HF.out.mono (fun b _ => Nat.zero_le b), fun b hb => (HF.out.lt b hb).1, HK.out⟩
 ·have HC : Hid (∀ i, i < bs.length → (w.alloc (.cells #[] 5)).cell? ⟨b, off + i, none⟩ = some (.int .u8 (bs.getD i 0))) := fun i hi => ((Kept.refl (fun _ => False) w).alloc _).cellOf (hc i hi) id
  clear hv hc
  go_enter Tryz.func52, Tryz.ntmps52
  go_wp2_with (at_builtin; refine wpList_append_own _ rfl (.tmp 5) (.tmp 6) 22 rfl w.heap.size 5 i0 (.int .u8 0) 1 1 Tryz.underlying22 hi hz0 hz1 hz2 rfl (by decide) (.slice (some ⟨w.heap.size, 0, none⟩) 0 0) 0 [] rfl (World.ownsRow_made w #[] 0 (Nat.le_refl _) (by simp) (by simp)) ⟨b, off, none⟩ bs.length c (vals .u8 bs) rfl (by simp [vals_length]) (news_of HC.out) vals_one (by unfold maxLen; omega) (by omega) (by simp) ?_; intro v' w1 hown1 hgrow1 _; have HF := (show Hid (Own w.heap.size 5 .u8 w1 v' bs) from (by simpa [Own, Hid] using hown1)); have HK : Hid (Same w w1) := ((Kept.refl _ _).alloc _).grown hgrow1 (fun k e => .inl (by simp [Value.ownBlock] at e; omega)); obtain ⟨aa, na, ca, rfl⟩ := slice_of_own HF.out; clear hown1 hgrow1)
  go_ret
  exact ⟨_, _, _, rfl, HF.out.mono (fun b _ => Nat.zero_le b), fun b hb => (HF.out.lt b hb).1, HK.out⟩
theorem Rd.cut {w : World} {b off c : Nat} {raw : List Int} (h : Rd .u8 w (.slice (some ⟨b, off, none⟩) raw.length c) raw) (x y : Nat) (hxy : x + y ≤ raw.length) :
  Rd .u8 w (.slice (some (if c = x then ⟨b, off, none⟩ else ⟨b, off + x, none⟩)) y (c - x)) ((raw.drop x).take y) := by
 have hl : ((raw.drop x).take y).length = y := by simp; omega
 rcases h.2 with ⟨rfl, _⟩ | ⟨b', off', c', he, hle, hc⟩
 ·simp at hxy
  obtain ⟨rfl, rfl⟩ := hxy
  exact ⟨by simp, .inl ⟨by simp, _, _, rfl, fun h => by cases h⟩⟩
 ·injection he with h1 h2 h3
  injection h1 with h1
  injection h1 with h1 h4
  subst h1 h4 h3
  by_cases h0 : y = 0
  ·subst h0
   exact ⟨by rw [hl]; simp, .inl ⟨by simp, _, _, rfl, fun h => by cases h⟩⟩
  ·rw [if_neg (by omega)]
   refine ⟨by have := h.1; omega, .inr ⟨b, off + x, c - x, by rw [hl], by omega, fun i hi => ?_⟩⟩
   rw [hl] at hi
   rw [Nat.add_assoc, hc (x + i) (by omega)]
   simp [List.getD, List.getElem?_take, List.getElem?_drop, hi]
theorem Rd.part {k : IntKind} {w : World} {b off n c : Nat} {bs : List Int} (h : ∀ i, i < bs.length → w.cell? ⟨b, off + i, none⟩ = some (.int k (bs.getD i 0))) (lo m : Nat) (hm : lo + m ≤ bs.length) (hn : n = m) (hc : m ≤ c) (hmax : m ≤ maxLen) :
  Rd k w (.slice (some ⟨b, off + lo, none⟩) n c) ((bs.drop lo).take m) := by
 have hl : ((bs.drop lo).take m).length = m := by simp; omega
 refine ⟨by omega, .inr ⟨b, off + lo, c, by rw [hn, hl], by rw [hl]; exact hc, fun i hi => ?_⟩⟩
 rw [hl] at hi
 have h1 := h (lo + i) (by omega)
 rw [← Nat.add_assoc] at h1
 rw [h1]
 simp [List.getD, hi]
def lastP (s : Int) : List (Int × List Int) → Option (List Int)
 | [] => none
 | p :: ps => match lastP s ps with
  | some bs => some bs
  | none => if p.1 = s then some p.2 else none
theorem lastP_none (s : Int) (ds : List (Int × List Int)) (h : ∀ p ∈ ds, p.1 ≠ s) : lastP s ds = none := by
 induction ds with
 | nil => rfl
 | cons p ds ih => simp [lastP, ih (fun q hq => h q (List.mem_cons_of_mem _ hq)), h p (List.mem_cons_self ..)]
theorem lastP_append_none (s : Int) (ds es : List (Int × List Int)) (h : ∀ p ∈ es, p.1 ≠ s) : lastP s (ds ++ es) = lastP s ds := by
 induction ds with
 | nil => simpa [lastP] using lastP_none s es h
 | cons p ds ih => simp [lastP, ih]
theorem lastP_snoc (s : Int) (ds : List (Int × List Int)) (bs : List Int) : lastP s (ds ++ [(s, bs)]) = some bs := by
 induction ds with
 | nil => simp [lastP]
 | cons p ds ih => simp [lastP, ih]
def seeD (s : Int) (dur : List Int) (ds : List (Int × List Int)) : List Int := (lastP s ds).getD ((dur.drop (s.toNat * 512)).take 512)
theorem seeD_at {s : Int} {dur : List Int} {ps : List PW} {k : Nat} (hk : k < ps.length) (hs : ps[k].sec = s) (h : ∀ j (hj : j < ps.length), k < j → ps[j].sec ≠ s) : seeD s dur (dataP ps) = ps[k].bs := by
 have e : dataP ps = (dataP (ps.take k) ++ [(s, ps[k].bs)]) ++ dataP (ps.drop (k + 1)) := by
  have e1 : ps = ps.take k ++ (ps[k] :: ps.drop (k + 1)) := by rw [← List.drop_eq_getElem_cons hk, List.take_append_drop]
  have e2 : dataP ps = dataP (ps.take k ++ (ps[k] :: ps.drop (k + 1))) := congrArg dataP e1
  have e3 : dataP (ps.take k ++ (ps[k] :: ps.drop (k + 1))) = dataP (ps.take k) ++ ((ps[k].sec, ps[k].bs) :: dataP (ps.drop (k + 1))) := by
   unfold dataP
   rw [List.map_append, List.map_cons]
  rw [e2, e3, hs, List.append_assoc]
  rfl
 unfold seeD
 rw [e, lastP_append_none, lastP_snoc]
 ·rfl
 ·intro p hp
  obtain ⟨q, hq, rfl⟩ := List.mem_map.1 hp
  obtain ⟨j, hj, rfl⟩ := List.getElem_of_mem hq
  simp only [List.length_drop] at hj
  rw [List.getElem_drop]
  exact h _ (by omega) (by omega)
theorem seeD_none {s : Int} {dur : List Int} {ps : List PW} (h : ∀ j (hj : j < ps.length), ps[j].sec ≠ s) : seeD s dur (dataP ps) = (dur.drop (s.toNat * 512)).take 512 := by
 unfold seeD
 rw [lastP_none]
 ·rfl
 ·intro p hp
  obtain ⟨q, hq, rfl⟩ := List.mem_map.1 hp
  obtain ⟨j, hj, rfl⟩ := List.getElem_of_mem hq
  exact h j hj
theorem l1See_any (dv pv : Value) (dur : List Int) (ps : List PW) (s : Int) (w : World) (h0 : 0 ≤ s) (h1 : s ≤ 1048576) (h2 : (s.toNat + 1) * 512 ≤ dur.length) (hd : dur.length ≤ 1099511627776) (hs : ∀ p ∈ ps, p.bs.length ≤ 1099511627776) (hv : RdD w dv pv dur ps) :
  Calls Tryz.prog 38 #[.agg #[dv, pv], .int .i64 s] w fun e w' => ∃ a n c, e = .returned (.slice a n c) ∧ Own 0 5 .u8 w' (.slice a n c) (seeD s dur (dataP ps)) ∧ (∀ b, (Value.slice a n c).ownBlock = some b → w.heap.size ≤ b) ∧ Same w w' := by
 have hn2 := hv.pend.len
 unfold maxLen at hn2
 obtain ⟨sn, rfl⟩ : ∃ sn : Nat, s = sn := ⟨s.toNat, by omega⟩
 simp only [Int.toNat_natCast] at h2
 obtain ⟨b0, o0, c0, rfl, hl0, hc0⟩ : ∃ b off c, dv = .slice (some ⟨b, off, none⟩) dur.length c ∧ dur.length ≤ c ∧ ∀ i, i < dur.length → w.cell? ⟨b, off + i, none⟩ = some (.int .u8 (dur.getD i 0)) := by
  rcases hv.dur.2 with ⟨rfl, _⟩ | h
  ·simp at h2
  ·exact h
 have e1 : ((sn : Int) * 512).toNat = sn * 512 := by omega
 have e2 : (((sn : Int) + 1) * 512).toNat = sn * 512 + 512 := by omega
 have g1 : ((sn : Int) + 1) * 512 ≤ (c0 : Int) := by omega
 have g2 : 0 ≤ ((sn : Int) + 1) * 512 := by omega
 have g3 : (sn : Int) * 512 ≤ ((sn : Int) + 1) * 512 := by omega
 have HC0 : Hid (∀ i, i < dur.length → w.cell? ⟨b0, o0 + i, none⟩ = some (.int .u8 (dur.getD i 0))) := hc0
 have HD : Hid (∀ wx, Same w wx → ∀ c, 512 ≤ c → Rd .u8 wx (.slice (some ⟨b0, o0 + sn * 512, none⟩) 512 c) ((dur.drop (sn * 512)).take 512)) := fun wx hk c h512 =>
  Rd.part (fun i hi => hk.cellOf (hc0 i hi) id) (sn * 512) 512 (by omega) rfl h512 (by simp [maxLen])
 clear hc0
 rcases hv.pend.row with ⟨rfl, a2, c2, rfl⟩ | ⟨b, off, c2, rfl, hc⟩
 ·clear hv hn2 hs
  go_enter Tryz.func38, Tryz.ntmps38
  go_wp2
  refine wp_loop_rounds 1 ?_
  rw [rounds_succ]
  go_wp2_with fail
  refine (l1Copy_any _ _ _ (by simp; omega) (HD.out _ ((Kept.refl _ _).alloc _) (c0 - sn * 512) (by omega))).mono ?_
  rintro e w1 ⟨a, n, c, rfl, ho, hf, hk⟩
  have HO := (show Hid (Own 0 5 .u8 w1 (.slice a n c) ((dur.drop (sn * 512)).take 512)) from ho)
  have HF : Hid (∀ b, (Value.slice a n c).ownBlock = some b → w.heap.size ≤ b) := fun b hb => by have := hf b hb; simp at this; omega
  have HK : Hid (Same w w1) := ((Kept.refl _ _).alloc _).trans hk
  clear ho hf hk
  go_wp2
  go_ret
  exact ⟨a, n, c, rfl, HO.out, HF.out, HK.out⟩
 ·have HP : Hid (RdP w (.slice (some ⟨b, off, none⟩) ps.length c2) ps) := hv.pend
  have HC : Hid (∀ i (h : i < ps.length), w.cell? ⟨b, off + i * 2, none⟩ = some (.int .i64 ps[i].sec) ∧ w.cell? ⟨b, off + i * 2 + 1, none⟩ = some ps[i].v) := hc
  have HS : Hid (∀ p ∈ ps, p.bs.length ≤ 1099511627776) := hs
  clear hv hc hs
  generalize hl : ps.length = len at hn2 HP ⊢
  have HL : Hid (ps.length = len) := hl
  clear hl
  by_cases hz : len = 0
  ·subst hz
   have HN : Hid (seeD sn dur (dataP ps) = (dur.drop (sn * 512)).take 512) := by
    have h := seeD_none (s := sn) (dur := dur) (ps := ps) (fun j hj => by have := HL.out; omega)
    simpa [Hid] using h
   go_enter Tryz.func38, Tryz.ntmps38
   go_wp2
   refine wp_loop_rounds 1 ?_
   rw [rounds_succ]
   go_wp2_with fail
   refine (l1Copy_any _ _ _ (by simp; omega) (HD.out _ ((Kept.refl _ _).alloc _) (c0 - sn * 512) (by omega))).mono ?_
   rintro e w1 ⟨a, n, c, rfl, ho, hf, hk⟩
   rw [← HN.out] at ho
   have HO := (show Hid (Own 0 5 .u8 w1 (.slice a n c) (seeD sn dur (dataP ps))) from ho)
   have HF : Hid (∀ b, (Value.slice a n c).ownBlock = some b → w.heap.size ≤ b) := fun b hb => by have := hf b hb; simp at this; omega
   have HK : Hid (Same w w1) := ((Kept.refl _ _).alloc _).trans hk
   clear ho hf hk HN
   go_wp2
   go_ret
   exact ⟨a, n, c, rfl, HO.out, HF.out, HK.out⟩
  ·go_enter Tryz.func38, Tryz.ntmps38
   go_wp2
   go_loop [5] (fun i => (∃ k : Nat, k < len ∧ i = .int .i64 k ∧ Hid (∀ j (hj : j < ps.length), k < j → ps[j].sec ≠ sn)) ∨ (i = .int .i64 (-1) ∧ Hid (∀ j (hj : j < ps.length), ps[j].sec ≠ sn))) (fun i => (intOf i + 1).toNat)
   case atStart => exact .inl ⟨len - 1, by omega, by congr 1; omega, fun j hj h => by have := HL.out; omega⟩
   case round =>
    rcases hrel with ⟨k, hlt, rfl, HV⟩ | ⟨rfl, HV⟩
    ·have hlp : k < ps.length := by rw [HL.out]; exact hlt
     obtain ⟨a1, c1, ev1⟩ := (HP.out.data _ (List.getElem_mem hlp)).form
     have hrd := (HP.out.data _ (List.getElem_mem hlp)).same (w' := w.alloc (.cells #[.slice (some ⟨b0, o0, none⟩) dur.length c0, .slice (some ⟨b, off, none⟩) len c2] 35)) ((Kept.refl _ _).alloc _)
     have hm1 := HS.out _ (List.getElem_mem hlp)
     have hbw : b < w.heap.size := World.block_lt_of_cell? w ⟨b, off + k * 2, none⟩ (HC.out k hlp).1
     have q1 := (HC.out k hlp).1
     have q2 := (HC.out k hlp).2
     rw [ev1] at q2 hrd
     have HRD := (show Hid (Rd .u8 (w.alloc (.cells #[.slice (some ⟨b0, o0, none⟩) dur.length c0, .slice (some ⟨b, off, none⟩) len c2] 35)) (.slice a1 ps[k].bs.length c1) ps[k].bs) from hrd)
     clear ev1 hrd
     by_cases hs : ps[k].sec = sn
     ·have HE : Hid (seeD sn dur (dataP ps) = ps[k].bs) := seeD_at hlp hs HV.out
      rw [hs] at q1
      clear hs
      go_wp2_with fail
      refine (l1Copy_any _ ps[k].bs _ hm1 HRD.out).mono ?_
      rintro e w1 ⟨a, n, c, rfl, ho, hf, hk⟩
      rw [← HE.out] at ho
      have HO := (show Hid (Own 0 5 .u8 w1 (.slice a n c) (seeD sn dur (dataP ps))) from ho)
      have HF : Hid (∀ b, (Value.slice a n c).ownBlock = some b → w.heap.size ≤ b) := fun b hb => by have := hf b hb; simp at this; omega
      have HK : Hid (Same w w1) := ((Kept.refl _ _).alloc _).trans hk
      clear ho hf hk HE
      go_wp2
      go_ret
      exact ⟨a, n, c, rfl, HO.out, HF.out, HK.out⟩
     ·have hs' : (ps[k].sec == (sn : Int)) = false := by simpa using hs
      have HSS : Hid (ps[k].sec ≠ sn) := hs
      generalize ps[k].sec = sec at q1 hs'
      clear hs HRD hm1
      go_wp2
      go_round
      case rel =>
       by_cases hk0 : k = 0
       ·refine .inr ⟨by congr 1; omega, fun j hj => ?_⟩
        by_cases e : j = k
        ·subst e; exact HSS.out
        ·exact HV.out j hj (by omega)
       ·refine .inl ⟨k - 1, by omega, by congr 1; omega, fun j hj h => ?_⟩
        by_cases e : j = k
        ·subst e; exact HSS.out
        ·exact HV.out j hj (by omega)
      case measure => simp [intOf]
    ·have HN : Hid (seeD sn dur (dataP ps) = (dur.drop (sn * 512)).take 512) := by
      have h := seeD_none (s := sn) (dur := dur) (ps := ps) HV.out
      simpa [Hid] using h
     go_wp2_with fail
     refine (l1Copy_any _ _ _ (by simp; omega) (HD.out _ ((Kept.refl _ _).alloc _) (c0 - sn * 512) (by omega))).mono ?_
     rintro e w1 ⟨a, n, c, rfl, ho, hf, hk⟩
     rw [← HN.out] at ho
     have HO := (show Hid (Own 0 5 .u8 w1 (.slice a n c) (seeD sn dur (dataP ps))) from ho)
     have HF : Hid (∀ b, (Value.slice a n c).ownBlock = some b → w.heap.size ≤ b) := fun b hb => by have := hf b hb; simp at this; omega
     have HK : Hid (Same w w1) := ((Kept.refl _ _).alloc _).trans hk
     clear ho hf hk HN
     go_wp2
     go_ret
     exact ⟨a, n, c, rfl, HO.out, HF.out, HK.out⟩
def IsRead (s : Int) (dur : List Int) (ds : List (Int × List Int)) (bs : List Int) : Prop :=
 (Valid dur.length ds ∧ 0 ≤ s ∧ s < (dur.length / 512 : Nat) ∧ bs = seeD s dur ds) ∨ (¬ (Valid dur.length ds ∧ 0 ≤ s ∧ s < (dur.length / 512 : Nat)) ∧ bs = [])
theorem IsRead.one {s : Int} {dur : List Int} {ds : List (Int × List Int)} {bs cs : List Int} (h : IsRead s dur ds bs) (k : IsRead s dur ds cs) : bs = cs := by
 rcases h with ⟨h1, h2, h3, rfl⟩ | ⟨h, rfl⟩ <;> rcases k with ⟨k1, k2, k3, rfl⟩ | ⟨k, rfl⟩
 ·rfl
 ·exact absurd ⟨h1, h2, h3⟩ k
 ·exact absurd ⟨k1, k2, k3⟩ h
 ·rfl
theorem lastP_mem (s : Int) (ds : List (Int × List Int)) (bs : List Int) (h : lastP s ds = some bs) : ∃ p ∈ ds, p.2 = bs := by
 induction ds with
 | nil => simp [lastP] at h
 | cons p ds ih =>
  unfold lastP at h
  split at h
  ·next cs hc =>
   obtain ⟨q, hq, e⟩ := ih (by rw [hc, ← h])
   exact ⟨q, List.mem_cons_of_mem _ hq, e⟩
  ·split at h
   ·simp at h
    exact ⟨p, List.mem_cons_self .., h⟩
   ·simp at h
theorem IsRead.len {s : Int} {dur : List Int} {ds : List (Int × List Int)} {bs : List Int} (h : IsRead s dur ds bs) : bs.length ≤ 512 := by
 rcases h with ⟨hv, _, _, rfl⟩ | ⟨_, rfl⟩
 ·unfold seeD
  cases hl : lastP s ds with
  | none => simp; omega
  | some cs =>
   obtain ⟨p, hp, rfl⟩ := lastP_mem s ds cs hl
   have := (hv.2 p hp).2.2
   simp [this]
 ·simp
structure Grew (w : World) (v : Value) (w' : World) (v' : Value) : Prop where
 kept : Kept (fun b => v.ownBlock = some b) w w'
 own : ∀ b, v'.ownBlock = some b → v.ownBlock = some b ∨ w.heap.size ≤ b
theorem Grew.trans {w w1 w2 : World} {v v1 v2 : Value} (h : Grew w v w1 v1) (k : Grew w1 v1 w2 v2) : Grew w v w2 v2 := by
 refine ⟨h.kept.next k.kept (fun i hi e => (h.own i e).resolve_right (by omega)), fun b hb => ?_⟩
 rcases k.own b hb with h1 | h1
 ·exact h.own b h1
 ·have := h.kept.size
  exact .inr (by omega)
theorem Grew.of_same {w w' : World} {v : Value} (h : Same w w') : Grew w v w' v := ⟨h.mono (fun _ _ e => absurd e id), fun b hb => .inl hb⟩
theorem Grew.refl (w : World) (v : Value) : Grew w v w v := Grew.of_same (Kept.refl _ _)
theorem Grew.size {w w' : World} {v v' : Value} (h : Grew w v w' v') : w.heap.size ≤ w'.heap.size := h.kept.size
theorem Grew.same {w0 w w' : World} {v v' : Value} (h : Grew w v w' v') (h0 : Same w0 w) (hv : ∀ b, v.ownBlock = some b → w0.heap.size ≤ b) : Same w0 w' :=
 h0.next h.kept (fun i hi e => by have := hv i e; omega)
theorem run_app {ty : TypeId} {w : World} {v x : Value} {bs ys : List Int} (ho : Own 0 5 .u8 w v bs) (hx : Rd .u8 w x ys) (hl : bs.length + ys.length ≤ 1099511627776) :
  ∃ a n c w', (Builtin.append_ #[22, 22] ty #[v, x]).run Tryz.prog w = .ok (.slice a n c) w' ∧ Own 0 5 .u8 w' (.slice a n c) (bs ++ ys) ∧ Grew w v w' (.slice a n c) := by
 obtain ⟨i0, hi, hz0, hz1, hz2⟩ := info_parts Tryz.infoByte'
 have some_case : ∀ (ad : Addr) (c : Nat), (∀ j u, (vals .u8 ys)[j]? = some u → w.cell? (ad.add j) = some u) → ∃ a n c' w', (Builtin.append_ #[22, 22] ty #[v, .slice (some ad) ys.length c]).run Tryz.prog w = .ok (.slice a n c') w' ∧ Own 0 5 .u8 w' (.slice a n c') (bs ++ ys) ∧ Grew w v w' (.slice a n c') := fun ad c hn => by
  obtain ⟨v', w', hr, h2, h3, _, h5⟩ := run_append_own_at (P := Tryz.prog) w 0 22 ty 5 i0 (.int .u8 0) 1 1 Tryz.underlying22 hi hz0 hz1 hz2 rfl (by decide) v bs.length (vals .u8 bs) ho ad ys.length c (vals .u8 ys) (by simp [vals_length]) hn vals_one (by unfold maxLen; omega) (by omega) (Nat.zero_le _)
  have h2' : Own 0 5 .u8 w' v' (bs ++ ys) := by unfold Own; simpa [vals] using h2
  obtain ⟨a, n, c', rfl⟩ := slice_of_own h2'
  refine ⟨a, n, c', w', hr, h2', Kept.of_grown h3 (fun k e => e), fun b hb => ?_⟩
  rcases h5 with h5 | h5
  ·exact .inl (by rw [← h5]; exact hb)
  ·rw [h5] at hb
   exact .inr (by have := Option.some.inj hb; omega)
 rcases hx.2 with ⟨rfl, a, c, rfl, hac⟩ | ⟨b, off, c, rfl, _, hc⟩
 ·cases a with
  | none =>
   obtain rfl : c = 0 := hac rfl
   have hr := run_append_owned_none (P := Tryz.prog) (w := w) 0 22 ty 5 i0 1 Tryz.underlying22 hi v bs.length (vals .u8 bs) ho
   obtain ⟨a, n, c', rfl⟩ := slice_of_own ho
   exact ⟨a, n, c', w, hr, by rw [List.append_nil]; exact ho, Grew.refl _ _⟩
  | some ad => exact some_case ad c (fun j u h => by simp [vals] at h)
 ·exact some_case ⟨b, off, none⟩ c (news_of hc)
theorem wp_app {w : World} {o : Oper} {a : Act} {K : Act → World → Prop} {Q : Exit → Act → World → Prop} (s x : Operand)
  (ho : o.op = .call { callee := .builtin .append, args := #[s, x], argTypes := #[22, 22] })
  (v xv : Value) (bs ys : List Int) (hs : a.eval s = v) (hx : a.eval x = xv) (hown : Own 0 5 .u8 w v bs) (hrd : Rd .u8 w xv ys) (hl : bs.length + ys.length ≤ 1099511627776)
  (h : ∀ a' n' c' w', Own 0 5 .u8 w' (.slice a' n' c') (bs ++ ys) → Grew w v w' (.slice a' n' c') → K (a.put o.dst (.slice a' n' c')) w') : o.wp Tryz.prog a w K Q := by
 obtain ⟨a', n', c', w', hr, h2, h3⟩ := run_app (ty := o.type) hown hrd hl
 unfold Oper.wp execOp
 simp only [ho, resolve, invoke, builtin, Sem.run_bind, Sem.run_pure, Result.andThen_ok, List.map_toArray, List.map_cons, List.map_nil, hs, hx, hr]
 exact h a' n' c' w' h2 h3
theorem step_app {w : World} {ops : Array Oper} {o : Oper} {a : Act} {K : Act → World → Prop} {Q : Exit → Act → World → Prop} {E : Prop} (hgd : o.guard = none) (s x : Operand)
  (ho : o.op = .call { callee := .builtin .append, args := #[s, x], argTypes := #[22, 22] })
  (v xv : Value) (bs ys : List Int) (hs : a.eval s = v) (hx : a.eval x = xv) (hown : Own 0 5 .u8 w v bs) (hrd : Rd .u8 w xv ys) (hl : bs.length + ys.length ≤ 1099511627776)
  (h : ∀ a' n' c' w', Own 0 5 .u8 w' (.slice a' n' c') (bs ++ ys) → Grew w v w' (.slice a' n' c') → K (a.put o.dst (.slice a' n' c')) w') :
  if Region.wanted o (yielded ops a.tmps) = true then Oper.wp Tryz.prog o a w K Q else E := by
 have hw : Region.wanted o (yielded ops a.tmps) = true := by simp [Region.wanted, hgd]
 rw [if_pos hw]
 exact wp_app s x ho v xv bs ys hs hx hown hrd hl h
def joinS (S : Nat → List Int) (k : Nat) : List Int := ((List.range k).map S).flatten
theorem joinS_succ (S : Nat → List Int) (k : Nat) : joinS S (k + 1) = joinS S k ++ S k := by
 unfold joinS
 rw [List.range_succ, List.map_append, List.flatten_append]
 simp
theorem joinS_length (S : Nat → List Int) : ∀ k, (∀ i, i < k → (S i).length = 512) → (joinS S k).length = k * 512
 | 0, _ => rfl
 | k + 1, h => by rw [joinS_succ, List.length_append, joinS_length S k (fun i hi => h i (by omega)), h k (by omega)]; omega
end Go.Proofs.YtjlkphhdbopmiaaGreat
