/-
  spec.l10Fits, impl.holdsHeap (by tools/gen/fits.py).
-/
import Derived.Test.YtednajibnjofmaaFmtNum
import Derived.Test.YtednajibnjofmaaValid
namespace Go.Proofs.Ytednajibnjofmaa
set_option maxRecDepth 100000
set_option maxHeartbeats 4000000
open Go.RowKit
set_option linter.unusedVariables false
set_option linter.unusedSimpArgs false

/-- A disk of the geometry. -/
def fitD (p f l : Int) (len : Nat) (ds : List (Int × List Int)) : Prop := geoF p f l = 0 ∧ Valid len ds ∧ ((len / 512 : Nat) : Int) = dskN p f l
theorem dskN_bad {p f l : Int} (h : ¬ geoF p f l = 0) : dskN p f l = -1 := if_neg h
theorem fits_any (p f l : Int) (dv pv : Value) (dur : List Int) (ps : List PW) (w : World) (hv : RdD w dv pv dur ps) :
    Calls Try.prog 22 #[.agg #[dv, pv], .agg #[.int .i64 p, .int .i64 f, .int .i64 l]] w fun e w' => Says e (fitD p f l dur.length (dataP ps)) ∧ Same w w' := by
  obtain ⟨a1, c1, rfl⟩ := hv.dur.form
  obtain ⟨a2, c2, rfl⟩ := hv.pend.form
  have hm := hv.dur.1
  have HV := hid hv
  obtain ⟨HK0, HA0, HG0⟩ := new2 w [.slice a1 dur.length c1, .slice a2 ps.length c2] 32 [.int .i64 p, .int .i64 f, .int .i64 l] 34
  obtain ⟨w0, hw0⟩ : ∃ x, (w.alloc (.cells [.slice a1 dur.length c1, .slice a2 ps.length c2].toArray 32)).alloc (.cells [.int .i64 p, .int .i64 f, .int .i64 l].toArray 34) = x := ⟨_, rfl⟩
  rw [hw0] at HK0 HA0 HG0
  have kV := fun wx (hk : Same w0 wx) => specValid_any _ _ dur ps wx (HV.out.same (HK0.out.trans hk))
  have kN := fun wx => l1Sectors_any a1 dur.length c1 a2 ps.length c2 wx hm
  have kD := fun wx => specDskN_any p f l wx
  clear hv HV
  generalize dur.length = n1 at *
  generalize ps.length = n2 at *
  obtain ⟨e0, e1⟩ := HA0.out.all2
  obtain ⟨e2, e3, e4⟩ := HG0.out.all3
  obtain ⟨B, hB⟩ : ∃ B : Bool, B = true ↔ Valid n1 (dataP ps) := by
    by_cases h : Valid n1 (dataP ps)
    · exact ⟨true, fun _ => h, fun _ => rfl⟩
    · exact ⟨false, Iff.intro (fun h2 => Bool.noConfusion h2) (fun h' => absurd h' h)⟩
  have kV : ∀ wx, Same w0 wx → Calls Try.prog 39 #[.agg #[.slice a1 n1 c1, .slice a2 n2 c2]] wx fun e w' => e = .returned (.bool B) ∧ Same wx w' := fun wx hk => (kV wx hk).mono (by
    rintro e w' ⟨⟨B', rfl, hB'⟩, hk⟩
    exact ⟨by rw [show B' = B from by cases B <;> cases B' <;> simp_all], hk⟩)
  have HW0 := hid hw0
  have kG := fun wx => specGeo_any p f l wx
  obtain ⟨q, hq⟩ : ∃ q, geoF p f l = q := ⟨_, rfl⟩
  obtain ⟨D, hD⟩ : ∃ D, dskN p f l = D := ⟨_, rfl⟩
  rw [hq] at kG
  rw [hD] at kD
  have HQ := hid hq
  have HD := hid hD
  clear hq hD hw0
  by_cases h0 : q = 0
  case neg =>
    clear hB
    go_enter Try.func22, Try.ntmps22
    go_wp2_with fail
    rw [show (w.alloc (.cells #[.slice a1 n1 c1, .slice a2 n2 c2] 32)).alloc (.cells #[.int .i64 p, .int .i64 f, .int .i64 l] 34) = w0 from HW0.out]
    have HKd : Hid (Same w0 w0.drew) := (Kept.refl _ _).drew
    have hS : (fun wx : World => wx.cell? ⟨w.heap.size, 0, none⟩ = some (.slice a1 n1 c1) ∧ wx.cell? ⟨w.heap.size, 1, none⟩ = some (.slice a2 n2 c2) ∧ wx.cell? ⟨w.heap.size + 1, 0, none⟩ = some (.int .i64 p) ∧ wx.cell? ⟨w.heap.size + 1, 1, none⟩ = some (.int .i64 f) ∧ wx.cell? ⟨w.heap.size + 1, 2, none⟩ = some (.int .i64 l)) w0.drew := ⟨e0, e1, e2, e3, e4⟩
    refine wp_region_V (fun wx : World => wx.cell? ⟨w.heap.size, 0, none⟩ = some (.slice a1 n1 c1) ∧ wx.cell? ⟨w.heap.size, 1, none⟩ = some (.slice a2 n2 c2) ∧ wx.cell? ⟨w.heap.size + 1, 0, none⟩ = some (.int .i64 p) ∧ wx.cell? ⟨w.heap.size + 1, 1, none⟩ = some (.int .i64 f) ∧ wx.cell? ⟨w.heap.size + 1, 2, none⟩ = some (.int .i64 l)) 99 15 rfl (by kernel_rfl) ?_
    refine tk 0 5 hS ?_
    refine wpAnyV_one (i := 1) (by kernel_rfl) rfl (fun K hK => ?_)
    go_simp
    refine (kG _).mono ?_
    rintro e w1 ⟨rfl, hk⟩
    have HKw1 := (show Hid (Same w0 w1) from HKd.out.trans hk)
    clear hk
    have hS : (fun wx : World => wx.cell? ⟨w.heap.size, 0, none⟩ = some (.slice a1 n1 c1) ∧ wx.cell? ⟨w.heap.size, 1, none⟩ = some (.slice a2 n2 c2) ∧ wx.cell? ⟨w.heap.size + 1, 0, none⟩ = some (.int .i64 p) ∧ wx.cell? ⟨w.heap.size + 1, 1, none⟩ = some (.int .i64 f) ∧ wx.cell? ⟨w.heap.size + 1, 2, none⟩ = some (.int .i64 l)) w1 := ⟨HKw1.out.cellOf e0 id, HKw1.out.cellOf e1 id, HKw1.out.cellOf e2 id, HKw1.out.cellOf e3 id, HKw1.out.cellOf e4 id⟩
    refine hK.out _ _ (fun _ => hS) ?_
    clear hK K
    try simp only [Act.put, sA, s0, sS]
    refine tkV 2 7 (.bool false) hS ?_
    refine tk 3 8 hS ?_
    refine tkS 4 9 hS ?_
    refine tkS 5 10 hS ?_
    refine tk 6 11 hS ?_
    refine tk 7 12 hS ?_
    refine tkS 8 13 hS ?_
    refine tkS 9 14 hS ?_
    refine tkS 10 15 hS ?_
    refine tkS 11 16 hS ?_
    refine tkS 12 17 hS ?_
    refine tk 13 18 hS ?_
    refine tk 14 4 hS ?_
    refine wpAnyV_done (by kernel_rfl) ?_
    go_wp2
    go_ret
    exact ⟨says_false (fun h => h0 (HQ.out.symm.trans h.1)), HK0.out.trans HKw1.out⟩
  subst h0
  cases B with
  | false =>
    have HBV : Hid (¬ Valid n1 (dataP ps)) := fun h => Bool.noConfusion (hB.2 h)
    clear hB
    go_enter Try.func22, Try.ntmps22
    go_wp2_with fail
    rw [show (w.alloc (.cells #[.slice a1 n1 c1, .slice a2 n2 c2] 32)).alloc (.cells #[.int .i64 p, .int .i64 f, .int .i64 l] 34) = w0 from HW0.out]
    have HKd : Hid (Same w0 w0.drew) := (Kept.refl _ _).drew
    have hS : (fun wx : World => wx.cell? ⟨w.heap.size, 0, none⟩ = some (.slice a1 n1 c1) ∧ wx.cell? ⟨w.heap.size, 1, none⟩ = some (.slice a2 n2 c2) ∧ wx.cell? ⟨w.heap.size + 1, 0, none⟩ = some (.int .i64 p) ∧ wx.cell? ⟨w.heap.size + 1, 1, none⟩ = some (.int .i64 f) ∧ wx.cell? ⟨w.heap.size + 1, 2, none⟩ = some (.int .i64 l)) w0.drew := ⟨e0, e1, e2, e3, e4⟩
    refine wp_region_V (fun wx : World => wx.cell? ⟨w.heap.size, 0, none⟩ = some (.slice a1 n1 c1) ∧ wx.cell? ⟨w.heap.size, 1, none⟩ = some (.slice a2 n2 c2) ∧ wx.cell? ⟨w.heap.size + 1, 0, none⟩ = some (.int .i64 p) ∧ wx.cell? ⟨w.heap.size + 1, 1, none⟩ = some (.int .i64 f) ∧ wx.cell? ⟨w.heap.size + 1, 2, none⟩ = some (.int .i64 l)) 99 15 rfl (by kernel_rfl) ?_
    refine tk 0 5 hS ?_
    refine wpAnyV_one (i := 1) (by kernel_rfl) rfl (fun K hK => ?_)
    go_simp
    refine (kG _).mono ?_
    rintro e w1 ⟨rfl, hk⟩
    have HKw1 := (show Hid (Same w0 w1) from HKd.out.trans hk)
    clear hk
    have hS : (fun wx : World => wx.cell? ⟨w.heap.size, 0, none⟩ = some (.slice a1 n1 c1) ∧ wx.cell? ⟨w.heap.size, 1, none⟩ = some (.slice a2 n2 c2) ∧ wx.cell? ⟨w.heap.size + 1, 0, none⟩ = some (.int .i64 p) ∧ wx.cell? ⟨w.heap.size + 1, 1, none⟩ = some (.int .i64 f) ∧ wx.cell? ⟨w.heap.size + 1, 2, none⟩ = some (.int .i64 l)) w1 := ⟨HKw1.out.cellOf e0 id, HKw1.out.cellOf e1 id, HKw1.out.cellOf e2 id, HKw1.out.cellOf e3 id, HKw1.out.cellOf e4 id⟩
    refine hK.out _ _ (fun _ => hS) ?_
    clear hK K
    try simp only [Act.put, sA, s0, sS]
    refine tkV 2 7 (.bool true) hS ?_
    refine tk 3 8 hS ?_
    refine tk 4 9 hS ?_
    refine wpAnyV_one (i := 5) (by kernel_rfl) rfl (fun K hK => ?_)
    go_simp
    refine (kV _ HKw1.out).mono ?_
    rintro e w2 ⟨rfl, hk⟩
    have HKw2 := (show Hid (Same w0 w2) from HKw1.out.trans hk)
    clear hk
    have hS : (fun wx : World => wx.cell? ⟨w.heap.size, 0, none⟩ = some (.slice a1 n1 c1) ∧ wx.cell? ⟨w.heap.size, 1, none⟩ = some (.slice a2 n2 c2) ∧ wx.cell? ⟨w.heap.size + 1, 0, none⟩ = some (.int .i64 p) ∧ wx.cell? ⟨w.heap.size + 1, 1, none⟩ = some (.int .i64 f) ∧ wx.cell? ⟨w.heap.size + 1, 2, none⟩ = some (.int .i64 l)) w2 := ⟨HKw2.out.cellOf e0 id, HKw2.out.cellOf e1 id, HKw2.out.cellOf e2 id, HKw2.out.cellOf e3 id, HKw2.out.cellOf e4 id⟩
    refine hK.out _ _ (fun _ => hS) ?_
    clear hK K
    try simp only [Act.put, sA, s0, sS]
    refine tk 6 11 hS ?_
    refine tk 7 12 hS ?_
    refine tkS 8 13 hS ?_
    refine tkS 9 14 hS ?_
    refine tkS 10 15 hS ?_
    refine tkS 11 16 hS ?_
    refine tkS 12 17 hS ?_
    refine tk 13 18 hS ?_
    refine tk 14 4 hS ?_
    refine wpAnyV_done (by kernel_rfl) ?_
    go_wp2
    go_ret
    exact ⟨says_false (fun h => HBV.out h.2.1), HK0.out.trans HKw2.out⟩
  | true =>
    have HBV : Hid (Valid n1 (dataP ps)) := hB.1 rfl
    clear hB
    go_enter Try.func22, Try.ntmps22
    go_wp2_with fail
    rw [show (w.alloc (.cells #[.slice a1 n1 c1, .slice a2 n2 c2] 32)).alloc (.cells #[.int .i64 p, .int .i64 f, .int .i64 l] 34) = w0 from HW0.out]
    have HKd : Hid (Same w0 w0.drew) := (Kept.refl _ _).drew
    have hS : (fun wx : World => wx.cell? ⟨w.heap.size, 0, none⟩ = some (.slice a1 n1 c1) ∧ wx.cell? ⟨w.heap.size, 1, none⟩ = some (.slice a2 n2 c2) ∧ wx.cell? ⟨w.heap.size + 1, 0, none⟩ = some (.int .i64 p) ∧ wx.cell? ⟨w.heap.size + 1, 1, none⟩ = some (.int .i64 f) ∧ wx.cell? ⟨w.heap.size + 1, 2, none⟩ = some (.int .i64 l)) w0.drew := ⟨e0, e1, e2, e3, e4⟩
    refine wp_region_V (fun wx : World => wx.cell? ⟨w.heap.size, 0, none⟩ = some (.slice a1 n1 c1) ∧ wx.cell? ⟨w.heap.size, 1, none⟩ = some (.slice a2 n2 c2) ∧ wx.cell? ⟨w.heap.size + 1, 0, none⟩ = some (.int .i64 p) ∧ wx.cell? ⟨w.heap.size + 1, 1, none⟩ = some (.int .i64 f) ∧ wx.cell? ⟨w.heap.size + 1, 2, none⟩ = some (.int .i64 l)) 99 15 rfl (by kernel_rfl) ?_
    refine tk 0 5 hS ?_
    refine wpAnyV_one (i := 1) (by kernel_rfl) rfl (fun K hK => ?_)
    go_simp
    refine (kG _).mono ?_
    rintro e w1 ⟨rfl, hk⟩
    have HKw1 := (show Hid (Same w0 w1) from HKd.out.trans hk)
    clear hk
    have hS : (fun wx : World => wx.cell? ⟨w.heap.size, 0, none⟩ = some (.slice a1 n1 c1) ∧ wx.cell? ⟨w.heap.size, 1, none⟩ = some (.slice a2 n2 c2) ∧ wx.cell? ⟨w.heap.size + 1, 0, none⟩ = some (.int .i64 p) ∧ wx.cell? ⟨w.heap.size + 1, 1, none⟩ = some (.int .i64 f) ∧ wx.cell? ⟨w.heap.size + 1, 2, none⟩ = some (.int .i64 l)) w1 := ⟨HKw1.out.cellOf e0 id, HKw1.out.cellOf e1 id, HKw1.out.cellOf e2 id, HKw1.out.cellOf e3 id, HKw1.out.cellOf e4 id⟩
    refine hK.out _ _ (fun _ => hS) ?_
    clear hK K
    try simp only [Act.put, sA, s0, sS]
    refine tkV 2 7 (.bool true) hS ?_
    refine tk 3 8 hS ?_
    refine tk 4 9 hS ?_
    refine wpAnyV_one (i := 5) (by kernel_rfl) rfl (fun K hK => ?_)
    go_simp
    refine (kV _ HKw1.out).mono ?_
    rintro e w2 ⟨rfl, hk⟩
    have HKw2 := (show Hid (Same w0 w2) from HKw1.out.trans hk)
    clear hk
    have hS : (fun wx : World => wx.cell? ⟨w.heap.size, 0, none⟩ = some (.slice a1 n1 c1) ∧ wx.cell? ⟨w.heap.size, 1, none⟩ = some (.slice a2 n2 c2) ∧ wx.cell? ⟨w.heap.size + 1, 0, none⟩ = some (.int .i64 p) ∧ wx.cell? ⟨w.heap.size + 1, 1, none⟩ = some (.int .i64 f) ∧ wx.cell? ⟨w.heap.size + 1, 2, none⟩ = some (.int .i64 l)) w2 := ⟨HKw2.out.cellOf e0 id, HKw2.out.cellOf e1 id, HKw2.out.cellOf e2 id, HKw2.out.cellOf e3 id, HKw2.out.cellOf e4 id⟩
    refine hK.out _ _ (fun _ => hS) ?_
    clear hK K
    try simp only [Act.put, sA, s0, sS]
    refine tk 6 11 hS ?_
    refine tk 7 12 hS ?_
    refine tk 8 13 hS ?_
    refine tk 10 15 hS ?_
    refine wpAnyV_one (i := 9) (by kernel_rfl) rfl (fun K hK => ?_)
    go_simp
    refine (kN _).mono ?_
    rintro e w3 ⟨rfl, hww⟩
    have HKw3 := (show Hid (Same w0 w3) from HKw2.out.trans (by rw [hww]; exact (Kept.refl _ _).alloc _))
    clear hww
    have hS : (fun wx : World => wx.cell? ⟨w.heap.size, 0, none⟩ = some (.slice a1 n1 c1) ∧ wx.cell? ⟨w.heap.size, 1, none⟩ = some (.slice a2 n2 c2) ∧ wx.cell? ⟨w.heap.size + 1, 0, none⟩ = some (.int .i64 p) ∧ wx.cell? ⟨w.heap.size + 1, 1, none⟩ = some (.int .i64 f) ∧ wx.cell? ⟨w.heap.size + 1, 2, none⟩ = some (.int .i64 l)) w3 := ⟨HKw3.out.cellOf e0 id, HKw3.out.cellOf e1 id, HKw3.out.cellOf e2 id, HKw3.out.cellOf e3 id, HKw3.out.cellOf e4 id⟩
    refine hK.out _ _ (fun _ => hS) ?_
    clear hK K
    try simp only [Act.put, sA, s0, sS]
    refine wpAnyV_one (i := 11) (by kernel_rfl) rfl (fun K hK => ?_)
    go_simp
    refine (kD _).mono ?_
    rintro e w4 ⟨rfl, hk⟩
    have HKw4 := (show Hid (Same w0 w4) from HKw3.out.trans hk)
    clear hk
    have hS : (fun wx : World => wx.cell? ⟨w.heap.size, 0, none⟩ = some (.slice a1 n1 c1) ∧ wx.cell? ⟨w.heap.size, 1, none⟩ = some (.slice a2 n2 c2) ∧ wx.cell? ⟨w.heap.size + 1, 0, none⟩ = some (.int .i64 p) ∧ wx.cell? ⟨w.heap.size + 1, 1, none⟩ = some (.int .i64 f) ∧ wx.cell? ⟨w.heap.size + 1, 2, none⟩ = some (.int .i64 l)) w4 := ⟨HKw4.out.cellOf e0 id, HKw4.out.cellOf e1 id, HKw4.out.cellOf e2 id, HKw4.out.cellOf e3 id, HKw4.out.cellOf e4 id⟩
    refine hK.out _ _ (fun _ => hS) ?_
    clear hK K
    try simp only [Act.put, sA, s0, sS]
    by_cases hd : ((n1 / 512 : Nat) : Int) = D
    · refine tkV 12 17 (.bool true) hS ?_
      refine tk 13 18 hS ?_
      refine tk 14 4 hS ?_
      refine wpAnyV_done (by kernel_rfl) ?_
      go_wp2
      go_ret
      exact ⟨says_true ⟨HQ.out, HBV.out, by rw [HD.out]; exact hd⟩, HK0.out.trans HKw4.out⟩
    · refine tkV 12 17 (.bool false) hS ?_
      refine tk 13 18 hS ?_
      refine tk 14 4 hS ?_
      refine wpAnyV_done (by kernel_rfl) ?_
      go_wp2
      go_ret
      exact ⟨says_false (fun h => hd (by rw [← HD.out]; exact h.2.2)), HK0.out.trans HKw4.out⟩
theorem holds_any (p f l : Int) (dv pv : Value) (dur : List Int) (ps : List PW) (w : World) (hv : RdD w dv pv dur ps) :
    Calls Try.prog 28 #[.agg #[dv, pv], .agg #[.int .i64 p, .int .i64 f, .int .i64 l]] w fun e w' => Says e (fitD p f l dur.length (dataP ps)) ∧ Same w w' := by
  obtain ⟨a1, c1, rfl⟩ := hv.dur.form
  obtain ⟨a2, c2, rfl⟩ := hv.pend.form
  have hm := hv.dur.1
  have HV := hid hv
  obtain ⟨HK0, HA0, HG0⟩ := new2 w [.slice a1 dur.length c1, .slice a2 ps.length c2] 32 [.int .i64 p, .int .i64 f, .int .i64 l] 34
  obtain ⟨w0, hw0⟩ : ∃ x, (w.alloc (.cells [.slice a1 dur.length c1, .slice a2 ps.length c2].toArray 32)).alloc (.cells [.int .i64 p, .int .i64 f, .int .i64 l].toArray 34) = x := ⟨_, rfl⟩
  rw [hw0] at HK0 HA0 HG0
  have kV := fun wx (hk : Same w0 wx) => implValid_any _ _ dur ps wx (HV.out.same (HK0.out.trans hk))
  have kN := fun wx => countSectors_any a1 dur.length c1 a2 ps.length c2 wx hm
  have kD := fun wx => implDskN_any p f l wx
  clear hv HV
  generalize dur.length = n1 at *
  generalize ps.length = n2 at *
  obtain ⟨e0, e1⟩ := HA0.out.all2
  obtain ⟨e2, e3, e4⟩ := HG0.out.all3
  obtain ⟨B, hB⟩ : ∃ B : Bool, B = true ↔ Valid n1 (dataP ps) := by
    by_cases h : Valid n1 (dataP ps)
    · exact ⟨true, fun _ => h, fun _ => rfl⟩
    · exact ⟨false, Iff.intro (fun h2 => Bool.noConfusion h2) (fun h' => absurd h' h)⟩
  have kV : ∀ wx, Same w0 wx → Calls Try.prog 47 #[.agg #[.slice a1 n1 c1, .slice a2 n2 c2]] wx fun e w' => e = .returned (.bool B) ∧ Same wx w' := fun wx hk => (kV wx hk).mono (by
    rintro e w' ⟨⟨B', rfl, hB'⟩, hk⟩
    exact ⟨by rw [show B' = B from by cases B <;> cases B' <;> simp_all], hk⟩)
  have HW0 := hid hw0
  obtain ⟨D, hD⟩ : ∃ D, dskN p f l = D := ⟨_, rfl⟩
  rw [hD] at kD
  have hgeo : ((n1 / 512 : Nat) : Int) = D → geoF p f l = 0 := fun h => by
    by_cases hq : geoF p f l = 0
    · exact hq
    · rw [dskN_bad hq] at hD; omega
  have HGEO := hid hgeo
  have HD := hid hD
  clear hD hw0 hgeo
  cases B with
  | false =>
    have HBV : Hid (¬ Valid n1 (dataP ps)) := fun h => Bool.noConfusion (hB.2 h)
    clear hB
    go_enter Try.func28, Try.ntmps28
    go_wp2_with fail
    rw [show (w.alloc (.cells #[.slice a1 n1 c1, .slice a2 n2 c2] 32)).alloc (.cells #[.int .i64 p, .int .i64 f, .int .i64 l] 34) = w0 from HW0.out]
    have HKd : Hid (Same w0 w0.drew) := (Kept.refl _ _).drew
    have hS : (fun wx : World => wx.cell? ⟨w.heap.size, 0, none⟩ = some (.slice a1 n1 c1) ∧ wx.cell? ⟨w.heap.size, 1, none⟩ = some (.slice a2 n2 c2) ∧ wx.cell? ⟨w.heap.size + 1, 0, none⟩ = some (.int .i64 p) ∧ wx.cell? ⟨w.heap.size + 1, 1, none⟩ = some (.int .i64 f) ∧ wx.cell? ⟨w.heap.size + 1, 2, none⟩ = some (.int .i64 l)) w0.drew := ⟨e0, e1, e2, e3, e4⟩
    refine wp_region_V (fun wx : World => wx.cell? ⟨w.heap.size, 0, none⟩ = some (.slice a1 n1 c1) ∧ wx.cell? ⟨w.heap.size, 1, none⟩ = some (.slice a2 n2 c2) ∧ wx.cell? ⟨w.heap.size + 1, 0, none⟩ = some (.int .i64 p) ∧ wx.cell? ⟨w.heap.size + 1, 1, none⟩ = some (.int .i64 f) ∧ wx.cell? ⟨w.heap.size + 1, 2, none⟩ = some (.int .i64 l)) 99 10 rfl (by kernel_rfl) ?_
    refine tk 0 5 hS ?_
    refine wpAnyV_one (i := 1) (by kernel_rfl) rfl (fun K hK => ?_)
    go_simp
    refine (kV _ HKd.out).mono ?_
    rintro e w1 ⟨rfl, hk⟩
    have HKw1 := (show Hid (Same w0 w1) from HKd.out.trans hk)
    clear hk
    have hS : (fun wx : World => wx.cell? ⟨w.heap.size, 0, none⟩ = some (.slice a1 n1 c1) ∧ wx.cell? ⟨w.heap.size, 1, none⟩ = some (.slice a2 n2 c2) ∧ wx.cell? ⟨w.heap.size + 1, 0, none⟩ = some (.int .i64 p) ∧ wx.cell? ⟨w.heap.size + 1, 1, none⟩ = some (.int .i64 f) ∧ wx.cell? ⟨w.heap.size + 1, 2, none⟩ = some (.int .i64 l)) w1 := ⟨HKw1.out.cellOf e0 id, HKw1.out.cellOf e1 id, HKw1.out.cellOf e2 id, HKw1.out.cellOf e3 id, HKw1.out.cellOf e4 id⟩
    refine hK.out _ _ (fun _ => hS) ?_
    clear hK K
    try simp only [Act.put, sA, s0, sS]
    refine tk 2 7 hS ?_
    refine tkS 3 8 hS ?_
    refine tkS 4 9 hS ?_
    refine tkS 5 10 hS ?_
    refine tkS 6 11 hS ?_
    refine tkS 7 12 hS ?_
    refine tk 8 13 hS ?_
    refine tk 9 4 hS ?_
    refine wpAnyV_done (by kernel_rfl) ?_
    go_wp2
    go_ret
    exact ⟨says_false (fun h => HBV.out h.2.1), HK0.out.trans HKw1.out⟩
  | true =>
    have HBV : Hid (Valid n1 (dataP ps)) := hB.1 rfl
    clear hB
    go_enter Try.func28, Try.ntmps28
    go_wp2_with fail
    rw [show (w.alloc (.cells #[.slice a1 n1 c1, .slice a2 n2 c2] 32)).alloc (.cells #[.int .i64 p, .int .i64 f, .int .i64 l] 34) = w0 from HW0.out]
    have HKd : Hid (Same w0 w0.drew) := (Kept.refl _ _).drew
    have hS : (fun wx : World => wx.cell? ⟨w.heap.size, 0, none⟩ = some (.slice a1 n1 c1) ∧ wx.cell? ⟨w.heap.size, 1, none⟩ = some (.slice a2 n2 c2) ∧ wx.cell? ⟨w.heap.size + 1, 0, none⟩ = some (.int .i64 p) ∧ wx.cell? ⟨w.heap.size + 1, 1, none⟩ = some (.int .i64 f) ∧ wx.cell? ⟨w.heap.size + 1, 2, none⟩ = some (.int .i64 l)) w0.drew := ⟨e0, e1, e2, e3, e4⟩
    refine wp_region_V (fun wx : World => wx.cell? ⟨w.heap.size, 0, none⟩ = some (.slice a1 n1 c1) ∧ wx.cell? ⟨w.heap.size, 1, none⟩ = some (.slice a2 n2 c2) ∧ wx.cell? ⟨w.heap.size + 1, 0, none⟩ = some (.int .i64 p) ∧ wx.cell? ⟨w.heap.size + 1, 1, none⟩ = some (.int .i64 f) ∧ wx.cell? ⟨w.heap.size + 1, 2, none⟩ = some (.int .i64 l)) 99 10 rfl (by kernel_rfl) ?_
    refine tk 0 5 hS ?_
    refine wpAnyV_one (i := 1) (by kernel_rfl) rfl (fun K hK => ?_)
    go_simp
    refine (kV _ HKd.out).mono ?_
    rintro e w1 ⟨rfl, hk⟩
    have HKw1 := (show Hid (Same w0 w1) from HKd.out.trans hk)
    clear hk
    have hS : (fun wx : World => wx.cell? ⟨w.heap.size, 0, none⟩ = some (.slice a1 n1 c1) ∧ wx.cell? ⟨w.heap.size, 1, none⟩ = some (.slice a2 n2 c2) ∧ wx.cell? ⟨w.heap.size + 1, 0, none⟩ = some (.int .i64 p) ∧ wx.cell? ⟨w.heap.size + 1, 1, none⟩ = some (.int .i64 f) ∧ wx.cell? ⟨w.heap.size + 1, 2, none⟩ = some (.int .i64 l)) w1 := ⟨HKw1.out.cellOf e0 id, HKw1.out.cellOf e1 id, HKw1.out.cellOf e2 id, HKw1.out.cellOf e3 id, HKw1.out.cellOf e4 id⟩
    refine hK.out _ _ (fun _ => hS) ?_
    clear hK K
    try simp only [Act.put, sA, s0, sS]
    refine tk 2 7 hS ?_
    refine tk 3 8 hS ?_
    refine tk 5 10 hS ?_
    refine wpAnyV_one (i := 4) (by kernel_rfl) rfl (fun K hK => ?_)
    go_simp
    refine (kN _).mono ?_
    rintro e w3 ⟨rfl, hww⟩
    have HKw3 := (show Hid (Same w0 w3) from HKw1.out.trans (by rw [hww]; exact (Kept.refl _ _).alloc _))
    clear hww
    have hS : (fun wx : World => wx.cell? ⟨w.heap.size, 0, none⟩ = some (.slice a1 n1 c1) ∧ wx.cell? ⟨w.heap.size, 1, none⟩ = some (.slice a2 n2 c2) ∧ wx.cell? ⟨w.heap.size + 1, 0, none⟩ = some (.int .i64 p) ∧ wx.cell? ⟨w.heap.size + 1, 1, none⟩ = some (.int .i64 f) ∧ wx.cell? ⟨w.heap.size + 1, 2, none⟩ = some (.int .i64 l)) w3 := ⟨HKw3.out.cellOf e0 id, HKw3.out.cellOf e1 id, HKw3.out.cellOf e2 id, HKw3.out.cellOf e3 id, HKw3.out.cellOf e4 id⟩
    refine hK.out _ _ (fun _ => hS) ?_
    clear hK K
    try simp only [Act.put, sA, s0, sS]
    refine wpAnyV_one (i := 6) (by kernel_rfl) rfl (fun K hK => ?_)
    go_simp
    refine (kD _).mono ?_
    rintro e w4 ⟨rfl, hk⟩
    have HKw4 := (show Hid (Same w0 w4) from HKw3.out.trans hk)
    clear hk
    have hS : (fun wx : World => wx.cell? ⟨w.heap.size, 0, none⟩ = some (.slice a1 n1 c1) ∧ wx.cell? ⟨w.heap.size, 1, none⟩ = some (.slice a2 n2 c2) ∧ wx.cell? ⟨w.heap.size + 1, 0, none⟩ = some (.int .i64 p) ∧ wx.cell? ⟨w.heap.size + 1, 1, none⟩ = some (.int .i64 f) ∧ wx.cell? ⟨w.heap.size + 1, 2, none⟩ = some (.int .i64 l)) w4 := ⟨HKw4.out.cellOf e0 id, HKw4.out.cellOf e1 id, HKw4.out.cellOf e2 id, HKw4.out.cellOf e3 id, HKw4.out.cellOf e4 id⟩
    refine hK.out _ _ (fun _ => hS) ?_
    clear hK K
    try simp only [Act.put, sA, s0, sS]
    by_cases hd : ((n1 / 512 : Nat) : Int) = D
    · refine tkV 7 12 (.bool true) hS ?_
      refine tk 8 13 hS ?_
      refine tk 9 4 hS ?_
      refine wpAnyV_done (by kernel_rfl) ?_
      go_wp2
      go_ret
      exact ⟨says_true ⟨HGEO.out hd, HBV.out, by rw [HD.out]; exact hd⟩, HK0.out.trans HKw4.out⟩
    · refine tkV 7 12 (.bool false) hS ?_
      refine tk 8 13 hS ?_
      refine tk 9 4 hS ?_
      refine wpAnyV_done (by kernel_rfl) ?_
      go_wp2
      go_ret
      exact ⟨says_false (fun h => hd (by rw [← HD.out]; exact h.2.2)), HK0.out.trans HKw4.out⟩
end Go.Proofs.Ytednajibnjofmaa
