/-
  The program's MinLog, CheckpointSize, GeometryFault, LogFree.
-/
import Derived.Test.YtednajibnjofmaaLedgerS
import Derived.Test.YtednajibnjofmaaVariad
namespace Go.Proofs.Ytednajibnjofmaa
set_option maxRecDepth 100000
set_option maxHeartbeats 4000000
open Go.RowKit
set_option linter.unusedVariables false
set_option linter.unusedSimpArgs false

theorem pageCount_any (x : Int) (w : World) : Calls Try.prog 60 #[.int .i64 x] w fun e w' => e = .returned (.bool (inB x 1 16)) ∧ w' = w := by
  unfold inB
  by_cases h : 1 ≤ x
  · by_cases h2 : x ≤ 16
    · go_enter Try.func60, Try.ntmps60
      go_wp2
      go_ret
      exact ⟨by simp [h, h2], rfl⟩
    · go_enter Try.func60, Try.ntmps60
      go_wp2
      go_ret
      exact ⟨by simp [h]; try omega, rfl⟩
  · go_enter Try.func60, Try.ntmps60
    go_wp2
    go_ret
    exact ⟨by rw [show decide (1 ≤ x) = false from by simp; omega]; rfl, rfl⟩
theorem lsn9_any (x : Int) (w : World) : Calls Try.prog 68 #[.int .i64 x] w fun e w' => e = .returned (.bool (inB x 0 1099511627776)) ∧ w' = w := by
  unfold inB
  by_cases h : 0 ≤ x
  · by_cases h2 : x ≤ 1099511627776
    · go_enter Try.func68, Try.ntmps68
      go_wp2
      go_ret
      exact ⟨by simp [h, h2], rfl⟩
    · go_enter Try.func68, Try.ntmps68
      go_wp2
      go_ret
      exact ⟨by simp [h]; try omega, rfl⟩
  · go_enter Try.func68, Try.ntmps68
    go_wp2
    go_ret
    exact ⟨by rw [show decide (0 ≤ x) = false from by simp; omega]; rfl, rfl⟩
theorem implMinLog_any (p : Int) (w : World) : Calls Try.prog 61 #[.int .i64 p] w fun e w' => e = .returned (.int .i64 (minLog p)) ∧ Same w w' := by
  have k1 := fun wx => pageCount_any p wx
  unfold minLog
  cases h : inB p 1 16 with
  | false =>
    rw [h] at k1
    go_enter Try.func61, Try.ntmps61
    go_wp2_with fail
    refine (k1 _).mono ?_
    rintro e w1 ⟨rfl, rfl⟩
    go_wp2
    go_ret
    exact ⟨rfl, Kept.refl _ _⟩
  | true =>
    rw [h] at k1
    obtain ⟨h1, h2⟩ := inB_yes h
    have hw1 : IntKind.i64.wrap (9 * p) = 9 * p := by rw [IntKind.wrap_i64]; omega
    have hw2 : IntKind.i64.wrap (9 * p + 24) = 9 * p + 24 := by rw [IntKind.wrap_i64]; omega
    go_enter Try.func61, Try.ntmps61
    go_wp2_with fail
    refine (k1 _).mono ?_
    rintro e w1 ⟨rfl, rfl⟩
    go_wp2
    go_ret
    exact ⟨by first | rfl | trivial, Kept.refl _ _⟩
theorem implGeo_any (p f l : Int) (w : World) : Calls Try.prog 45 #[.agg #[.int .i64 p, .int .i64 f, .int .i64 l]] w fun e w' => e = .returned (.int .i64 (geoF p f l)) ∧ Same w w' := by
  have HK0 := hid (sameA w [.int .i64 p, .int .i64 f, .int .i64 l] 34)
  have b0 := Blk.newL w [.int .i64 p, .int .i64 f, .int .i64 l] 34
  have k1 := fun wx => pageCount_any p wx
  have k3 := fun wx => implMinLog_any p wx
  obtain ⟨R, hR⟩ : ∃ R, geoF p f l = R := ⟨_, rfl⟩
  rw [hR]
  unfold geoF at hR
  generalize minLog p = ml at k3 hR
  cases h1 : inB p 1 16 with
  | false =>
    rw [h1] at k1 hR
    rw [if_pos rfl] at hR
    subst hR
    go_enter Try.func45, Try.ntmps45
    go_wp2_with fail
    refine (k1 _).mono ?_
    rintro e w1 ⟨rfl, rfl⟩
    go_wp2
    go_ret
    exact ⟨rfl, HK0.out⟩
  | true =>
    rw [h1] at k1 hR
    rw [if_neg (by simp)] at hR
    obtain ⟨c0, c1, c2⟩ := b0.all3
    by_cases h2 : f < 3
    · rw [if_pos (by simp [inB]; omega)] at hR
      subst hR
      go_enter Try.func45, Try.ntmps45
      go_wp2_with fail
      refine (k1 _).mono ?_
      rintro e w1 ⟨rfl, rfl⟩
      go_wp2
      go_ret
      exact ⟨rfl, HK0.out⟩
    by_cases h3 : 16 < f
    · rw [if_pos (by simp [inB]; omega)] at hR
      subst hR
      go_enter Try.func45, Try.ntmps45
      go_wp2_with fail
      refine (k1 _).mono ?_
      rintro e w1 ⟨rfl, rfl⟩
      go_wp2
      go_ret
      exact ⟨rfl, HK0.out⟩
    rw [if_neg (by simp [inB]; omega)] at hR
    go_enter Try.func45, Try.ntmps45
    go_wp2_with fail
    refine (k1 _).mono ?_
    rintro e w1 ⟨rfl, rfl⟩
    generalize w.alloc (.cells #[.int .i64 p, .int .i64 f, .int .i64 l] 34) = wa at c0 c1 c2 HK0 ⊢
    clear b0
    go_wp2_with fail
    have hS : (fun wx : World => wx.cell? ⟨w.heap.size, 0, none⟩ = some (.int .i64 p) ∧ wx.cell? ⟨w.heap.size, 2, none⟩ = some (.int .i64 l)) wa.drew := ⟨c0, c2⟩
    refine wp_region_V (fun wx : World => wx.cell? ⟨w.heap.size, 0, none⟩ = some (.int .i64 p) ∧ wx.cell? ⟨w.heap.size, 2, none⟩ = some (.int .i64 l)) 99 12 rfl (by kernel_rfl) ?_
    refine tk 0 18 hS ?_
    refine tk 1 19 hS ?_
    refine tk 2 20 hS ?_
    refine tk 3 21 hS ?_
    refine wpAnyV_one (i := 4) (by kernel_rfl) rfl (fun K hK => ?_)
    go_simp
    refine (k3 _).mono ?_
    rintro e w3 ⟨rfl, hk3⟩
    have HK23 : Hid (Same wa w3) := (Kept.refl _ _).drew.trans hk3
    have HK3 := hid (HK0.out.trans HK23.out)
    have hS : (fun wx : World => wx.cell? ⟨w.heap.size, 0, none⟩ = some (.int .i64 p) ∧ wx.cell? ⟨w.heap.size, 2, none⟩ = some (.int .i64 l)) w3 := ⟨HK23.out.cellOf c0 id, HK23.out.cellOf c2 id⟩
    refine hK.out _ _ (fun _ => hS) ?_
    clear hK K hk3
    try simp only [Act.put, sA, s0, sS]
    by_cases h4 : l < ml
    · rw [if_pos (by simp [inB]; omega)] at hR
      subst hR
      refine tkV 5 23 (.bool true) hS ?_
      refine tk 6 24 hS ?_
      refine tkS 7 25 hS ?_
      refine tkS 8 26 hS ?_
      refine tkS 9 27 hS ?_
      refine tk 10 28 hS ?_
      refine tk 11 17 hS ?_
      refine wpAnyV_done (by kernel_rfl) ?_
      go_wp2
      go_ret
      exact ⟨rfl, HK3.out⟩
    · by_cases h5 : 800 < l
      · rw [if_pos (by simp [inB]; omega)] at hR
        subst hR
        refine tkV 5 23 (.bool false) hS ?_
        refine tk 6 24 hS ?_
        refine tk 7 25 hS ?_
        refine tk 8 26 hS ?_
        refine tkV 9 27 (.bool true) hS ?_
        refine tk 10 28 hS ?_
        refine tk 11 17 hS ?_
        refine wpAnyV_done (by kernel_rfl) ?_
        go_wp2
        go_ret
        exact ⟨rfl, HK3.out⟩
      · rw [if_neg (by simp [inB]; omega)] at hR
        subst hR
        refine tkV 5 23 (.bool false) hS ?_
        refine tk 6 24 hS ?_
        refine tk 7 25 hS ?_
        refine tk 8 26 hS ?_
        refine tkV 9 27 (.bool false) hS ?_
        refine tk 10 28 hS ?_
        refine tk 11 17 hS ?_
        refine wpAnyV_done (by kernel_rfl) ?_
        go_wp2
        go_ret
        exact ⟨rfl, HK3.out⟩

end Go.Proofs.Ytednajibnjofmaa
