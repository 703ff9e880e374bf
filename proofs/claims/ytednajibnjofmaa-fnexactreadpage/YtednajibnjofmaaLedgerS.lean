/-
  spec.MinLog, spec.GeometryFault, spec.CheckpointSize, spec.LogFree.
-/
import Derived.Test.YtednajibnjofmaaL4In
import Derived.Test.YtednajibnjofmaaBlk
import Derived.Test.YtednajibnjofmaaDrawn
namespace Go.Proofs.Ytednajibnjofmaa
set_option maxRecDepth 100000
set_option maxHeartbeats 4000000
open Go.RowKit
set_option linter.unusedVariables false
set_option linter.unusedSimpArgs false

def minLog (p : Int) : Int := if inB p 1 16 = true then 9 * p + 24 else -1
def ckSize (p : Int) : Int := if inB p 1 16 = true then 240 + 10 * p else -1
def geoF (p f l : Int) : Int := if inB p 1 16 = false then 1 else if inB f 3 16 = false then 2 else if inB l (minLog p) 800 = false then 3 else 0
def freeL (p f l en lo im re : Int) : Int :=
  if geoF p f l ≠ 0 ∨ inB en 0 1099511627776 = false ∨ inB lo 0 1099511627776 = false ∨ inB im 0 1099511627776 = false ∨ inB re 0 1099511627776 = false then -1 else l * 512 - 512 - (en - lo) - (p - im) * 4131 - ckSize p - re
theorem inB_yes {v a b : Int} (h : inB v a b = true) : a ≤ v ∧ v ≤ b := by simpa [inB] using h
theorem specMinLog_any (p : Int) (w : World) : Calls Try.prog 59 #[.int .i64 p] w fun e w' => e = .returned (.int .i64 (minLog p)) ∧ Same w w' := by
  have k1 := fun wx => l4In_any p 1 16 wx
  unfold minLog
  cases h : inB p 1 16 with
  | false =>
    rw [h] at k1
    go_enter Try.func59, Try.ntmps59
    go_wp2_with fail
    refine (k1 _).mono ?_
    rintro e w1 ⟨rfl, hk1⟩
    go_wp2
    go_ret
    exact ⟨rfl, hk1⟩
  | true =>
    rw [h] at k1
    obtain ⟨h1, h2⟩ := inB_yes h
    have hw1 : IntKind.i64.wrap (9 * p) = 9 * p := by rw [IntKind.wrap_i64]; omega
    have hw2 : IntKind.i64.wrap (9 * p + 24) = 9 * p + 24 := by rw [IntKind.wrap_i64]; omega
    go_enter Try.func59, Try.ntmps59
    go_wp2_with fail
    refine (k1 _).mono ?_
    rintro e w1 ⟨rfl, hk1⟩
    go_wp2
    go_ret
    exact ⟨by first | rfl | trivial, hk1⟩
theorem specGeo_any (p f l : Int) (w : World) : Calls Try.prog 38 #[.agg #[.int .i64 p, .int .i64 f, .int .i64 l]] w fun e w' => e = .returned (.int .i64 (geoF p f l)) ∧ Same w w' := by
  have HK0 := hid (sameA w [.int .i64 p, .int .i64 f, .int .i64 l] 34)
  have b0 := Blk.newL w [.int .i64 p, .int .i64 f, .int .i64 l] 34
  have k1 := fun wx => l4In_any p 1 16 wx
  have k2 := fun wx => l4In_any f 3 16 wx
  have k3 := fun wx => specMinLog_any p wx
  have k4 := fun wx => l4In_any l (minLog p) 800 wx
  unfold geoF
  generalize minLog p = ml at k3 k4 ⊢
  cases h1 : inB p 1 16 with
  | false =>
    rw [h1] at k1
    go_enter Try.func38, Try.ntmps38
    go_wp2_with fail
    refine (k1 _).mono ?_
    rintro e w1 ⟨rfl, hk1⟩
    go_wp2
    go_ret
    exact ⟨rfl, HK0.out.trans hk1⟩
  | true =>
    rw [h1] at k1
    go_enter Try.func38, Try.ntmps38
    go_wp2_with fail
    refine (k1 _).mono ?_
    rintro e w1 ⟨rfl, hk1⟩
    have b1 := b0.same hk1
    have HK1 := hid (HK0.out.trans hk1)
    obtain ⟨c0, c1, c2⟩ := b1.all3
    clear hk1
    cases h2 : inB f 3 16 with
    | false =>
      rw [h2] at k2
      go_wp2_with fail
      refine (k2 _).mono ?_
      rintro e w2 ⟨rfl, hk2⟩
      have HK2 := hid (HK1.out.trans hk2)
      go_wp2
      go_ret
      exact ⟨rfl, HK2.out⟩
    | true =>
      rw [h2] at k2
      go_wp2_with fail
      refine (k2 _).mono ?_
      rintro e w2 ⟨rfl, hk2⟩
      have b2 := b1.same hk2
      have HK2 := hid (HK1.out.trans hk2)
      obtain ⟨d0, d1, d2⟩ := b2.all3
      clear hk2
      have hS : (fun wx : World => wx.cell? ⟨w.heap.size, 0, none⟩ = some (.int .i64 p) ∧ wx.cell? ⟨w.heap.size, 2, none⟩ = some (.int .i64 l)) w2.drew := ⟨d0, d2⟩
      go_wp2_with fail
      refine wp_region_V (fun wx : World => wx.cell? ⟨w.heap.size, 0, none⟩ = some (.int .i64 p) ∧ wx.cell? ⟨w.heap.size, 2, none⟩ = some (.int .i64 l)) 99 7 rfl (by kernel_rfl) ?_
      refine tk 0 11 hS ?_
      refine tk 1 12 hS ?_
      refine tk 2 13 hS ?_
      refine tk 3 14 hS ?_
      refine wpAnyV_one (i := 4) (by kernel_rfl) rfl (fun K hK => ?_)
      go_simp
      refine (k3 _).mono ?_
      rintro e w3 ⟨rfl, hk3⟩
      have HK23 : Hid (Same w2 w3) := (Kept.refl _ _).drew.trans hk3
      have HK3 := hid (HK2.out.trans HK23.out)
      have hS : (fun wx : World => wx.cell? ⟨w.heap.size, 0, none⟩ = some (.int .i64 p) ∧ wx.cell? ⟨w.heap.size, 2, none⟩ = some (.int .i64 l)) w3 := ⟨HK23.out.cellOf d0 id, HK23.out.cellOf d2 id⟩
      go_wp2_with fail
      refine hK.out _ _ (fun _ => hS) ?_
      clear hK K hk3
      try simp only [Act.put, sA, s0, sS]
      refine wpAnyV_one (i := 5) (by kernel_rfl) rfl (fun K hK => ?_)
      go_simp
      refine (k4 _).mono ?_
      rintro e w4 ⟨rfl, hk4⟩
      have HK4 := hid (HK3.out.trans hk4)
      have hS : (fun wx : World => wx.cell? ⟨w.heap.size, 0, none⟩ = some (.int .i64 p) ∧ wx.cell? ⟨w.heap.size, 2, none⟩ = some (.int .i64 l)) w4 := ⟨hk4.cellOf hS.1 id, hk4.cellOf hS.2 id⟩
      go_wp2_with fail
      refine hK.out _ _ (fun _ => hS) ?_
      clear hK K hk4
      try simp only [Act.put, sA, s0, sS]
      refine tk 6 17 hS ?_
      refine wpAnyV_done (by kernel_rfl) ?_
      cases h3 : inB l ml 800 with
      | false =>
        go_wp2
        go_ret
        exact ⟨rfl, HK4.out⟩
      | true =>
        go_wp2
        go_ret
        exact ⟨rfl, HK4.out⟩

end Go.Proofs.Ytednajibnjofmaa
