import Derived.Test.YthaeebfalapolaaG00
import Derived.Test.YthaeebfalapolaaRows
import Derived.WalkKit
import Derived.ProofKit
import Derived.OpenShut
import Derived.ShutString
import Derived.ChangeOld
import Derived.Below
import Derived.Lib.SmallJoins
import Derived.Deep.Slices
namespace Go.Proofs.Ythaeebfalapolaa
set_option maxRecDepth 100000
set_option maxHeartbeats 2000000
open Go.ChangeShapes Go.WideShapes Go.ChangeAt Go.RowKit
set_option linter.unusedVariables false
set_option linter.unusedSimpArgs false
theorem array_geo {cs : Array Value} (h : cs.size = 3) : ∃ c0 c1 c2, cs = #[c0, c1, c2] := by
  obtain ⟨l⟩ := cs
  match l, h with
  | [c0, c1, c2], _ => exact ⟨c0, c1, c2, rfl⟩
section
variable {H : Type} {enc : TypeId × Value → H} {w : World} {base : Nat} {spare : Nat → Bool} {held : Bool}
theorem open_geo {r : Reach} {b0 : Nat} {v : Value} {d : DataW H} {p : List MemPlace} (hv : Value.okWide Try.prog w r b0 33 v) (h : DataW.Trod enc Try.prog w base spare held 33 v d p) :
    ∃ p f l : Int, v = .agg #[.int .i64 p, .int .i64 f, .int .i64 l] := by
  obtain ⟨cs, rfl, hsz⟩ := okWide_struct Try.underlying33 hv
  obtain ⟨c0, c1, c2, rfl⟩ := array_geo (hsz.trans (by kernel_rfl))
  obtain ⟨fuel, hf⟩ := h
  obtain ⟨xs, n, _, _, _, hxl, hg⟩ := DataW.trod_struct Try.underlying33 hf
  have g0 : ∃ x, DataW.trod enc Try.prog w base spare held n 2 [c0] = some x := ⟨xs[0]'(by rw [hxl]; decide), by have h := hg 0 _ rfl; rw [List.getElem?_eq_getElem (by rw [hxl]; decide)] at h; exact h⟩
  obtain ⟨x0, g0⟩ := g0
  obtain ⟨z0, e0, _, _⟩ := DataW.trod_int Try.underlying2 g0
  simp at e0
  subst e0
  have g1 : ∃ x, DataW.trod enc Try.prog w base spare held n 2 [c1] = some x := ⟨xs[1]'(by rw [hxl]; decide), by have h := hg 1 _ rfl; rw [List.getElem?_eq_getElem (by rw [hxl]; decide)] at h; exact h⟩
  obtain ⟨x1, g1⟩ := g1
  obtain ⟨z1, e1, _, _⟩ := DataW.trod_int Try.underlying2 g1
  simp at e1
  subst e1
  have g2 : ∃ x, DataW.trod enc Try.prog w base spare held n 2 [c2] = some x := ⟨xs[2]'(by rw [hxl]; decide), by have h := hg 2 _ rfl; rw [List.getElem?_eq_getElem (by rw [hxl]; decide)] at h; exact h⟩
  obtain ⟨x2, g2⟩ := g2
  obtain ⟨z2, e2, _, _⟩ := DataW.trod_int Try.underlying2 g2
  simp at e2
  subst e2
  exact ⟨z0, z1, z2, rfl⟩
end
end Go.Proofs.Ythaeebfalapolaa

namespace Go.Proofs.Ythaeebfalapolaa
set_option maxRecDepth 100000
set_option maxHeartbeats 4000000
open Go.RowKit
set_option linter.unusedVariables false
set_option linter.unusedSimpArgs false
def minLog (p : Int) : Int := if inB p 1 16 = true then 9 * p + 24 else -1
def geoF (p f l : Int) : Int := if inB p 1 16 = false then 1 else if inB f 3 16 = false then 2 else if inB l (minLog p) 800 = false then 3 else 0
theorem inB_yes {v a b : Int} (h : inB v a b = true) : a ≤ v ∧ v ≤ b := by simpa [inB] using h
theorem specMinLog_any (p : Int) (w : World) : Calls Try.prog 24 #[.int .i64 p] w fun e w' => e = .returned (.int .i64 (minLog p)) ∧ Same w w' := by
  have k1 := fun wx => l4In_any p 1 16 wx
  unfold minLog
  cases h : inB p 1 16 with
  | false =>
    rw [h] at k1
    go_enter Try.func24, Try.ntmps24
    go_wp2_with fail
    refine (k1 _).mono ?_
    rintro e w1 ⟨rfl, hk1⟩
    go_wp2
    go_ret
    exact ⟨rfl, hk1⟩
  | true =>
    rw [h] at k1
    obtain ⟨h1, h2⟩ := inB_yes h
    have hw1 : IntKind.i64.wrap (9 * p) = 9 * p := by rw [IntKind.wrap_i64]; omega
    have hw2 : IntKind.i64.wrap (9 * p + 24) = 9 * p + 24 := by rw [IntKind.wrap_i64]; omega
    go_enter Try.func24, Try.ntmps24
    go_wp2_with fail
    refine (k1 _).mono ?_
    rintro e w1 ⟨rfl, hk1⟩
    go_wp2
    go_ret
    exact ⟨by first | rfl | trivial, hk1⟩
theorem specGeo_any (p f l : Int) (w : World) : Calls Try.prog 22 #[.agg #[.int .i64 p, .int .i64 f, .int .i64 l]] w fun e w' => e = .returned (.int .i64 (geoF p f l)) ∧ Same w w' := by
  have HK0 := hid (sameA w [.int .i64 p, .int .i64 f, .int .i64 l] 35)
  have b0 := Blk.newL w [.int .i64 p, .int .i64 f, .int .i64 l] 35
  have k1 := fun wx => l4In_any p 1 16 wx
  have k2 := fun wx => l4In_any f 3 16 wx
  have k3 := fun wx => specMinLog_any p wx
  have k4 := fun wx => l4In_any l (minLog p) 800 wx
  unfold geoF
  generalize minLog p = ml at k3 k4 ⊢
  cases h1 : inB p 1 16 with
  | false =>
    rw [h1] at k1
    go_enter Try.func22, Try.ntmps22
    go_wp2_with fail
    refine (k1 _).mono ?_
    rintro e w1 ⟨rfl, hk1⟩
    go_wp2
    go_ret
    exact ⟨rfl, HK0.out.trans hk1⟩
  | true =>
    rw [h1] at k1
    go_enter Try.func22, Try.ntmps22
    go_wp2_with fail
    refine (k1 _).mono ?_
    rintro e w1 ⟨rfl, hk1⟩
    have b1 := b0.same hk1
    have HK1 := hid (HK0.out.trans hk1)
    obtain ⟨c0, c1, c2⟩ := b1.all3
    clear hk1
    cases h2 : inB f 3 16 with
    | false =>
      rw [h2] at k2
      go_wp2_with fail
      refine (k2 _).mono ?_
      rintro e w2 ⟨rfl, hk2⟩
      have HK2 := hid (HK1.out.trans hk2)
      go_wp2
      go_ret
      exact ⟨rfl, HK2.out⟩
    | true =>
      rw [h2] at k2
      go_wp2_with fail
      refine (k2 _).mono ?_
      rintro e w2 ⟨rfl, hk2⟩
      have b2 := b1.same hk2
      have HK2 := hid (HK1.out.trans hk2)
      obtain ⟨d0, d1, d2⟩ := b2.all3
      clear hk2
      have hS : (fun wx : World => wx.cell? ⟨w.heap.size, 0, none⟩ = some (.int .i64 p) ∧ wx.cell? ⟨w.heap.size, 2, none⟩ = some (.int .i64 l)) w2.drew := ⟨d0, d2⟩
      go_wp2_with fail
      refine wp_region_V (fun wx : World => wx.cell? ⟨w.heap.size, 0, none⟩ = some (.int .i64 p) ∧ wx.cell? ⟨w.heap.size, 2, none⟩ = some (.int .i64 l)) 99 7 rfl (by kernel_rfl) ?_
      refine tk 0 11 hS ?_
      refine tk 1 12 hS ?_
      refine tk 2 13 hS ?_
      refine tk 3 14 hS ?_
      refine wpAnyV_one (i := 4) (by kernel_rfl) rfl (fun K hK => ?_)
      go_simp
      refine (k3 _).mono ?_
      rintro e w3 ⟨rfl, hk3⟩
      have HK23 : Hid (Same w2 w3) := (Kept.refl _ _).drew.trans hk3
      have HK3 := hid (HK2.out.trans HK23.out)
      have hS : (fun wx : World => wx.cell? ⟨w.heap.size, 0, none⟩ = some (.int .i64 p) ∧ wx.cell? ⟨w.heap.size, 2, none⟩ = some (.int .i64 l)) w3 := ⟨HK23.out.cellOf d0 id, HK23.out.cellOf d2 id⟩
      go_wp2_with fail
      refine hK.out _ _ (fun _ => hS) ?_
      clear hK K hk3
      try simp only [Act.put, sA, s0, sS]
      refine wpAnyV_one (i := 5) (by kernel_rfl) rfl (fun K hK => ?_)
      go_simp
      refine (k4 _).mono ?_
      rintro e w4 ⟨rfl, hk4⟩
      have HK4 := hid (HK3.out.trans hk4)
      have hS : (fun wx : World => wx.cell? ⟨w.heap.size, 0, none⟩ = some (.int .i64 p) ∧ wx.cell? ⟨w.heap.size, 2, none⟩ = some (.int .i64 l)) w4 := ⟨hk4.cellOf hS.1 id, hk4.cellOf hS.2 id⟩
      go_wp2_with fail
      refine hK.out _ _ (fun _ => hS) ?_
      clear hK K hk4
      try simp only [Act.put, sA, s0, sS]
      refine tk 6 17 hS ?_
      refine wpAnyV_done (by kernel_rfl) ?_
      cases h3 : inB l ml 800 with
      | false =>
        go_wp2
        go_ret
        exact ⟨rfl, HK4.out⟩
      | true =>
        go_wp2
        go_ret
        exact ⟨rfl, HK4.out⟩
end Go.Proofs.Ythaeebfalapolaa

namespace Go.Proofs.Ythaeebfalapolaa
open Go.RowKit
set_option linter.unusedVariables false
set_option linter.unusedSimpArgs false
theorem RdF.some {m : Nat} {w : World} {x : FR} (h : RdF m w x) (h0 : 0 < x.n) : ∃ b off, x.a = some ⟨b, off, none⟩ ∧ x.n ≤ x.c := by
  rcases h.2.2 with h1 | ⟨b, off, he, hle, _⟩
  · omega
  · exact ⟨b, off, he, hle⟩
end Go.Proofs.Ythaeebfalapolaa

namespace Go.Proofs.Ythaeebfalapolaa
set_option maxRecDepth 100000
set_option maxHeartbeats 4000000
open Go.RowKit
set_option linter.unusedVariables false
set_option linter.unusedSimpArgs false
theorem Rd.at {w : World} {a : Option Addr} {n c : Nat} {zs : List Int} (h : Rd .i64 w (.slice a n c) zs) {k : Nat} (hk : k < zs.length) : ∃ b off, a = some ⟨b, off, none⟩ ∧ w.cell? ⟨b, off + k, none⟩ = some (.int .i64 (zs.getD k 0)) := by
  rcases h.2 with ⟨hnil, _⟩ | ⟨b, off, c', h, _, hc⟩
  · rw [hnil] at hk; simp at hk
  · cases h; exact ⟨b, off, rfl, hc k hk⟩
end Go.Proofs.Ythaeebfalapolaa

namespace Go.Proofs.Ythaeebfalapolaa
set_option maxRecDepth 100000
set_option maxHeartbeats 4000000
open Go.RowKit
set_option linter.unusedVariables false
set_option linter.unusedSimpArgs false
theorem pageCount_any (x : Int) (w : World) : Calls Try.prog 25 #[.int .i64 x] w fun e w' => e = .returned (.bool (inB x 1 16)) ∧ w' = w := by
  unfold inB
  by_cases h : 1 ≤ x
  · by_cases h2 : x ≤ 16
    · go_enter Try.func25, Try.ntmps25
      go_wp2
      go_ret
      exact ⟨by simp [h, h2], rfl⟩
    · go_enter Try.func25, Try.ntmps25
      go_wp2
      go_ret
      exact ⟨by simp [h]; try omega, rfl⟩
  · go_enter Try.func25, Try.ntmps25
    go_wp2
    go_ret
    exact ⟨by rw [show decide (1 ≤ x) = false from by simp; omega]; rfl, rfl⟩
theorem implMinLog_any (p : Int) (w : World) : Calls Try.prog 26 #[.int .i64 p] w fun e w' => e = .returned (.int .i64 (minLog p)) ∧ Same w w' := by
  have k1 := fun wx => pageCount_any p wx
  unfold minLog
  cases h : inB p 1 16 with
  | false =>
    rw [h] at k1
    go_enter Try.func26, Try.ntmps26
    go_wp2_with fail
    refine (k1 _).mono ?_
    rintro e w1 ⟨rfl, rfl⟩
    go_wp2
    go_ret
    exact ⟨rfl, Kept.refl _ _⟩
  | true =>
    rw [h] at k1
    obtain ⟨h1, h2⟩ := inB_yes h
    have hw1 : IntKind.i64.wrap (9 * p) = 9 * p := by rw [IntKind.wrap_i64]; omega
    have hw2 : IntKind.i64.wrap (9 * p + 24) = 9 * p + 24 := by rw [IntKind.wrap_i64]; omega
    go_enter Try.func26, Try.ntmps26
    go_wp2_with fail
    refine (k1 _).mono ?_
    rintro e w1 ⟨rfl, rfl⟩
    go_wp2
    go_ret
    exact ⟨by first | rfl | trivial, Kept.refl _ _⟩
theorem implGeo_any (p f l : Int) (w : World) : Calls Try.prog 23 #[.agg #[.int .i64 p, .int .i64 f, .int .i64 l]] w fun e w' => e = .returned (.int .i64 (geoF p f l)) ∧ Same w w' := by
  have HK0 := hid (sameA w [.int .i64 p, .int .i64 f, .int .i64 l] 35)
  have b0 := Blk.newL w [.int .i64 p, .int .i64 f, .int .i64 l] 35
  have k1 := fun wx => pageCount_any p wx
  have k3 := fun wx => implMinLog_any p wx
  obtain ⟨R, hR⟩ : ∃ R, geoF p f l = R := ⟨_, rfl⟩
  rw [hR]
  unfold geoF at hR
  generalize minLog p = ml at k3 hR
  cases h1 : inB p 1 16 with
  | false =>
    rw [h1] at k1 hR
    rw [if_pos rfl] at hR
    subst hR
    go_enter Try.func23, Try.ntmps23
    go_wp2_with fail
    refine (k1 _).mono ?_
    rintro e w1 ⟨rfl, rfl⟩
    go_wp2
    go_ret
    exact ⟨rfl, HK0.out⟩
  | true =>
    rw [h1] at k1 hR
    rw [if_neg (by simp)] at hR
    obtain ⟨c0, c1, c2⟩ := b0.all3
    by_cases h2 : f < 3
    · rw [if_pos (by simp [inB]; omega)] at hR
      subst hR
      go_enter Try.func23, Try.ntmps23
      go_wp2_with fail
      refine (k1 _).mono ?_
      rintro e w1 ⟨rfl, rfl⟩
      go_wp2
      go_ret
      exact ⟨rfl, HK0.out⟩
    by_cases h3 : 16 < f
    · rw [if_pos (by simp [inB]; omega)] at hR
      subst hR
      go_enter Try.func23, Try.ntmps23
      go_wp2_with fail
      refine (k1 _).mono ?_
      rintro e w1 ⟨rfl, rfl⟩
      go_wp2
      go_ret
      exact ⟨rfl, HK0.out⟩
    rw [if_neg (by simp [inB]; omega)] at hR
    go_enter Try.func23, Try.ntmps23
    go_wp2_with fail
    refine (k1 _).mono ?_
    rintro e w1 ⟨rfl, rfl⟩
    generalize w.alloc (.cells #[.int .i64 p, .int .i64 f, .int .i64 l] 35) = wa at c0 c1 c2 HK0 ⊢
    clear b0
    go_wp2_with fail
    have hS : (fun wx : World => wx.cell? ⟨w.heap.size, 0, none⟩ = some (.int .i64 p) ∧ wx.cell? ⟨w.heap.size, 2, none⟩ = some (.int .i64 l)) wa.drew := ⟨c0, c2⟩
    refine wp_region_V (fun wx : World => wx.cell? ⟨w.heap.size, 0, none⟩ = some (.int .i64 p) ∧ wx.cell? ⟨w.heap.size, 2, none⟩ = some (.int .i64 l)) 99 12 rfl (by kernel_rfl) ?_
    refine tk 0 18 hS ?_
    refine tk 1 19 hS ?_
    refine tk 2 20 hS ?_
    refine tk 3 21 hS ?_
    refine wpAnyV_one (i := 4) (by kernel_rfl) rfl (fun K hK => ?_)
    go_simp
    refine (k3 _).mono ?_
    rintro e w3 ⟨rfl, hk3⟩
    have HK23 : Hid (Same wa w3) := (Kept.refl _ _).drew.trans hk3
    have HK3 := hid (HK0.out.trans HK23.out)
    have hS : (fun wx : World => wx.cell? ⟨w.heap.size, 0, none⟩ = some (.int .i64 p) ∧ wx.cell? ⟨w.heap.size, 2, none⟩ = some (.int .i64 l)) w3 := ⟨HK23.out.cellOf c0 id, HK23.out.cellOf c2 id⟩
    refine hK.out _ _ (fun _ => hS) ?_
    clear hK K hk3
    try simp only [Act.put, sA, s0, sS]
    by_cases h4 : l < ml
    · rw [if_pos (by simp [inB]; omega)] at hR
      subst hR
      refine tkV 5 23 (.bool true) hS ?_
      refine tk 6 24 hS ?_
      refine tkS 7 25 hS ?_
      refine tkS 8 26 hS ?_
      refine tkS 9 27 hS ?_
      refine tk 10 28 hS ?_
      refine tk 11 17 hS ?_
      refine wpAnyV_done (by kernel_rfl) ?_
      go_wp2
      go_ret
      exact ⟨rfl, HK3.out⟩
    · by_cases h5 : 800 < l
      · rw [if_pos (by simp [inB]; omega)] at hR
        subst hR
        refine tkV 5 23 (.bool false) hS ?_
        refine tk 6 24 hS ?_
        refine tk 7 25 hS ?_
        refine tk 8 26 hS ?_
        refine tkV 9 27 (.bool true) hS ?_
        refine tk 10 28 hS ?_
        refine tk 11 17 hS ?_
        refine wpAnyV_done (by kernel_rfl) ?_
        go_wp2
        go_ret
        exact ⟨rfl, HK3.out⟩
      · rw [if_neg (by simp [inB]; omega)] at hR
        subst hR
        refine tkV 5 23 (.bool false) hS ?_
        refine tk 6 24 hS ?_
        refine tk 7 25 hS ?_
        refine tk 8 26 hS ?_
        refine tkV 9 27 (.bool false) hS ?_
        refine tk 10 28 hS ?_
        refine tk 11 17 hS ?_
        refine wpAnyV_done (by kernel_rfl) ?_
        go_wp2
        go_ret
        exact ⟨rfl, HK3.out⟩
end Go.Proofs.Ythaeebfalapolaa

namespace Go.Proofs.Ythaeebfalapolaa
set_option maxRecDepth 100000
set_option maxHeartbeats 4000000
open Go.RowKit
set_option linter.unusedVariables false
set_option linter.unusedSimpArgs false
theorem toGeo_any (p f l : Int) (w : World) : Calls Try.prog 11 #[.agg #[.int .i64 p, .int .i64 f, .int .i64 l]] w fun e w' => e = .returned (.agg #[.int .i64 p, .int .i64 f, .int .i64 l]) ∧ Same w w' := by
  go_enter Try.func11, Try.ntmps11
  go_wp2
  refine bodyPost_ret (v := .agg #[.int .i64 p, .int .i64 f, .int .i64 l]) (by simp [results, Try.results11, go_sem]) rfl ⟨rfl, ?_⟩
  repeat (first | exact Kept.refl _ _ | refine Kept.alloc ?_ _ | refine Kept.setCell ?_ (.inl (by simp)) _)
end Go.Proofs.Ythaeebfalapolaa

namespace Go.Proofs.Ythaeebfalapolaa
set_option maxRecDepth 100000
set_option maxHeartbeats 4000000
open Go.RowKit
set_option linter.unusedVariables false
set_option linter.unusedSimpArgs false
theorem geo_good {p f l : Int} (hq : geoF p f l = 0) : 1 ≤ p ∧ p ≤ 16 ∧ 9 * p + 24 ≤ l ∧ l ≤ 800 := by
  unfold geoF at hq
  cases h1 : inB p 1 16 with
  | false => rw [h1, if_pos rfl] at hq; cases hq
  | true =>
    rw [h1, if_neg (by simp)] at hq
    cases h2 : inB f 3 16 with
    | false => rw [h2, if_pos rfl] at hq; cases hq
    | true =>
      rw [h2, if_neg (by simp)] at hq
      cases h3 : inB l (minLog p) 800 with
      | false => rw [h3, if_pos rfl] at hq; cases hq
      | true =>
        obtain ⟨a, b⟩ := inB_yes h1
        obtain ⟨c, d⟩ := inB_yes h3
        have hml : minLog p = 9 * p + 24 := if_pos h1
        rw [hml] at c
        exact ⟨a, b, c, d⟩
end Go.Proofs.Ythaeebfalapolaa

namespace Go.Proofs.Ythaeebfalapolaa
set_option maxRecDepth 100000
set_option maxHeartbeats 4000000
open Go.RowKit
set_option linter.unusedVariables false
set_option linter.unusedSimpArgs false
def bndN (p f l : Int) : Int := if geoF p f l = 0 then 600 * l + 100 * p + 100 else -1
theorem specBnd_any (p f l : Int) (w : World) : Calls Try.prog 10 #[.agg #[.int .i64 p, .int .i64 f, .int .i64 l]] w fun e w' => e = .returned (.int .i64 (bndN p f l)) ∧ Same w w' := by
  have HK0 := hid (sameA w [.int .i64 p, .int .i64 f, .int .i64 l] 35)
  have b0 := Blk.newL w [.int .i64 p, .int .i64 f, .int .i64 l] 35
  have k0 := fun wx => specGeo_any p f l wx
  obtain ⟨R, hR⟩ : ∃ R, bndN p f l = R := ⟨_, rfl⟩
  rw [hR]
  unfold bndN at hR
  obtain ⟨q, hq⟩ : ∃ q, geoF p f l = q := ⟨_, rfl⟩
  rw [hq] at k0 hR
  by_cases h0 : q = 0
  case neg =>
    rw [if_neg h0] at hR
    subst hR
    clear hq
    go_enter Try.func10, Try.ntmps10
    go_wp2_with fail
    refine (k0 _).mono ?_
    rintro e w1 ⟨rfl, hk1⟩
    go_wp2
    go_ret
    exact ⟨rfl, HK0.out.trans hk1⟩
  subst h0
  rw [if_pos rfl] at hR
  obtain ⟨h1, h2, h3, h4⟩ := geo_good hq
  clear hq
  have q1 : IntKind.i64.wrap (600 * l) = 600 * l := by rw [IntKind.wrap_i64]; omega
  have q2 : IntKind.i64.wrap (100 * p) = 100 * p := by rw [IntKind.wrap_i64]; omega
  have q3 : IntKind.i64.wrap (600 * l + 100 * p) = 600 * l + 100 * p := by rw [IntKind.wrap_i64]; omega
  have q4 : IntKind.i64.wrap (600 * l + 100 * p + 100) = 600 * l + 100 * p + 100 := by rw [IntKind.wrap_i64]; omega
  subst hR
  go_enter Try.func10, Try.ntmps10
  go_wp2_with fail
  refine (k0 _).mono ?_
  rintro e w1 ⟨rfl, hk1⟩
  have HK1 := hid (HK0.out.trans hk1)
  obtain ⟨d0, d1, d2⟩ := (b0.same hk1).all3
  clear hk1
  go_wp2
  go_ret
  exact ⟨rfl, HK1.out⟩
theorem implBnd_any (p f l : Int) (w : World) : Calls Try.prog 12 #[.agg #[.int .i64 p, .int .i64 f, .int .i64 l]] w fun e w' => e = .returned (.int .i64 (bndN p f l)) ∧ Same w w' := by
  have HK0 := hid (sameA w [.int .i64 p, .int .i64 f, .int .i64 l] 35)
  have b0 := Blk.newL w [.int .i64 p, .int .i64 f, .int .i64 l] 35
  have k0 := fun wx => implGeo_any p f l wx
  obtain ⟨R, hR⟩ : ∃ R, bndN p f l = R := ⟨_, rfl⟩
  rw [hR]
  unfold bndN at hR
  obtain ⟨q, hq⟩ : ∃ q, geoF p f l = q := ⟨_, rfl⟩
  rw [hq] at k0 hR
  by_cases h0 : q = 0
  case neg =>
    rw [if_neg h0] at hR
    subst hR
    clear hq
    go_enter Try.func12, Try.ntmps12
    go_wp2_with fail
    refine (k0 _).mono ?_
    rintro e w1 ⟨rfl, hk1⟩
    go_wp2
    go_ret
    exact ⟨rfl, HK0.out.trans hk1⟩
  subst h0
  rw [if_pos rfl] at hR
  obtain ⟨h1, h2, h3, h4⟩ := geo_good hq
  clear hq
  have q1 : IntKind.i64.wrap (600 * l) = 600 * l := by rw [IntKind.wrap_i64]; omega
  have q2 : IntKind.i64.wrap (100 * p) = 100 * p := by rw [IntKind.wrap_i64]; omega
  have q3 : IntKind.i64.wrap (600 * l + 100 * p) = 600 * l + 100 * p := by rw [IntKind.wrap_i64]; omega
  have q4 : IntKind.i64.wrap (600 * l + 100 * p + 100) = 600 * l + 100 * p + 100 := by rw [IntKind.wrap_i64]; omega
  subst hR
  go_enter Try.func12, Try.ntmps12
  go_wp2_with fail
  refine (k0 _).mono ?_
  rintro e w1 ⟨rfl, hk1⟩
  have HK1 := hid (HK0.out.trans hk1)
  obtain ⟨d0, d1, d2⟩ := (b0.same hk1).all3
  clear hk1
  go_wp2
  go_ret
  exact ⟨rfl, HK1.out⟩
theorem bnd_law (p f l  : Int) (w : World) : Calls Try.prog 4 #[.agg #[.int .i64 p, .int .i64 f, .int .i64 l]] w fun e w' => e = .returned (.bool true) ∧ Same w w' := by
  have HK0 := hid (sameA w [.int .i64 p, .int .i64 f, .int .i64 l] 33)
  have b0 := Blk.newL w [.int .i64 p, .int .i64 f, .int .i64 l] 33
  obtain ⟨R, hR⟩ : ∃ R, bndN p f l = R := ⟨_, rfl⟩
  go_enter Try.func4, Try.ntmps4
  go_wp2_with fail
  refine (toGeo_any p f l _).mono ?_
  rintro e w1 ⟨rfl, hk1⟩
  go_wp2_with fail
  refine (specBnd_any p f l  _).mono ?_
  rintro e w2 ⟨rfl, hk2⟩
  have HK2 := hid ((HK0.out.trans hk1).trans hk2)
  obtain ⟨d0, d1, d2⟩ := ((b0.same hk1).same hk2).all3
  rw [hR]
  go_wp2_with fail
  refine (toGeo_any p f l _).mono ?_
  rintro e w3 ⟨rfl, hk3⟩
  go_wp2_with fail
  refine (implBnd_any p f l  _).mono ?_
  rintro e w4 ⟨rfl, hk4⟩
  rw [hR]
  have HK4 := hid ((HK2.out.trans hk3).trans hk4)
  go_wp2
  go_ret
  exact ⟨rfl, HK4.out⟩
end Go.Proofs.Ythaeebfalapolaa

namespace Go.Proofs.Ythaeebfalapolaa.fnExactRestartBound
open Go.ChangeShapes Go.WideShapes Go.ChangeAt Go.RowKit
set_option linter.unusedVariables false
theorem own : ownKnob Try.prog.godebug = none := by kernel_rfl
theorem laidOut : laidOutB Try.prog = true := by kernel_rfl
set_option maxRecDepth 100000 in
theorem lifted (os : Os) (started : os.Started) (H : Type) (enc : TypeId × Value → H) :
    ReturnsInHanded {} Try.checked os 4 .any (Rows.fnExactRestartBoundSpec.pre6 enc Try.prog Try.f4 Rows.fnExactRestartBoundRow.domain false) (Rows.fnExactRestartBoundSpec.post enc Try.prog Try.f4 false true false false) := by
  refine returnsInHanded_of_change (C := Try.checked) own started (by kernel_rfl) Try.func4
    (ChangeSpec.witness6 (enc := enc) (C := Try.checked) false ⟨#[], #[.agg #[.int .i64 0, .int .i64 0, .int .i64 0]], []⟩ 8 (by kernel_rfl) (by kernel_rfl) (by kernel_rfl) (by kernel_rfl)) ?_
  intro W base args ds gs before hval0 hW hcnd _
  have hval : ∀ (j : Nat) t v, Try.f4.params[j]? = some t → args[j]? = some v → Value.okWide Try.prog W .any base t v := hval0
  have hW' := hW
  obtain ⟨p, q, hA0, hV, rfl, hfz, hnd⟩ := hW
  have hA : DataW.TrodAll enc Try.prog W 0 (fun _ => true) true Try.f4.params.toList args.toList ds p := hA0
  rw [Try.params4] at hA hval
  obtain ⟨v0, vs0, d0, ds0, p0, q0, hargs, rfl, rfl, h0, r0⟩ := trodAll_cons hA
  obtain ⟨rfl, rfl, rfl⟩ := trodAll_nil r0
  obtain rfl : args = #[v0] := by cases args; simp_all
  obtain ⟨rfl, rfl⟩ := trodVars_none hV
  have k0 := h0
  have lt0 : ∀ x ∈ p0, x.block < W.heap.size := by obtain ⟨m, hm⟩ := k0; exact DataW.trod_lt m _ _ _ hm
  obtain ⟨gp0, gf0, gl0, rfl⟩ := open_geo (hval 0 33 v0 rfl rfl) h0
  clear hA0 hval0
  refine (bnd_law gp0 gf0 gl0 W ).mono fun e W' ⟨he, hk⟩ => ?_
  have bel : Below W.heap.size W W' := hk.below (Nat.le_refl _) (fun _ _ => id)
  subst he
  exact ⟨_, rfl, _, _, _, [], _, [], hW', trodAll_mk1 (shut_bool Try.underlying4 _), (trodAll_cons_mk (Below.trod laidOut (by kernel_rfl) (of_decide_eq_true (by kernel_rfl)) k0 bel lt0) trodAll_mk0), rfl, bel.frame _, fun h => by cases h⟩
theorem over : Rows.fnExactRestartBoundRow.holds Try.pinned (OpenSpec.ofChange Rows.fnExactRestartBoundSpec) :=
  OpenClaim.holds_of_wide 4 Try.f4 rfl rfl rfl rfl rfl rfl rfl ⟨rfl, rfl, rfl, rfl, rfl⟩ rfl rfl rfl rfl rfl (by kernel_rfl) Try.func4 (by kernel_rfl)
    (of_decide_eq_true (by kernel_rfl)) (by unfold Func.isWrapper; first | (rw [if_pos (by decide +kernel)]; kernel_rfl) | (rw [if_neg (by decide +kernel)]; exact ⟨rfl, rfl⟩))
    (fun os started H enc _ => lifted os started H enc)
end Go.Proofs.Ythaeebfalapolaa.fnExactRestartBound
namespace Go.Proofs.Ythaeebfalapolaa
theorem restartBound_proved : Rows.FnExactRestartBoundSaid := fnExactRestartBound.over
#print axioms restartBound_proved
end Go.Proofs.Ythaeebfalapolaa
