import Derived.Test.YtmpfpgelaipmnaaG00
import Derived.Test.YtmpfpgelaipmnaaVariad
namespace Go.Proofs.Ytmpfpgelaipmnaa
set_option maxRecDepth 100000
set_option maxHeartbeats 4000000
set_option linter.unusedVariables false
set_option linter.unusedSimpArgs false
open Go.RowKit
def minLog (p : Int) : Int := if inB p 1 16 = true then 9 * p + 24 else -1
def ckSize (p : Int) : Int := if inB p 1 16 = true then 240 + 10 * p else -1
def geoF (p f l : Int) : Int := if inB p 1 16 = false then 1 else if inB f 3 16 = false then 2 else if inB l (minLog p) 800 = false then 3 else 0
def freeL (p f l en lo im re : Int) : Int :=
 if geoF p f l ≠ 0 ∨ inB en 0 1099511627776 = false ∨ inB lo 0 1099511627776 = false ∨ inB im 0 1099511627776 = false ∨ inB re 0 1099511627776 = false then -1 else l * 512 - 512 - (en - lo) - (p - im) * 4131 - ckSize p - re
theorem inB_yes {v a b : Int} (h : inB v a b = true) : a ≤ v ∧ v ≤ b := by simpa [inB] using h
theorem specMinLog_any (p : Int) (w : World) : Calls Try.prog 9 #[.int .i64 p] w fun e w' => e = .returned (.int .i64 (minLog p)) ∧ Same w w' := by
 have k1 := fun wx => l4In_any p 1 16 wx
 unfold minLog
 cases h : inB p 1 16 with
 | false =>
  rw [h] at k1
  go_enter Try.func9, Try.ntmps9
  go_wp2_with fail
  refine (k1 _).mono ?_
  rintro e w1 ⟨rfl, hk1⟩
  go_wp2
  go_ret
  exact ⟨rfl, hk1⟩
 | true =>
  rw [h] at k1
  obtain ⟨h1, h2⟩ := inB_yes h
  have hw1 : IntKind.i64.wrap (9 * p) = 9 * p := by rw [IntKind.wrap_i64]; omega
  have hw2 : IntKind.i64.wrap (9 * p + 24) = 9 * p + 24 := by rw [IntKind.wrap_i64]; omega
  go_enter Try.func9, Try.ntmps9
  go_wp2_with fail
  refine (k1 _).mono ?_
  rintro e w1 ⟨rfl, hk1⟩
  go_wp2
  go_ret
  exact ⟨by first | rfl | trivial, hk1⟩
theorem specCkSize_any (p : Int) (w : World) : Calls Try.prog 14 #[.int .i64 p] w fun e w' => e = .returned (.int .i64 (ckSize p)) ∧ Same w w' := by
 have k1 := fun wx => l4In_any p 1 16 wx
 unfold ckSize
 cases h : inB p 1 16 with
 | false =>
  rw [h] at k1
  go_enter Try.func14, Try.ntmps14
  go_wp2_with fail
  refine (k1 _).mono ?_
  rintro e w1 ⟨rfl, hk1⟩
  go_wp2
  go_ret
  exact ⟨rfl, hk1⟩
 | true =>
  rw [h] at k1
  obtain ⟨h1, h2⟩ := inB_yes h
  have hw1 : IntKind.i64.wrap (10 * p) = 10 * p := by rw [IntKind.wrap_i64]; omega
  have hw2 : IntKind.i64.wrap (240 + 10 * p) = 240 + 10 * p := by rw [IntKind.wrap_i64]; omega
  go_enter Try.func14, Try.ntmps14
  go_wp2_with fail
  refine (k1 _).mono ?_
  rintro e w1 ⟨rfl, hk1⟩
  go_wp2
  go_ret
  exact ⟨by first | rfl | trivial, hk1⟩
theorem specGeo_any (p f l : Int) (w : World) : Calls Try.prog 11 #[.agg #[.int .i64 p, .int .i64 f, .int .i64 l]] w fun e w' => e = .returned (.int .i64 (geoF p f l)) ∧ Same w w' := by
 have HK0 := hid (sameA w [.int .i64 p, .int .i64 f, .int .i64 l] 27)
 have b0 := Blk.newL w [.int .i64 p, .int .i64 f, .int .i64 l] 27
 have k1 := fun wx => l4In_any p 1 16 wx
 have k2 := fun wx => l4In_any f 3 16 wx
 have k3 := fun wx => specMinLog_any p wx
 have k4 := fun wx => l4In_any l (minLog p) 800 wx
 unfold geoF
 generalize minLog p = ml at k3 k4 ⊢
 cases h1 : inB p 1 16 with
 | false =>
  rw [h1] at k1
  go_enter Try.func11, Try.ntmps11
  go_wp2_with fail
  refine (k1 _).mono ?_
  rintro e w1 ⟨rfl, hk1⟩
  go_wp2
  go_ret
  exact ⟨rfl, HK0.out.trans hk1⟩
 | true =>
  rw [h1] at k1
  go_enter Try.func11, Try.ntmps11
  go_wp2_with fail
  refine (k1 _).mono ?_
  rintro e w1 ⟨rfl, hk1⟩
  have b1 := b0.same hk1
  have HK1 := hid (HK0.out.trans hk1)
  obtain ⟨c0, c1, c2⟩ := b1.all3
  clear hk1
  cases h2 : inB f 3 16 with
  | false =>
   rw [h2] at k2
   go_wp2_with fail
   refine (k2 _).mono ?_
   rintro e w2 ⟨rfl, hk2⟩
   have HK2 := hid (HK1.out.trans hk2)
   go_wp2
   go_ret
   exact ⟨rfl, HK2.out⟩
  | true =>
   rw [h2] at k2
   go_wp2_with fail
   refine (k2 _).mono ?_
   rintro e w2 ⟨rfl, hk2⟩
   have b2 := b1.same hk2
   have HK2 := hid (HK1.out.trans hk2)
   obtain ⟨d0, d1, d2⟩ := b2.all3
   clear hk2
   let Y1 : World → Prop := fun wx : World => wx.cell? ⟨w.heap.size, 0, none⟩ = some (.int .i64 p) ∧ wx.cell? ⟨w.heap.size, 2, none⟩ = some (.int .i64 l)
   have hS : Y1 w2.drew := ⟨d0, d2⟩
   go_wp2_with fail
   refine wp_region_V Y1 99 7 rfl (by kernel_rfl) ?_
   refine tk 0 11 hS ?_
   refine tk 1 12 hS ?_
   refine tk 2 13 hS ?_
   refine tk 3 14 hS ?_
   refine wpAnyV_one (i := 4) (by kernel_rfl) rfl (fun K hK => ?_)
   go_simp
   refine (k3 _).mono ?_
   rintro e w3 ⟨rfl, hk3⟩
   have HK23 : Hid (Same w2 w3) := (Kept.refl _ _).drew.trans hk3
   have HK3 := hid (HK2.out.trans HK23.out)
   have hS : Y1 w3 := ⟨HK23.out.cellOf d0 id, HK23.out.cellOf d2 id⟩
   go_wp2_with fail
   refine hK.out _ _ (fun _ => hS) ?_
   clear hK K hk3
   try simp only [Act.put, sA, s0, sS]
   refine wpAnyV_one (i := 5) (by kernel_rfl) rfl (fun K hK => ?_)
   go_simp
   refine (k4 _).mono ?_
   rintro e w4 ⟨rfl, hk4⟩
   have HK4 := hid (HK3.out.trans hk4)
   have hS : Y1 w4 := ⟨hk4.cellOf hS.1 id, hk4.cellOf hS.2 id⟩
   go_wp2_with fail
   refine hK.out _ _ (fun _ => hS) ?_
   clear hK K hk4
   try simp only [Act.put, sA, s0, sS]
   refine tk 6 17 hS ?_
   refine wpAnyV_done (by kernel_rfl) ?_
   cases h3 : inB l ml 800 with
   | false =>
    go_wp2
    go_ret
    exact ⟨rfl, HK4.out⟩
   | true =>
    go_wp2
    go_ret
    exact ⟨rfl, HK4.out⟩
theorem specFree_any (p f l en lo im re : Int) (w : World) : Calls Try.prog 16 #[.agg #[.int .i64 p, .int .i64 f, .int .i64 l], .int .i64 en, .int .i64 lo, .int .i64 im, .int .i64 re] w fun e w' => e = .returned (.int .i64 (freeL p f l en lo im re)) ∧ Same w w' := by
 have HK0 := hid (sameA w [.int .i64 p, .int .i64 f, .int .i64 l] 27)
 have b0 := Blk.newL w [.int .i64 p, .int .i64 f, .int .i64 l] 27
 have k0 := fun wx => specGeo_any p f l wx
 have k1 := fun wx => l4In_any en 0 1099511627776 wx
 have k2 := fun wx => l4In_any lo 0 1099511627776 wx
 have k3 := fun wx => l4In_any im 0 1099511627776 wx
 have k4 := fun wx => l4In_any re 0 1099511627776 wx
 have k5 := fun wx => specCkSize_any p wx
 obtain ⟨R, hR⟩ : ∃ R, freeL p f l en lo im re = R := ⟨_, rfl⟩
 rw [hR]
 unfold freeL at hR
 obtain ⟨q, hq⟩ : ∃ q, geoF p f l = q := ⟨_, rfl⟩
 rw [hq] at k0 hR
 by_cases h0 : q = 0
 case neg =>
  rw [if_pos (.inl h0)] at hR
  subst hR
  clear hq
  go_enter Try.func16, Try.ntmps16
  go_wp2_with fail
  refine (k0 _).mono ?_
  rintro e w1 ⟨rfl, hk1⟩
  go_wp2
  go_ret
  exact ⟨rfl, HK0.out.trans hk1⟩
 subst h0
 have hgp : inB p 1 16 = true ∧ inB l (minLog p) 800 = true := by
  unfold geoF at hq
  cases h1 : inB p 1 16 with
  | false => rw [h1, if_pos rfl] at hq; cases hq
  | true =>
   rw [h1, if_neg (by simp)] at hq
   cases h2 : inB f 3 16 with
   | false => rw [h2, if_pos rfl] at hq; cases hq
   | true =>
    rw [h2, if_neg (by simp)] at hq
    cases h3 : inB l (minLog p) 800 with
    | false => rw [h3, if_pos rfl] at hq; cases hq
    | true => exact ⟨rfl, rfl⟩
 obtain ⟨hp1, hp2⟩ := inB_yes hgp.1
 have hck : ckSize p = 240 + 10 * p := if_pos hgp.1
 have hml : minLog p = 9 * p + 24 := if_pos hgp.1
 obtain ⟨hl1, hl2⟩ := inB_yes hgp.2
 rw [hml] at hl1
 rw [hck] at k5 hR
 clear hgp hq hck hml
 cases f0 : inB en 0 1099511627776 with
 | false =>
  rw [f0] at k1 hR
  rw [if_pos (by simp)] at hR
  subst hR
  go_enter Try.func16, Try.ntmps16
  go_wp2_with (first
   | (go_at_call 11; (with_reducible refine (k0 _).mono ?_); rintro e w1 ⟨rfl, hk1⟩; have HK1 := hid (HK0.out.trans hk1); have HB1 := hid (b0.same hk1); clear hk1 k0)
   | (go_at_call 27; (with_reducible refine (k1 _).mono ?_); rintro e wx0 ⟨rfl, hk⟩; have HKx0 := hid (HK1.out.trans hk); have HBx0 := hid (HB1.out.same hk); clear hk k1))
  go_ret
  exact ⟨rfl, HKx0.out⟩
 | true =>
 rw [f0] at k1 hR
 cases f1 : inB lo 0 1099511627776 with
 | false =>
  rw [f1] at k2 hR
  rw [if_pos (by simp)] at hR
  subst hR
  go_enter Try.func16, Try.ntmps16
  go_wp2_with (first
   | (go_at_call 11; (with_reducible refine (k0 _).mono ?_); rintro e w1 ⟨rfl, hk1⟩; have HK1 := hid (HK0.out.trans hk1); have HB1 := hid (b0.same hk1); clear hk1 k0)
   | (go_at_call 27; (with_reducible refine (k1 _).mono ?_); rintro e wx0 ⟨rfl, hk⟩; have HKx0 := hid (HK1.out.trans hk); have HBx0 := hid (HB1.out.same hk); clear hk k1)
   | (go_at_call 27; (with_reducible refine (k2 _).mono ?_); rintro e wx1 ⟨rfl, hk⟩; have HKx1 := hid (HKx0.out.trans hk); have HBx1 := hid (HBx0.out.same hk); clear hk k2))
  go_ret
  exact ⟨rfl, HKx1.out⟩
 | true =>
 rw [f1] at k2 hR
 cases f2 : inB im 0 1099511627776 with
 | false =>
  rw [f2] at k3 hR
  rw [if_pos (by simp)] at hR
  subst hR
  go_enter Try.func16, Try.ntmps16
  go_wp2_with (first
   | (go_at_call 11; (with_reducible refine (k0 _).mono ?_); rintro e w1 ⟨rfl, hk1⟩; have HK1 := hid (HK0.out.trans hk1); have HB1 := hid (b0.same hk1); clear hk1 k0)
   | (go_at_call 27; (with_reducible refine (k1 _).mono ?_); rintro e wx0 ⟨rfl, hk⟩; have HKx0 := hid (HK1.out.trans hk); have HBx0 := hid (HB1.out.same hk); clear hk k1)
   | (go_at_call 27; (with_reducible refine (k2 _).mono ?_); rintro e wx1 ⟨rfl, hk⟩; have HKx1 := hid (HKx0.out.trans hk); have HBx1 := hid (HBx0.out.same hk); clear hk k2)
   | (go_at_call 27; (with_reducible refine (k3 _).mono ?_); rintro e wx2 ⟨rfl, hk⟩; have HKx2 := hid (HKx1.out.trans hk); have HBx2 := hid (HBx1.out.same hk); clear hk k3))
  go_ret
  exact ⟨rfl, HKx2.out⟩
 | true =>
 rw [f2] at k3 hR
 cases f3 : inB re 0 1099511627776 with
 | false =>
  rw [f3] at k4 hR
  rw [if_pos (by simp)] at hR
  subst hR
  go_enter Try.func16, Try.ntmps16
  go_wp2_with (first
   | (go_at_call 11; (with_reducible refine (k0 _).mono ?_); rintro e w1 ⟨rfl, hk1⟩; have HK1 := hid (HK0.out.trans hk1); have HB1 := hid (b0.same hk1); clear hk1 k0)
   | (go_at_call 27; (with_reducible refine (k1 _).mono ?_); rintro e wx0 ⟨rfl, hk⟩; have HKx0 := hid (HK1.out.trans hk); have HBx0 := hid (HB1.out.same hk); clear hk k1)
   | (go_at_call 27; (with_reducible refine (k2 _).mono ?_); rintro e wx1 ⟨rfl, hk⟩; have HKx1 := hid (HKx0.out.trans hk); have HBx1 := hid (HBx0.out.same hk); clear hk k2)
   | (go_at_call 27; (with_reducible refine (k3 _).mono ?_); rintro e wx2 ⟨rfl, hk⟩; have HKx2 := hid (HKx1.out.trans hk); have HBx2 := hid (HBx1.out.same hk); clear hk k3)
   | (go_at_call 27; (with_reducible refine (k4 _).mono ?_); rintro e wx3 ⟨rfl, hk⟩; have HKx3 := hid (HKx2.out.trans hk); have HBx3 := hid (HBx2.out.same hk); clear hk k4))
  go_ret
  exact ⟨rfl, HKx3.out⟩
 | true =>
 rw [f3] at k4 hR
 rw [if_neg (by simp)] at hR
 obtain ⟨e1, e2⟩ := inB_yes f0
 obtain ⟨e3, e4⟩ := inB_yes f1
 obtain ⟨e5, e6⟩ := inB_yes f2
 obtain ⟨e7, e8⟩ := inB_yes f3
 have HR := hid hR
 clear hR f0 f1 f2 f3
 have q1 : IntKind.i64.wrap (l * 512) = l * 512 := by rw [IntKind.wrap_i64]; omega
 have q2 : IntKind.i64.wrap (l * 512 - 512) = l * 512 - 512 := by rw [IntKind.wrap_i64]; omega
 have q3 : IntKind.i64.wrap (en - lo) = en - lo := by rw [IntKind.wrap_i64]; omega
 have q4 : IntKind.i64.wrap (l * 512 - 512 - (en - lo)) = l * 512 - 512 - (en - lo) := by rw [IntKind.wrap_i64]; omega
 have q5 : IntKind.i64.wrap (p - im) = p - im := by rw [IntKind.wrap_i64]; omega
 have q6 : IntKind.i64.wrap ((p - im) * 4131) = (p - im) * 4131 := by rw [IntKind.wrap_i64]; omega
 have q7 : IntKind.i64.wrap (l * 512 - 512 - (en - lo) - (p - im) * 4131) = l * 512 - 512 - (en - lo) - (p - im) * 4131 := by rw [IntKind.wrap_i64]; omega
 have q8 : IntKind.i64.wrap (l * 512 - 512 - (en - lo) - (p - im) * 4131 - (240 + 10 * p)) = l * 512 - 512 - (en - lo) - (p - im) * 4131 - (240 + 10 * p) := by rw [IntKind.wrap_i64]; omega
 have q9 : IntKind.i64.wrap (l * 512 - 512 - (en - lo) - (p - im) * 4131 - (240 + 10 * p) - re) = l * 512 - 512 - (en - lo) - (p - im) * 4131 - (240 + 10 * p) - re := by rw [IntKind.wrap_i64]; omega
 go_enter Try.func16, Try.ntmps16
 go_wp2_with (first
  | (go_at_call 11; (with_reducible refine (k0 _).mono ?_); rintro e w1 ⟨rfl, hk1⟩; have HK1 := hid (HK0.out.trans hk1); have HB1 := hid (b0.same hk1); clear hk1 k0)
  | (go_at_call 27; (with_reducible refine (k1 _).mono ?_); rintro e wx0 ⟨rfl, hk⟩; have HKx0 := hid (HK1.out.trans hk); have HBx0 := hid (HB1.out.same hk); clear hk k1)
  | (go_at_call 27; (with_reducible refine (k2 _).mono ?_); rintro e wx1 ⟨rfl, hk⟩; have HKx1 := hid (HKx0.out.trans hk); have HBx1 := hid (HBx0.out.same hk); clear hk k2)
  | (go_at_call 27; (with_reducible refine (k3 _).mono ?_); rintro e wx2 ⟨rfl, hk⟩; have HKx2 := hid (HKx1.out.trans hk); have HBx2 := hid (HBx1.out.same hk); clear hk k3)
  | (go_at_call 27; (with_reducible refine (k4 _).mono ?_); rintro e wx3 ⟨rfl, hk⟩; have HKx3 := hid (HKx2.out.trans hk); have HBx3 := hid (HBx2.out.same hk); clear hk k4))
 obtain ⟨c0, c1, c2⟩ := HBx3.out.all3
 let Y1 : World → Prop := fun wx : World => wx.cell? ⟨w.heap.size, 0, none⟩ = some (.int .i64 p) ∧ wx.cell? ⟨w.heap.size, 2, none⟩ = some (.int .i64 l)
 have hS : Y1 wx3.drew := ⟨c0, c2⟩
 refine wp_region_V Y1 20 21 rfl (by kernel_rfl) ?_
 refine tk 0 34 hS ?_
 refine tk 1 35 hS ?_
 refine tk 2 36 hS ?_
 refine tk 3 37 hS ?_
 refine tk 4 38 hS ?_
 refine tk 5 39 hS ?_
 refine tk 6 40 hS ?_
 refine tk 7 41 hS ?_
 refine tk 8 42 hS ?_
 refine tk 9 43 hS ?_
 refine tk 10 44 hS ?_
 refine tk 11 45 hS ?_
 refine tk 12 46 hS ?_
 refine tk 13 47 hS ?_
 refine tk 14 48 hS ?_
 refine tk 15 49 hS ?_
 refine tk 18 52 hS ?_
 refine wpAnyV_one (i := 16) (by kernel_rfl) rfl (fun K hK => ?_)
 go_simp
 refine (k5 _).mono ?_
 rintro e w5 ⟨rfl, hk5⟩
 have HK35 : Hid (Same wx3 w5) := (Kept.refl _ _).drew.trans hk5
 have HK5 := hid (HKx3.out.trans HK35.out)
 have hS : Y1 w5 := ⟨HK35.out.cellOf c0 id, HK35.out.cellOf c2 id⟩
 go_wp2_with fail
 refine hK.out _ _ (fun _ => hS) ?_
 clear hK K hk5
 try simp only [Act.put, sA, s0, sS]
 refine tk 17 51 hS ?_
 refine tk 19 53 hS ?_
 refine wpAnyV_one (i := 20) (by kernel_rfl) rfl (fun K hK => ?_)
 go_simp
 refine hK.out _ _ (fun h => absurd rfl h) ?_
 clear hK K
 refine wpAnyV_done (by kernel_rfl) ?_
 try simp only [Act.put, sA, s0, sS]
 go_wp2
 go_ret
 exact ⟨by rw [← HR.out]; first | rfl | trivial, HK5.out⟩
theorem pageCount_any (x : Int) (w : World) : Calls Try.prog 28 #[.int .i64 x] w fun e w' => e = .returned (.bool (inB x 1 16)) ∧ w' = w := by
 unfold inB
 by_cases h : 1 ≤ x
 ·by_cases h2 : x ≤ 16
  ·go_enter Try.func28, Try.ntmps28
   go_wp2
   go_ret
   exact ⟨by simp [h, h2], rfl⟩
  ·go_enter Try.func28, Try.ntmps28
   go_wp2
   go_ret
   exact ⟨by simp [h]; try omega, rfl⟩
 ·go_enter Try.func28, Try.ntmps28
  go_wp2
  go_ret
  exact ⟨by rw [show decide (1 ≤ x) = false from by simp; omega]; rfl, rfl⟩
theorem lsn9_any (x : Int) (w : World) : Calls Try.prog 29 #[.int .i64 x] w fun e w' => e = .returned (.bool (inB x 0 1099511627776)) ∧ w' = w := by
 unfold inB
 by_cases h : 0 ≤ x
 ·by_cases h2 : x ≤ 1099511627776
  ·go_enter Try.func29, Try.ntmps29
   go_wp2
   go_ret
   exact ⟨by simp [h, h2], rfl⟩
  ·go_enter Try.func29, Try.ntmps29
   go_wp2
   go_ret
   exact ⟨by simp [h]; try omega, rfl⟩
 ·go_enter Try.func29, Try.ntmps29
  go_wp2
  go_ret
  exact ⟨by rw [show decide (0 ≤ x) = false from by simp; omega]; rfl, rfl⟩
theorem implMinLog_any (p : Int) (w : World) : Calls Try.prog 10 #[.int .i64 p] w fun e w' => e = .returned (.int .i64 (minLog p)) ∧ Same w w' := by
 have k1 := fun wx => pageCount_any p wx
 unfold minLog
 cases h : inB p 1 16 with
 | false =>
  rw [h] at k1
  go_enter Try.func10, Try.ntmps10
  go_wp2_with fail
  refine (k1 _).mono ?_
  rintro e w1 ⟨rfl, rfl⟩
  go_wp2
  go_ret
  exact ⟨rfl, Kept.refl _ _⟩
 | true =>
  rw [h] at k1
  obtain ⟨h1, h2⟩ := inB_yes h
  have hw1 : IntKind.i64.wrap (9 * p) = 9 * p := by rw [IntKind.wrap_i64]; omega
  have hw2 : IntKind.i64.wrap (9 * p + 24) = 9 * p + 24 := by rw [IntKind.wrap_i64]; omega
  go_enter Try.func10, Try.ntmps10
  go_wp2_with fail
  refine (k1 _).mono ?_
  rintro e w1 ⟨rfl, rfl⟩
  go_wp2
  go_ret
  exact ⟨by first | rfl | trivial, Kept.refl _ _⟩
theorem implCkSize_any (p : Int) (w : World) : Calls Try.prog 15 #[.int .i64 p] w fun e w' => e = .returned (.int .i64 (ckSize p)) ∧ Same w w' := by
 have k1 := fun wx => pageCount_any p wx
 unfold ckSize
 cases h : inB p 1 16 with
 | false =>
  rw [h] at k1
  go_enter Try.func15, Try.ntmps15
  go_wp2_with fail
  refine (k1 _).mono ?_
  rintro e w1 ⟨rfl, rfl⟩
  go_wp2
  go_ret
  exact ⟨rfl, Kept.refl _ _⟩
 | true =>
  rw [h] at k1
  obtain ⟨h1, h2⟩ := inB_yes h
  have hw1 : IntKind.i64.wrap (10 * p) = 10 * p := by rw [IntKind.wrap_i64]; omega
  have hw2 : IntKind.i64.wrap (240 + 10 * p) = 240 + 10 * p := by rw [IntKind.wrap_i64]; omega
  go_enter Try.func15, Try.ntmps15
  go_wp2_with fail
  refine (k1 _).mono ?_
  rintro e w1 ⟨rfl, rfl⟩
  go_wp2
  go_ret
  exact ⟨by first | rfl | trivial, Kept.refl _ _⟩
theorem implGeo_any (p f l : Int) (w : World) : Calls Try.prog 13 #[.agg #[.int .i64 p, .int .i64 f, .int .i64 l]] w fun e w' => e = .returned (.int .i64 (geoF p f l)) ∧ Same w w' := by
 have HK0 := hid (sameA w [.int .i64 p, .int .i64 f, .int .i64 l] 27)
 have b0 := Blk.newL w [.int .i64 p, .int .i64 f, .int .i64 l] 27
 have k1 := fun wx => pageCount_any p wx
 have k3 := fun wx => implMinLog_any p wx
 obtain ⟨R, hR⟩ : ∃ R, geoF p f l = R := ⟨_, rfl⟩
 rw [hR]
 unfold geoF at hR
 generalize minLog p = ml at k3 hR
 cases h1 : inB p 1 16 with
 | false =>
  rw [h1] at k1 hR
  rw [if_pos rfl] at hR
  subst hR
  go_enter Try.func13, Try.ntmps13
  go_wp2_with fail
  refine (k1 _).mono ?_
  rintro e w1 ⟨rfl, rfl⟩
  go_wp2
  go_ret
  exact ⟨rfl, HK0.out⟩
 | true =>
  rw [h1] at k1 hR
  rw [if_neg (by simp)] at hR
  obtain ⟨c0, c1, c2⟩ := b0.all3
  by_cases h2 : f < 3
  ·rw [if_pos (by simp [inB]; omega)] at hR
   subst hR
   go_enter Try.func13, Try.ntmps13
   go_wp2_with fail
   refine (k1 _).mono ?_
   rintro e w1 ⟨rfl, rfl⟩
   go_wp2
   go_ret
   exact ⟨rfl, HK0.out⟩
  by_cases h3 : 16 < f
  ·rw [if_pos (by simp [inB]; omega)] at hR
   subst hR
   go_enter Try.func13, Try.ntmps13
   go_wp2_with fail
   refine (k1 _).mono ?_
   rintro e w1 ⟨rfl, rfl⟩
   go_wp2
   go_ret
   exact ⟨rfl, HK0.out⟩
  rw [if_neg (by simp [inB]; omega)] at hR
  go_enter Try.func13, Try.ntmps13
  go_wp2_with fail
  refine (k1 _).mono ?_
  rintro e w1 ⟨rfl, rfl⟩
  generalize w.alloc (.cells #[.int .i64 p, .int .i64 f, .int .i64 l] 27) = wa at c0 c1 c2 HK0 ⊢
  clear b0
  go_wp2_with fail
  let Y1 : World → Prop := fun wx : World => wx.cell? ⟨w.heap.size, 0, none⟩ = some (.int .i64 p) ∧ wx.cell? ⟨w.heap.size, 2, none⟩ = some (.int .i64 l)
  have hS : Y1 wa.drew := ⟨c0, c2⟩
  refine wp_region_V Y1 99 12 rfl (by kernel_rfl) ?_
  refine tk 0 18 hS ?_
  refine tk 1 19 hS ?_
  refine tk 2 20 hS ?_
  refine tk 3 21 hS ?_
  refine wpAnyV_one (i := 4) (by kernel_rfl) rfl (fun K hK => ?_)
  go_simp
  refine (k3 _).mono ?_
  rintro e w3 ⟨rfl, hk3⟩
  have HK23 : Hid (Same wa w3) := (Kept.refl _ _).drew.trans hk3
  have HK3 := hid (HK0.out.trans HK23.out)
  have hS : Y1 w3 := ⟨HK23.out.cellOf c0 id, HK23.out.cellOf c2 id⟩
  refine hK.out _ _ (fun _ => hS) ?_
  clear hK K hk3
  try simp only [Act.put, sA, s0, sS]
  by_cases h4 : l < ml
  ·rw [if_pos (by simp [inB]; omega)] at hR
   subst hR
   refine tkV 5 23 (.bool true) hS ?_
   refine tk 6 24 hS ?_
   refine tkS 7 25 hS ?_
   refine tkS 8 26 hS ?_
   refine tkS 9 27 hS ?_
   refine tk 10 28 hS ?_
   refine tk 11 17 hS ?_
   refine wpAnyV_done (by kernel_rfl) ?_
   go_wp2
   go_ret
   exact ⟨rfl, HK3.out⟩
  ·by_cases h5 : 800 < l
   ·rw [if_pos (by simp [inB]; omega)] at hR
    subst hR
    refine tkV 5 23 (.bool false) hS ?_
    refine tk 6 24 hS ?_
    refine tk 7 25 hS ?_
    refine tk 8 26 hS ?_
    refine tkV 9 27 (.bool true) hS ?_
    refine tk 10 28 hS ?_
    refine tk 11 17 hS ?_
    refine wpAnyV_done (by kernel_rfl) ?_
    go_wp2
    go_ret
    exact ⟨rfl, HK3.out⟩
   ·rw [if_neg (by simp [inB]; omega)] at hR
    subst hR
    refine tkV 5 23 (.bool false) hS ?_
    refine tk 6 24 hS ?_
    refine tk 7 25 hS ?_
    refine tk 8 26 hS ?_
    refine tkV 9 27 (.bool false) hS ?_
    refine tk 10 28 hS ?_
    refine tk 11 17 hS ?_
    refine wpAnyV_done (by kernel_rfl) ?_
    go_wp2
    go_ret
    exact ⟨rfl, HK3.out⟩
theorem implFree_any (p f l en lo im re : Int) (w : World) : Calls Try.prog 17 #[.agg #[.int .i64 p, .int .i64 f, .int .i64 l], .int .i64 en, .int .i64 lo, .int .i64 im, .int .i64 re] w fun e w' => e = .returned (.int .i64 (freeL p f l en lo im re)) ∧ Same w w' := by
 have HK0 := hid (sameA w [.int .i64 p, .int .i64 f, .int .i64 l] 27)
 have b0 := Blk.newL w [.int .i64 p, .int .i64 f, .int .i64 l] 27
 have k0 := fun wx => implGeo_any p f l wx
 have k1 := fun wx => lsn9_any en wx
 have k2 := fun wx => lsn9_any lo wx
 have k3 := fun wx => lsn9_any im wx
 have k4 := fun wx => lsn9_any re wx
 have k5 := fun wx => implCkSize_any p wx
 obtain ⟨c0, c1, c2⟩ := b0.all3
 obtain ⟨R, hR⟩ : ∃ R, freeL p f l en lo im re = R := ⟨_, rfl⟩
 rw [hR]
 unfold freeL at hR
 obtain ⟨q, hq⟩ : ∃ q, geoF p f l = q := ⟨_, rfl⟩
 rw [hq] at k0 hR
 by_cases h0 : q = 0
 case neg =>
  rw [if_pos (.inl h0)] at hR
  subst hR
  clear hq
  go_enter Try.func17, Try.ntmps17
  go_wp2_with fail
  refine (k0 _).mono ?_
  rintro e w1 ⟨rfl, hk1⟩
  go_wp2
  go_ret
  exact ⟨rfl, HK0.out.trans hk1⟩
 subst h0
 have hgp : inB p 1 16 = true ∧ inB l (minLog p) 800 = true := by
  unfold geoF at hq
  cases h1 : inB p 1 16 with
  | false => rw [h1, if_pos rfl] at hq; cases hq
  | true =>
   rw [h1, if_neg (by simp)] at hq
   cases h2 : inB f 3 16 with
   | false => rw [h2, if_pos rfl] at hq; cases hq
   | true =>
    rw [h2, if_neg (by simp)] at hq
    cases h3 : inB l (minLog p) 800 with
    | false => rw [h3, if_pos rfl] at hq; cases hq
    | true => exact ⟨rfl, rfl⟩
 obtain ⟨hp1, hp2⟩ := inB_yes hgp.1
 have hck : ckSize p = 240 + 10 * p := if_pos hgp.1
 have hml : minLog p = 9 * p + 24 := if_pos hgp.1
 obtain ⟨hl1, hl2⟩ := inB_yes hgp.2
 rw [hml] at hl1
 rw [hck] at k5 hR
 clear hgp hq hck hml
 cases f0 : inB en 0 1099511627776 with
 | false =>
  rw [f0] at k1 hR
  rw [if_pos (by simp)] at hR
  subst hR
  go_enter Try.func17, Try.ntmps17
  go_wp2_with (first
  | (go_at_call 13; (with_reducible refine (k0 _).mono ?_); rintro e w1 ⟨rfl, hk1⟩; have HK1 := hid (HK0.out.trans hk1); have HC := hid (And.intro (hk1.cellOf c0 id) (hk1.cellOf c2 id)); clear hk1 k0)
  | (go_at_call 29; (with_reducible refine (k1 _).mono ?_); rintro e wx0 ⟨rfl, rfl⟩; clear k1))
  go_ret
  exact ⟨rfl, HK1.out⟩
 | true =>
 rw [f0] at k1 hR
 cases f1 : inB lo 0 1099511627776 with
 | false =>
  rw [f1] at k2 hR
  rw [if_pos (by simp)] at hR
  subst hR
  go_enter Try.func17, Try.ntmps17
  go_wp2_with (first
  | (go_at_call 13; (with_reducible refine (k0 _).mono ?_); rintro e w1 ⟨rfl, hk1⟩; have HK1 := hid (HK0.out.trans hk1); have HC := hid (And.intro (hk1.cellOf c0 id) (hk1.cellOf c2 id)); clear hk1 k0)
  | (go_at_call 29; (with_reducible refine (k1 _).mono ?_); rintro e wx0 ⟨rfl, rfl⟩; clear k1)
  | (go_at_call 29; (with_reducible refine (k2 _).mono ?_); rintro e wx1 ⟨rfl, rfl⟩; clear k2))
  go_ret
  exact ⟨rfl, HK1.out⟩
 | true =>
 rw [f1] at k2 hR
 cases f2 : inB im 0 1099511627776 with
 | false =>
  rw [f2] at k3 hR
  rw [if_pos (by simp)] at hR
  subst hR
  go_enter Try.func17, Try.ntmps17
  go_wp2_with (first
  | (go_at_call 13; (with_reducible refine (k0 _).mono ?_); rintro e w1 ⟨rfl, hk1⟩; have HK1 := hid (HK0.out.trans hk1); have HC := hid (And.intro (hk1.cellOf c0 id) (hk1.cellOf c2 id)); clear hk1 k0)
  | (go_at_call 29; (with_reducible refine (k1 _).mono ?_); rintro e wx0 ⟨rfl, rfl⟩; clear k1)
  | (go_at_call 29; (with_reducible refine (k2 _).mono ?_); rintro e wx1 ⟨rfl, rfl⟩; clear k2)
  | (go_at_call 29; (with_reducible refine (k3 _).mono ?_); rintro e wx2 ⟨rfl, rfl⟩; clear k3))
  go_ret
  exact ⟨rfl, HK1.out⟩
 | true =>
 rw [f2] at k3 hR
 cases f3 : inB re 0 1099511627776 with
 | false =>
  rw [f3] at k4 hR
  rw [if_pos (by simp)] at hR
  subst hR
  go_enter Try.func17, Try.ntmps17
  go_wp2_with (first
  | (go_at_call 13; (with_reducible refine (k0 _).mono ?_); rintro e w1 ⟨rfl, hk1⟩; have HK1 := hid (HK0.out.trans hk1); have HC := hid (And.intro (hk1.cellOf c0 id) (hk1.cellOf c2 id)); clear hk1 k0)
  | (go_at_call 29; (with_reducible refine (k1 _).mono ?_); rintro e wx0 ⟨rfl, rfl⟩; clear k1)
  | (go_at_call 29; (with_reducible refine (k2 _).mono ?_); rintro e wx1 ⟨rfl, rfl⟩; clear k2)
  | (go_at_call 29; (with_reducible refine (k3 _).mono ?_); rintro e wx2 ⟨rfl, rfl⟩; clear k3)
  | (go_at_call 29; (with_reducible refine (k4 _).mono ?_); rintro e wx3 ⟨rfl, rfl⟩; clear k4))
  go_ret
  exact ⟨rfl, HK1.out⟩
 | true =>
 rw [f3] at k4 hR
 rw [if_neg (by simp)] at hR
 obtain ⟨e1, e2⟩ := inB_yes f0
 obtain ⟨e3, e4⟩ := inB_yes f1
 obtain ⟨e5, e6⟩ := inB_yes f2
 obtain ⟨e7, e8⟩ := inB_yes f3
 have HR := hid hR
 clear hR f0 f1 f2 f3
 have q1 : IntKind.i64.wrap (l * 512) = l * 512 := by rw [IntKind.wrap_i64]; omega
 have q3 : IntKind.i64.wrap (en - lo) = en - lo := by rw [IntKind.wrap_i64]; omega
 have q5 : IntKind.i64.wrap (p - im) = p - im := by rw [IntKind.wrap_i64]; omega
 have q6 : IntKind.i64.wrap ((p - im) * 4131) = (p - im) * 4131 := by rw [IntKind.wrap_i64]; omega
 have k6 := fun (wx : World) h => sum_any (.slice (some ⟨wx.heap.size, 0, none⟩) 5 5) [512, en - lo, (p - im) * 4131, 240 + 10 * p, re] (wx.alloc (.cells #[.int .i64 512, .int .i64 (en - lo), .int .i64 ((p - im) * 4131), .int .i64 (240 + 10 * p), .int .i64 re] 2)) h
 have HRD : Hid (∀ wx : World, Rd .i64 (wx.alloc (.cells #[.int .i64 512, .int .i64 (en - lo), .int .i64 ((p - im) * 4131), .int .i64 (240 + 10 * p), .int .i64 re] 2)) (.slice (some ⟨wx.heap.size, 0, none⟩) 5 5) [512, en - lo, (p - im) * 4131, 240 + 10 * p, re]) := fun wx => rd_new wx 2 [512, en - lo, (p - im) * 4131, 240 + 10 * p, re] (by unfold maxLen; simp)
 have hsu : suW 0 [512, en - lo, (p - im) * 4131, 240 + 10 * p, re] = 512 + (en - lo) + (p - im) * 4131 + (240 + 10 * p) + re := by
  rw [suW_small (by
   intro z hz
   simp only [List.mem_cons, List.not_mem_nil, or_false] at hz
   rcases hz with rfl | rfl | rfl | rfl | rfl <;> omega) (by simp)]
  simp only [suI]
  omega
 simp only [hsu] at k6
 have q7 : IntKind.i64.wrap (l * 512 - (512 + (en - lo) + (p - im) * 4131 + (240 + 10 * p) + re)) = l * 512 - 512 - (en - lo) - (p - im) * 4131 - (240 + 10 * p) - re := by rw [IntKind.wrap_i64]; omega
 clear hsu
 obtain ⟨P1, hP1⟩ : ∃ P1, 512 + (en - lo) + (p - im) * 4131 + (240 + 10 * p) + re = P1 := ⟨_, rfl⟩
 rw [hP1] at q7
 simp only [hP1] at k6
 clear hP1
 go_enter Try.func17, Try.ntmps17
 go_wp2_with (first
  | (go_at_call 13; (with_reducible refine (k0 _).mono ?_); rintro e w1 ⟨rfl, hk1⟩; have HK1 := hid (HK0.out.trans hk1); have d0 := hk1.cellOf c0 id; have d2 := hk1.cellOf c2 id; clear hk1 k0 c0 c1 c2 b0 HK0)
  | (go_at_call 29; (with_reducible refine (k1 _).mono ?_); rintro e wx0 ⟨rfl, rfl⟩; clear k1)
  | (go_at_call 29; (with_reducible refine (k2 _).mono ?_); rintro e wx1 ⟨rfl, rfl⟩; clear k2)
  | (go_at_call 29; (with_reducible refine (k3 _).mono ?_); rintro e wx2 ⟨rfl, rfl⟩; clear k3)
  | (go_at_call 29; (with_reducible refine (k4 _).mono ?_); rintro e wx3 ⟨rfl, rfl⟩; clear k4))
 let Y1 : World → Prop := fun wx : World => wx.cell? ⟨w.heap.size, 0, none⟩ = some (.int .i64 p) ∧ wx.cell? ⟨w.heap.size, 2, none⟩ = some (.int .i64 l)
 have hS : Y1 wx3.drew := ⟨d0, d2⟩
 refine wp_region_V Y1 99 15 rfl (by kernel_rfl) ?_
 refine tk 0 40 hS ?_
 refine tk 1 41 hS ?_
 refine tk 2 42 hS ?_
 refine tk 3 43 hS ?_
 refine tk 4 44 hS ?_
 refine tk 5 45 hS ?_
 refine tk 6 46 hS ?_
 refine tk 7 47 hS ?_
 refine tk 8 48 hS ?_
 refine tk 10 50 hS ?_
 refine wpAnyV_one (i := 9) (by kernel_rfl) rfl (fun K hK => ?_)
 go_simp
 refine (k5 _).mono ?_
 rintro e w5 ⟨rfl, hk5⟩
 have HK35 : Hid (Same wx3 w5) := (Kept.refl _ _).drew.trans hk5
 have HK5 := hid (HK1.out.trans HK35.out)
 have hS : Y1 w5 := ⟨HK35.out.cellOf d0 id, HK35.out.cellOf d2 id⟩
 have HS5 := hid hS
 refine hK.out _ _ (fun _ => hS) ?_
 clear hK K hk5 d0 d2
 try simp only [Act.put, sA, s0, sS]
 refine wpAnyV_one (i := 11) (by kernel_rfl) rfl (fun K hK => ?_)
 go_simp
 have k7 := k6 w5 (HRD.out w5)
 have HKa : Hid (Same w5 (w5.alloc (.cells #[.int .i64 512, .int .i64 (en - lo), .int .i64 ((p - im) * 4131), .int .i64 (240 + 10 * p), .int .i64 re] 2))) := (Kept.refl _ _).alloc _
 generalize (w5.alloc (.cells #[.int .i64 512, .int .i64 (en - lo), .int .i64 ((p - im) * 4131), .int .i64 (240 + 10 * p), .int .i64 re] 2)) = w6 at k7 HKa ⊢
 have hS : Y1 w6 := ⟨HKa.out.cellOf HS5.out.1 id, HKa.out.cellOf HS5.out.2 id⟩
 refine hK.out _ _ (fun _ => hS) ?_
 clear hK K
 try simp only [Act.put, sA, s0, sS]
 refine wpAnyV_one (i := 12) (by kernel_rfl) rfl (fun K hK => ?_)
 go_simp
 refine k7.mono ?_
 rintro e w7 ⟨rfl, hk7⟩
 have HK7 := hid ((HK5.out.trans HKa.out).trans hk7)
 have hS : Y1 w7 := ⟨hk7.cellOf hS.1 id, hk7.cellOf hS.2 id⟩
 refine hK.out _ _ (fun _ => hS) ?_
 clear hK K hk7
 try simp only [Act.put, sA, s0, sS]
 refine tk 13 53 hS ?_
 refine tk 14 10 hS ?_
 refine wpAnyV_done (by kernel_rfl) ?_
 go_wp2
 go_ret
 exact ⟨by rw [← HR.out]; first | rfl | trivial, HK7.out⟩
end Go.Proofs.Ytmpfpgelaipmnaa
