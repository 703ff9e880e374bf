/-
  DiskSectors, PageSector: both sides.
-/
import Derived.Test.YtednajibnjofmaaLedgerL
namespace Go.Proofs.Ytednajibnjofmaa
set_option maxRecDepth 100000
set_option maxHeartbeats 4000000
open Go.RowKit
set_option linter.unusedVariables false
set_option linter.unusedSimpArgs false

def dskN (p f l : Int) : Int := if geoF p f l = 0 then 2 + l + p * 8 else -1
def pgSec (p f l g : Int) : Int := if geoF p f l = 0 then (if inB g 0 (p - 1) = true then 2 + l + g * 8 else -1) else -1
theorem geo_good {p f l : Int} (hq : geoF p f l = 0) : 1 ≤ p ∧ p ≤ 16 ∧ 9 * p + 24 ≤ l ∧ l ≤ 800 := by
  unfold geoF at hq
  cases h1 : inB p 1 16 with
  | false => rw [h1, if_pos rfl] at hq; cases hq
  | true =>
    rw [h1, if_neg (by simp)] at hq
    cases h2 : inB f 3 16 with
    | false => rw [h2, if_pos rfl] at hq; cases hq
    | true =>
      rw [h2, if_neg (by simp)] at hq
      cases h3 : inB l (minLog p) 800 with
      | false => rw [h3, if_pos rfl] at hq; cases hq
      | true =>
        obtain ⟨a, b⟩ := inB_yes h1
        obtain ⟨c, d⟩ := inB_yes h3
        have hml : minLog p = 9 * p + 24 := if_pos h1
        rw [hml] at c
        exact ⟨a, b, c, d⟩
theorem pgSec_yes {p f l g : Int} (hq : geoF p f l = 0) (h1 : 0 ≤ g) (h2 : g < p) : pgSec p f l g = 2 + l + g * 8 := by
  unfold pgSec
  rw [if_pos hq, if_pos (by simp [inB]; omega)]
theorem pgSec_cases (p f l g : Int) : (pgSec p f l g = -1) ∨ (geoF p f l = 0 ∧ 0 ≤ g ∧ g < p ∧ pgSec p f l g = 2 + l + g * 8) := by
  by_cases hq : geoF p f l = 0
  · by_cases h : 0 ≤ g ∧ g < p
    · exact .inr ⟨hq, h.1, h.2, pgSec_yes hq h.1 h.2⟩
    · refine .inl ?_
      unfold pgSec
      rw [if_pos hq, if_neg (by simp [inB]; omega)]
  · exact .inl (if_neg hq)
theorem firstSec_any (p f l : Int) (hl : 0 ≤ l ∧ l ≤ 800) (w : World) : Calls Try.prog 46 #[.agg #[.int .i64 p, .int .i64 f, .int .i64 l]] w fun e w' => e = .returned (.int .i64 (2 + l)) ∧ Same w w' := by
  have HK0 := hid (sameA w [.int .i64 p, .int .i64 f, .int .i64 l] 34)
  have b0 := Blk.newL w [.int .i64 p, .int .i64 f, .int .i64 l] 34
  obtain ⟨c0, c1, c2⟩ := b0.all3
  obtain ⟨h1, h2⟩ := hl
  have q1 : IntKind.i64.wrap (2 + l) = 2 + l := by rw [IntKind.wrap_i64]; omega
  go_enter Try.func46, Try.ntmps46
  go_wp2
  go_ret
  exact ⟨rfl, HK0.out⟩
theorem specDskN_any (p f l : Int) (w : World) : Calls Try.prog 41 #[.agg #[.int .i64 p, .int .i64 f, .int .i64 l]] w fun e w' => e = .returned (.int .i64 (dskN p f l)) ∧ Same w w' := by
  have HK0 := hid (sameA w [.int .i64 p, .int .i64 f, .int .i64 l] 34)
  have b0 := Blk.newL w [.int .i64 p, .int .i64 f, .int .i64 l] 34
  have k0 := fun wx => specGeo_any p f l wx
  obtain ⟨R, hR⟩ : ∃ R, dskN p f l = R := ⟨_, rfl⟩
  rw [hR]
  unfold dskN at hR
  obtain ⟨q, hq⟩ : ∃ q, geoF p f l = q := ⟨_, rfl⟩
  rw [hq] at k0 hR
  by_cases h0 : q = 0
  case neg =>
    rw [if_neg h0] at hR
    subst hR
    clear hq
    go_enter Try.func41, Try.ntmps41
    go_wp2_with fail
    refine (k0 _).mono ?_
    rintro e w1 ⟨rfl, hk1⟩
    go_wp2
    go_ret
    exact ⟨rfl, HK0.out.trans hk1⟩
  subst h0
  rw [if_pos rfl] at hR
  obtain ⟨h1, h2, h3, h4⟩ := geo_good hq
  clear hq
  have q1 : IntKind.i64.wrap (2 + l) = 2 + l := by rw [IntKind.wrap_i64]; omega
  have q2 : IntKind.i64.wrap (p * 8) = p * 8 := by rw [IntKind.wrap_i64]; omega
  have q3 : IntKind.i64.wrap (2 + l + p * 8) = 2 + l + p * 8 := by rw [IntKind.wrap_i64]; omega
  subst hR
  go_enter Try.func41, Try.ntmps41
  go_wp2_with fail
  refine (k0 _).mono ?_
  rintro e w1 ⟨rfl, hk1⟩
  have HK1 := hid (HK0.out.trans hk1)
  obtain ⟨d0, d1, d2⟩ := (b0.same hk1).all3
  clear hk1
  go_wp2
  go_ret
  exact ⟨rfl, HK1.out⟩
theorem implDskN_any (p f l : Int) (w : World) : Calls Try.prog 49 #[.agg #[.int .i64 p, .int .i64 f, .int .i64 l]] w fun e w' => e = .returned (.int .i64 (dskN p f l)) ∧ Same w w' := by
  have HK0 := hid (sameA w [.int .i64 p, .int .i64 f, .int .i64 l] 34)
  have b0 := Blk.newL w [.int .i64 p, .int .i64 f, .int .i64 l] 34
  have k0 := fun wx => implGeo_any p f l wx
  obtain ⟨R, hR⟩ : ∃ R, dskN p f l = R := ⟨_, rfl⟩
  rw [hR]
  unfold dskN at hR
  obtain ⟨q, hq⟩ : ∃ q, geoF p f l = q := ⟨_, rfl⟩
  rw [hq] at k0 hR
  by_cases h0 : q = 0
  case neg =>
    rw [if_neg h0] at hR
    subst hR
    clear hq
    go_enter Try.func49, Try.ntmps49
    go_wp2_with fail
    refine (k0 _).mono ?_
    rintro e w1 ⟨rfl, hk1⟩
    go_wp2
    go_ret
    exact ⟨rfl, HK0.out.trans hk1⟩
  subst h0
  rw [if_pos rfl] at hR
  obtain ⟨h1, h2, h3, h4⟩ := geo_good hq
  clear hq
  have q2 : IntKind.i64.wrap (p * 8) = p * 8 := by rw [IntKind.wrap_i64]; omega
  have q3 : IntKind.i64.wrap (2 + l + p * 8) = 2 + l + p * 8 := by rw [IntKind.wrap_i64]; omega
  have k1 := fun wx => firstSec_any p f l ⟨by omega, h4⟩ wx
  subst hR
  go_enter Try.func49, Try.ntmps49
  go_wp2_with fail
  refine (k0 _).mono ?_
  rintro e w1 ⟨rfl, hk1⟩
  have HK1 := hid (HK0.out.trans hk1)
  obtain ⟨d0, d1, d2⟩ := (b0.same hk1).all3
  clear hk1
  go_wp2_with fail
  have hS : (fun wx : World => wx.cell? ⟨w.heap.size, 0, none⟩ = some (.int .i64 p) ∧ wx.cell? ⟨w.heap.size, 1, none⟩ = some (.int .i64 f) ∧ wx.cell? ⟨w.heap.size, 2, none⟩ = some (.int .i64 l)) w1.drew := ⟨d0, d1, d2⟩
  refine wp_region_V (fun wx : World => wx.cell? ⟨w.heap.size, 0, none⟩ = some (.int .i64 p) ∧ wx.cell? ⟨w.heap.size, 1, none⟩ = some (.int .i64 f) ∧ wx.cell? ⟨w.heap.size, 2, none⟩ = some (.int .i64 l)) 99 7 rfl (by kernel_rfl) ?_
  refine tk 0 6 hS ?_
  refine tk 2 8 hS ?_
  refine tk 3 9 hS ?_
  refine tk 4 10 hS ?_
  refine wpAnyV_one (i := 1) (by kernel_rfl) rfl (fun K hK => ?_)
  go_simp
  refine (k1 _).mono ?_
  rintro e w2 ⟨rfl, hk2⟩
  have HK2 := hid (HK1.out.trans ((Kept.refl _ _).drew.trans hk2))
  have hS : (fun wx : World => wx.cell? ⟨w.heap.size, 0, none⟩ = some (.int .i64 p) ∧ wx.cell? ⟨w.heap.size, 1, none⟩ = some (.int .i64 f) ∧ wx.cell? ⟨w.heap.size, 2, none⟩ = some (.int .i64 l)) w2 := ⟨hk2.cellOf d0 id, hk2.cellOf d1 id, hk2.cellOf d2 id⟩
  refine hK.out _ _ (fun _ => hS) ?_
  clear hK K hk2
  try simp only [Act.put, sA, s0, sS]
  refine tk 5 11 hS ?_
  refine tk 6 2 hS ?_
  refine wpAnyV_done (by kernel_rfl) ?_
  go_wp2
  go_ret
  exact ⟨rfl, HK2.out⟩
theorem specPgSec_any (p f l g : Int) (w : World) : Calls Try.prog 23 #[.agg #[.int .i64 p, .int .i64 f, .int .i64 l], .int .i64 g] w fun e w' => e = .returned (.int .i64 (pgSec p f l g)) ∧ Same w w' := by
  have HK0 := hid (sameA w [.int .i64 p, .int .i64 f, .int .i64 l] 34)
  have b0 := Blk.newL w [.int .i64 p, .int .i64 f, .int .i64 l] 34
  have k0 := fun wx => specGeo_any p f l wx
  obtain ⟨R, hR⟩ : ∃ R, pgSec p f l g = R := ⟨_, rfl⟩
  rw [hR]
  unfold pgSec at hR
  obtain ⟨q, hq⟩ : ∃ q, geoF p f l = q := ⟨_, rfl⟩
  rw [hq] at k0 hR
  by_cases h0 : q = 0
  case neg =>
    rw [if_neg h0] at hR
    subst hR
    clear hq
    go_enter Try.func23, Try.ntmps23
    go_wp2_with fail
    refine (k0 _).mono ?_
    rintro e w1 ⟨rfl, hk1⟩
    go_wp2
    go_ret
    exact ⟨rfl, HK0.out.trans hk1⟩
  subst h0
  rw [if_pos rfl] at hR
  obtain ⟨h1, h2, h3, h4⟩ := geo_good hq
  clear hq
  have q0 : IntKind.i64.wrap (p - 1) = p - 1 := by rw [IntKind.wrap_i64]; omega
  have k1 := fun wx => l4In_any g 0 (p - 1) wx
  cases hb : inB g 0 (p - 1) with
  | false =>
    rw [hb] at k1 hR
    rw [if_neg (by simp)] at hR
    subst hR
    go_enter Try.func23, Try.ntmps23
    go_wp2_with fail
    refine (k0 _).mono ?_
    rintro e w1 ⟨rfl, hk1⟩
    have HK1 := hid (HK0.out.trans hk1)
    obtain ⟨d0, d1, d2⟩ := (b0.same hk1).all3
    clear hk1
    go_wp2_with fail
    refine (k1 _).mono ?_
    rintro e w2 ⟨rfl, hk2⟩
    have HK2 := hid (HK1.out.trans hk2)
    clear hk2
    go_wp2
    go_ret
    exact ⟨rfl, HK2.out⟩
  | true =>
    rw [hb] at k1 hR
    rw [if_pos rfl] at hR
    obtain ⟨g1, g2⟩ := inB_yes hb
    clear hb
    have q1 : IntKind.i64.wrap (2 + l) = 2 + l := by rw [IntKind.wrap_i64]; omega
    have q2 : IntKind.i64.wrap (g * 8) = g * 8 := by rw [IntKind.wrap_i64]; omega
    have q3 : IntKind.i64.wrap (2 + l + g * 8) = 2 + l + g * 8 := by rw [IntKind.wrap_i64]; omega
    subst hR
    go_enter Try.func23, Try.ntmps23
    go_wp2_with fail
    refine (k0 _).mono ?_
    rintro e w1 ⟨rfl, hk1⟩
    have HK1 := hid (HK0.out.trans hk1)
    have b1 := b0.same hk1
    obtain ⟨d0, d1, d2⟩ := b1.all3
    clear hk1
    go_wp2_with fail
    refine (k1 _).mono ?_
    rintro e w2 ⟨rfl, hk2⟩
    have HK2 := hid (HK1.out.trans hk2)
    obtain ⟨e0, e1, e2⟩ := (b1.same hk2).all3
    clear hk2
    go_wp2
    go_ret
    exact ⟨rfl, HK2.out⟩
theorem implPgSec_any (p f l g : Int) (w : World) : Calls Try.prog 27 #[.agg #[.int .i64 p, .int .i64 f, .int .i64 l], .int .i64 g] w fun e w' => e = .returned (.int .i64 (pgSec p f l g)) ∧ Same w w' := by
  have HK0 := hid (sameA w [.int .i64 p, .int .i64 f, .int .i64 l] 34)
  have b0 := Blk.newL w [.int .i64 p, .int .i64 f, .int .i64 l] 34
  have k0 := fun wx => implGeo_any p f l wx
  obtain ⟨R, hR⟩ : ∃ R, pgSec p f l g = R := ⟨_, rfl⟩
  rw [hR]
  unfold pgSec at hR
  obtain ⟨q, hq⟩ : ∃ q, geoF p f l = q := ⟨_, rfl⟩
  rw [hq] at k0 hR
  by_cases h0 : q = 0
  case neg =>
    rw [if_neg h0] at hR
    subst hR
    clear hq
    go_enter Try.func27, Try.ntmps27
    go_wp2_with fail
    refine (k0 _).mono ?_
    rintro e w1 ⟨rfl, hk1⟩
    go_wp2
    go_ret
    exact ⟨rfl, HK0.out.trans hk1⟩
  subst h0
  rw [if_pos rfl] at hR
  obtain ⟨h1, h2, h3, h4⟩ := geo_good hq
  clear hq
  by_cases g1 : g < 0
  · rw [if_neg (by simp [inB]; omega)] at hR
    subst hR
    go_enter Try.func27, Try.ntmps27
    go_wp2_with fail
    refine (k0 _).mono ?_
    rintro e w1 ⟨rfl, hk1⟩
    have HK1 := hid (HK0.out.trans hk1)
    obtain ⟨d0, d1, d2⟩ := (b0.same hk1).all3
    clear hk1
    go_wp2
    go_ret
    exact ⟨rfl, HK1.out⟩
  by_cases g2 : p ≤ g
  · rw [if_neg (by simp [inB]; omega)] at hR
    subst hR
    go_enter Try.func27, Try.ntmps27
    go_wp2_with fail
    refine (k0 _).mono ?_
    rintro e w1 ⟨rfl, hk1⟩
    have HK1 := hid (HK0.out.trans hk1)
    obtain ⟨d0, d1, d2⟩ := (b0.same hk1).all3
    clear hk1
    go_wp2
    go_ret
    exact ⟨rfl, HK1.out⟩
  rw [if_pos (by simp [inB]; omega)] at hR
  have q2 : IntKind.i64.wrap (g * 8) = g * 8 := by rw [IntKind.wrap_i64]; omega
  have q3 : IntKind.i64.wrap (2 + l + g * 8) = 2 + l + g * 8 := by rw [IntKind.wrap_i64]; omega
  have k1 := fun wx => firstSec_any p f l ⟨by omega, h4⟩ wx
  subst hR
  go_enter Try.func27, Try.ntmps27
  go_wp2_with fail
  refine (k0 _).mono ?_
  rintro e w1 ⟨rfl, hk1⟩
  have HK1 := hid (HK0.out.trans hk1)
  obtain ⟨d0, d1, d2⟩ := (b0.same hk1).all3
  clear hk1
  go_wp2_with fail
  refine (k1 _).mono ?_
  rintro e w2 ⟨rfl, hk2⟩
  have HK2 := hid (HK1.out.trans hk2)
  clear hk2
  go_wp2
  go_ret
  exact ⟨rfl, HK2.out⟩
end Go.Proofs.Ytednajibnjofmaa
