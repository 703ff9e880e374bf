/-
  spec.FreshId.
-/
import Derived.Test.YtagcefbnhpkdiabRoomS3
namespace Go.Proofs.Ytagcefbnhpkdiab
set_option maxRecDepth 100000
set_option maxHeartbeats 8000000
open Go.RowKit
set_option linter.unusedVariables false
set_option linter.unusedSimpArgs false

theorem freshF_at {f : Nat → Bool} {n k : Nat} (h : k < n) : freshF f (n - k) k = if f k = true then (k : Int) else freshF f (n - (k + 1)) (k + 1) := by
  rw [show n - k = (n - (k + 1)) + 1 from by omega]
  rfl
theorem specFreshId_any (v : Value) (zs : List Int) (x y : FR) (txn len : Int) (w : World) (hv : Rd .i64 w v zs) (hx : RdF 3 w x) (hy : RdF 3 w y) :
    Calls Try.prog 22 #[v, x.v, y.v, .int .i64 txn, .int .i64 len] w fun e w' => e = .returned (.int .i64 (freshI zs (tri x.bs) (tri y.bs) txn len)) ∧ Same w w' := by
  have k0 := specLengths_any v zs w hv
  have k1 := fun wx (hk : Same w wx) => specHoldsFault_any x wx (hx.same hk)
  have k2 := fun wx (hk : Same w wx) => specLocksFault_any y wx (hy.same hk)
  have k3 := fun wx (hk : Same w wx) id => specHold_any x id wx (hx.same hk)
  have k4 := fun wx (hk : Same w wx) id => specLockOthers_any y txn id wx (hy.same hk)
  have k5 := fun wx (hk : Same w wx) id (h63 : id ≤ 9223372036854775807) => specRoomFor_any v zs x id len wx h63 (hv.same hk) (hx.same hk)
  obtain ⟨a, c, rfl⟩ := hv.form
  obtain ⟨xe, xa, xn, xc, bs⟩ := x
  obtain ⟨ye, ya, yn, yc, ls⟩ := y
  dsimp only [FR.v] at k0 k1 k2 k3 k4 k5 ⊢
  have HV := hid hv
  have hmax : zs.length ≤ maxLen := hv.1
  unfold maxLen at hmax
  clear hv hx hy
  obtain ⟨R, hR⟩ : ∃ R, freshI zs (tri bs) (tri ls) txn len = R := ⟨_, rfl⟩
  rw [hR]
  unfold freshI at hR
  cases f0 : lenOK zs with
  | false =>
    rw [f0] at k0
    rw [if_pos (.inl f0)] at hR
    subst hR
    go_enter Try.func22, Try.ntmps22
    go_wp2_with fail
    refine k0.mono ?_
    rintro e w1 ⟨rfl, hk1⟩
    go_wp2
    go_ret
    exact ⟨rfl, hk1⟩
  | true =>
  rw [f0] at k0
  obtain ⟨q, hq⟩ : ∃ q, holdsF (tri bs) = q := ⟨_, rfl⟩
  rw [hq] at k1 hR
  obtain ⟨q2, hq2⟩ : ∃ q, locksF (tri ls) = q := ⟨_, rfl⟩
  rw [hq2] at k2 hR
  by_cases h0 : q = 0
  case neg =>
    rw [if_pos (.inr (.inl h0))] at hR
    subst hR
    go_enter Try.func22, Try.ntmps22
    go_wp2_with (first
      | (go_at_call 45; (with_reducible refine k0.mono ?_); rintro e w1 ⟨rfl, hk1⟩; have HK1 := (show Hid (Same w w1) from hk1); clear hk1 k0)
      | (go_at_call 30; (with_reducible refine (k1 _ HK1.out).mono ?_); rintro e w2 ⟨rfl, hk2⟩; have HK2 := hid (HK1.out.trans hk2); clear hk2 k1))
    go_ret
    exact ⟨rfl, HK2.out⟩
  subst h0
  by_cases h2 : q2 = 0
  case neg =>
    rw [if_pos (.inr (.inr h2))] at hR
    subst hR
    go_enter Try.func22, Try.ntmps22
    go_wp2_with (first
      | (go_at_call 45; (with_reducible refine k0.mono ?_); rintro e w1 ⟨rfl, hk1⟩; have HK1 := (show Hid (Same w w1) from hk1); clear hk1 k0)
      | (go_at_call 30; (with_reducible refine (k1 _ HK1.out).mono ?_); rintro e w2 ⟨rfl, hk2⟩; have HK2 := hid (HK1.out.trans hk2); clear hk2 k1)
      | (go_at_call 46; (with_reducible refine (k2 _ HK2.out).mono ?_); rintro e w3 ⟨rfl, hk3⟩; have HK3 := hid (HK2.out.trans hk3); clear hk3 k2))
    go_ret
    exact ⟨rfl, HK3.out⟩
  subst h2
  rw [if_neg (by simp [f0])] at hR
  have HR := hid hR
  obtain ⟨n, hn⟩ : ∃ n, zs.length = n := ⟨_, rfl⟩
  have HN := hid hn
  have hn512 : n ≤ 512 := by have h1 := (lenOK_yes f0).2.2.1; have h2 := (lenOK_yes f0).1; omega
  clear hR hq hq2 f0
  rw [hn] at k0 k5 HR ⊢
  clear hn
  go_enter Try.func22, Try.ntmps22
  go_wp2_with (first
    | (go_at_call 45; (with_reducible refine k0.mono ?_); rintro e w1 ⟨rfl, hk1⟩; have HK1 := (show Hid (Same w w1) from hk1); clear hk1 k0)
    | (go_at_call 30; (with_reducible refine (k1 _ HK1.out).mono ?_); rintro e w2 ⟨rfl, hk2⟩; have HK2 := hid (HK1.out.trans hk2); clear hk2 k1)
    | (go_at_call 46; (with_reducible refine (k2 _ HK2.out).mono ?_); rintro e w3 ⟨rfl, hk3⟩; have HK3 := hid (HK2.out.trans hk3); clear hk3 k2))
  go_loopw [11] (fun i wr => ∃ k : Nat, k ≤ n ∧ i = .int .i64 k ∧ Hid (freshF (freshOK zs (tri bs) (tri ls) txn len) (n - k) k = R) ∧ Hid (Same w wr)) (fun i _ => n - (intOf i).toNat)
  case atStart => exact ⟨0, Nat.zero_le _, rfl, HR, HK3⟩
  case round =>
    obtain ⟨k, hk, rfl, HA, HK⟩ := hrel
    by_cases hlt : k < n
    · have hlz : k < zs.length := by rw [HN.out]; exact hlt
      obtain ⟨b, off, ha, hc⟩ : ∃ b off, a = some ⟨b, off, none⟩ ∧ ∀ i, i < zs.length → w.cell? ⟨b, off + i, none⟩ = some (.int .i64 (zs.getD i 0)) := by
        rcases HV.out.2 with ⟨hnil, _⟩ | ⟨b, off, c', h, _, hc⟩
        · rw [hnil] at hlz; simp at hlz
        · cases h; exact ⟨b, off, rfl, hc⟩
      subst ha
      obtain ⟨z, hz⟩ : ∃ z, zs.getD k 0 = z := ⟨_, rfl⟩
      have d0 : wr.cell? ⟨b, off + k, none⟩ = some (.int .i64 z) := HK.out.cellOf (by rw [← hz]; exact hc k hlz) id
      have h := HA.out
      rw [freshF_at hlt] at h
      unfold freshOK at h
      rw [hz] at h
      clear hc hz HA
      have k3 := fun wx hk => k3 wx hk (k : Int)
      have k4 := fun wx hk => k4 wx hk (k : Int)
      have k5 := fun wx hk => k5 wx hk (k : Int) (by omega)
      have hki : (k : Int) < (n : Int) := by omega
      generalize holdOf (k : Int) (tri bs) = ho at k3 h
      generalize othersP (tri ls) txn (k : Int) = ot at k4 h
      generalize roomFor zs (tri bs) (k : Int) len = rf at k5 h
      by_cases g1 : z = -1
      case neg =>
        rw [if_neg (by simp [g1])] at h
        have HA2 := hid h
        clear h
        go_wp2
        go_roundw
        case rel => exact ⟨k + 1, by omega, by go_num, HA2, HK⟩
        case measure => simp [intOf]; omega
      by_cases g2 : ho = -1
      case neg =>
        rw [if_neg (by simp [g2])] at h
        have HA2 := hid h
        clear h
        subst g1
        go_wp2_with fail
        refine (k3 _ HK.out).mono ?_
        rintro e w4 ⟨rfl, hk4⟩
        have HK4 := hid (HK.out.trans hk4)
        go_wp2
        go_roundw
        case rel => exact ⟨k + 1, by omega, by go_num, HA2, HK4⟩
        case measure => simp [intOf]; omega
      by_cases g3 : ot = 0
      case neg =>
        rw [if_neg (by simp [g3])] at h
        have HA2 := hid h
        clear h
        subst g1 g2
        go_wp2_with fail
        refine (k3 _ HK.out).mono ?_
        rintro e w4 ⟨rfl, hk4⟩
        have HK4 := hid (HK.out.trans hk4)
        go_wp2_with fail
        refine (k4 _ HK4.out).mono ?_
        rintro e w5 ⟨rfl, hk5⟩
        have HK5 := hid (HK4.out.trans hk5)
        go_wp2
        go_roundw
        case rel => exact ⟨k + 1, by omega, by go_num, HA2, HK5⟩
        case measure => simp [intOf]; omega
      subst g1 g2 g3
      cases rf with
      | false =>
        rw [if_neg (by simp)] at h
        have HA2 := hid h
        clear h
        go_wp2_with fail
        refine (k3 _ HK.out).mono ?_
        rintro e w4 ⟨rfl, hk4⟩
        have HK4 := hid (HK.out.trans hk4)
        go_wp2_with fail
        refine (k4 _ HK4.out).mono ?_
        rintro e w5 ⟨rfl, hk5⟩
        have HK5 := hid (HK4.out.trans hk5)
        go_wp2_with fail
        refine (k5 _ HK5.out).mono ?_
        rintro e w6 ⟨rfl, hk6⟩
        have HK6 := hid (HK5.out.trans hk6)
        go_wp2
        go_roundw
        case rel => exact ⟨k + 1, by omega, by go_num, HA2, HK6⟩
        case measure => simp [intOf]; omega
      | true =>
        rw [if_pos (by simp)] at h
        have HA2 := hid h
        clear h
        go_wp2_with fail
        refine (k3 _ HK.out).mono ?_
        rintro e w4 ⟨rfl, hk4⟩
        have HK4 := hid (HK.out.trans hk4)
        go_wp2_with fail
        refine (k4 _ HK4.out).mono ?_
        rintro e w5 ⟨rfl, hk5⟩
        have HK5 := hid (HK4.out.trans hk5)
        go_wp2_with fail
        refine (k5 _ HK5.out).mono ?_
        rintro e w6 ⟨rfl, hk6⟩
        have HK6 := hid (HK5.out.trans hk6)
        go_wp2
        go_ret
        exact ⟨by rw [← HA2.out]; rfl, HK6.out⟩
    · obtain rfl : k = n := by omega
      have h := HA.out
      rw [Nat.sub_self] at h
      go_wp2
      go_ret
      exact ⟨by rw [← h]; rfl, HK.out⟩
end Go.Proofs.Ytagcefbnhpkdiab
