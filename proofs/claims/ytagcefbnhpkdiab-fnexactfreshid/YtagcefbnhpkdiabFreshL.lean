/-
  The program's FreshId.
-/
import Derived.Test.YtagcefbnhpkdiabRoomI
import Derived.Test.YtagcefbnhpkdiabHoldFind
import Derived.Test.YtagcefbnhpkdiabLockOps
import Derived.Test.YtagcefbnhpkdiabTyMLockS
namespace Go.Proofs.Ytagcefbnhpkdiab
set_option maxRecDepth 100000
set_option maxHeartbeats 4000000
open Go.RowKit
set_option linter.unusedVariables false
set_option linter.unusedSimpArgs false

theorem freshF_at {f : Nat → Bool} {n k : Nat} (h : k < n) : freshF f (n - k) k = if f k = true then (k : Int) else freshF f (n - (k + 1)) (k + 1) := by
  rw [show n - k = (n - (k + 1)) + 1 from by omega]
  rfl
theorem specFreshId_any (v : Value) (zs : List Int) (x y : FR) (txn len : Int) (w : World) (hv : Rd .i64 w v zs) (hx : RdF 3 w x) (hy : RdF 3 w y) :
    Calls Try.prog 22 #[v, x.v, y.v, .int .i64 txn, .int .i64 len] w fun e w' => e = .returned (.int .i64 (freshI zs (tri x.bs) (tri y.bs) txn len)) ∧ Same w w' := by
  have k0 := specLengths_any v zs w hv
  have k1 := fun wx (hk : Same w wx) => specHoldsFault_any x wx (hx.same hk)
  have k2 := fun wx (hk : Same w wx) => specLocksFault_any y wx (hy.same hk)
  have k3 := fun wx (hk : Same w wx) id => specHold_any x id wx (hx.same hk)
  have k4 := fun wx (hk : Same w wx) id => specLockOthers_any y txn id wx (hy.same hk)
  have k5 := fun wx (hk : Same w wx) id (h63 : id ≤ 9223372036854775807) => specRoomFor_any v zs x id len wx h63 (hv.same hk) (hx.same hk)
  obtain ⟨a, c, rfl⟩ := hv.form
  obtain ⟨xe, xa, xn, xc, bs⟩ := x
  obtain ⟨ye, ya, yn, yc, ls⟩ := y
  dsimp only [FR.v] at k0 k1 k2 k3 k4 k5 ⊢
  have HV := hid hv
  have hmax : zs.length ≤ maxLen := hv.1
  unfold maxLen at hmax
  clear hv hx hy
  obtain ⟨R, hR⟩ : ∃ R, freshI zs (tri bs) (tri ls) txn len = R := ⟨_, rfl⟩
  rw [hR]
  unfold freshI at hR
  cases f0 : lenOK zs with
  | false =>
    rw [f0] at k0
    rw [if_pos (.inl f0)] at hR
    subst hR
    go_enter Try.func22, Try.ntmps22
    go_wp2_with fail
    refine k0.mono ?_
    rintro e w1 ⟨rfl, hk1⟩
    go_wp2
    go_ret
    exact ⟨rfl, hk1⟩
  | true =>
  rw [f0] at k0
  obtain ⟨q, hq⟩ : ∃ q, holdsF (tri bs) = q := ⟨_, rfl⟩
  rw [hq] at k1 hR
  obtain ⟨q2, hq2⟩ : ∃ q, locksF (tri ls) = q := ⟨_, rfl⟩
  rw [hq2] at k2 hR
  by_cases h0 : q = 0
  case neg =>
    rw [if_pos (.inr (.inl h0))] at hR
    subst hR
    go_enter Try.func22, Try.ntmps22
    go_wp2_with (first
      | (go_at_call 45; (with_reducible refine k0.mono ?_); rintro e w1 ⟨rfl, hk1⟩; have HK1 := (show Hid (Same w w1) from hk1); clear hk1 k0)
      | (go_at_call 30; (with_reducible refine (k1 _ HK1.out).mono ?_); rintro e w2 ⟨rfl, hk2⟩; have HK2 := hid (HK1.out.trans hk2); clear hk2 k1))
    go_ret
    exact ⟨rfl, HK2.out⟩
  subst h0
  by_cases h2 : q2 = 0
  case neg =>
    rw [if_pos (.inr (.inr h2))] at hR
    subst hR
    go_enter Try.func22, Try.ntmps22
    go_wp2_with (first
      | (go_at_call 45; (with_reducible refine k0.mono ?_); rintro e w1 ⟨rfl, hk1⟩; have HK1 := (show Hid (Same w w1) from hk1); clear hk1 k0)
      | (go_at_call 30; (with_reducible refine (k1 _ HK1.out).mono ?_); rintro e w2 ⟨rfl, hk2⟩; have HK2 := hid (HK1.out.trans hk2); clear hk2 k1)
      | (go_at_call 46; (with_reducible refine (k2 _ HK2.out).mono ?_); rintro e w3 ⟨rfl, hk3⟩; have HK3 := hid (HK2.out.trans hk3); clear hk3 k2))
    go_ret
    exact ⟨rfl, HK3.out⟩
  subst h2
  rw [if_neg (by simp [f0])] at hR
  have HR := hid hR
  obtain ⟨n, hn⟩ : ∃ n, zs.length = n := ⟨_, rfl⟩
  have HN := hid hn
  have hn512 : n ≤ 512 := by have h1 := (lenOK_yes f0).2.2.1; have h2 := (lenOK_yes f0).1; omega
  clear hR hq hq2 f0
  rw [hn] at k0 k5 HR ⊢
  clear hn
  go_enter Try.func22, Try.ntmps22
  go_wp2_with (first
    | (go_at_call 45; (with_reducible refine k0.mono ?_); rintro e w1 ⟨rfl, hk1⟩; have HK1 := (show Hid (Same w w1) from hk1); clear hk1 k0)
    | (go_at_call 30; (with_reducible refine (k1 _ HK1.out).mono ?_); rintro e w2 ⟨rfl, hk2⟩; have HK2 := hid (HK1.out.trans hk2); clear hk2 k1)
    | (go_at_call 46; (with_reducible refine (k2 _ HK2.out).mono ?_); rintro e w3 ⟨rfl, hk3⟩; have HK3 := hid (HK2.out.trans hk3); clear hk3 k2))
  go_loopw [11] (fun i wr => ∃ k : Nat, k ≤ n ∧ i = .int .i64 k ∧ Hid (freshF (freshOK zs (tri bs) (tri ls) txn len) (n - k) k = R) ∧ Hid (Same w wr)) (fun i _ => n - (intOf i).toNat)
  case atStart => exact ⟨0, Nat.zero_le _, rfl, HR, HK3⟩
  case round =>
    obtain ⟨k, hk, rfl, HA, HK⟩ := hrel
    by_cases hlt : k < n
    · have hlz : k < zs.length := by rw [HN.out]; exact hlt
      obtain ⟨b, off, ha, hc⟩ : ∃ b off, a = some ⟨b, off, none⟩ ∧ ∀ i, i < zs.length → w.cell? ⟨b, off + i, none⟩ = some (.int .i64 (zs.getD i 0)) := by
        rcases HV.out.2 with ⟨hnil, _⟩ | ⟨b, off, c', h, _, hc⟩
        · rw [hnil] at hlz; simp at hlz
        · cases h; exact ⟨b, off, rfl, hc⟩
      subst ha
      obtain ⟨z, hz⟩ : ∃ z, zs.getD k 0 = z := ⟨_, rfl⟩
      have d0 : wr.cell? ⟨b, off + k, none⟩ = some (.int .i64 z) := HK.out.cellOf (by rw [← hz]; exact hc k hlz) id
      have h := HA.out
      rw [freshF_at hlt] at h
      unfold freshOK at h
      rw [hz] at h
      clear hc hz HA
      have k3 := fun wx hk => k3 wx hk (k : Int)
      have k4 := fun wx hk => k4 wx hk (k : Int)
      have k5 := fun wx hk => k5 wx hk (k : Int) (by omega)
      have hki : (k : Int) < (n : Int) := by omega
      generalize holdOf (k : Int) (tri bs) = ho at k3 h
      generalize othersP (tri ls) txn (k : Int) = ot at k4 h
      generalize roomFor zs (tri bs) (k : Int) len = rf at k5 h
      by_cases g1 : z = -1
      case neg =>
        rw [if_neg (by simp [g1])] at h
        have HA2 := hid h
        clear h
        go_wp2
        go_roundw
        case rel => exact ⟨k + 1, by omega, by go_num, HA2, HK⟩
        case measure => simp [intOf]; omega
      by_cases g2 : ho = -1
      case neg =>
        rw [if_neg (by simp [g2])] at h
        have HA2 := hid h
        clear h
        subst g1
        go_wp2_with fail
        refine (k3 _ HK.out).mono ?_
        rintro e w4 ⟨rfl, hk4⟩
        have HK4 := hid (HK.out.trans hk4)
        go_wp2
        go_roundw
        case rel => exact ⟨k + 1, by omega, by go_num, HA2, HK4⟩
        case measure => simp [intOf]; omega
      by_cases g3 : ot = 0
      case neg =>
        rw [if_neg (by simp [g3])] at h
        have HA2 := hid h
        clear h
        subst g1 g2
        go_wp2_with fail
        refine (k3 _ HK.out).mono ?_
        rintro e w4 ⟨rfl, hk4⟩
        have HK4 := hid (HK.out.trans hk4)
        go_wp2_with fail
        refine (k4 _ HK4.out).mono ?_
        rintro e w5 ⟨rfl, hk5⟩
        have HK5 := hid (HK4.out.trans hk5)
        go_wp2
        go_roundw
        case rel => exact ⟨k + 1, by omega, by go_num, HA2, HK5⟩
        case measure => simp [intOf]; omega
      subst g1 g2 g3
      cases rf with
      | false =>
        rw [if_neg (by simp)] at h
        have HA2 := hid h
        clear h
        go_wp2_with fail
        refine (k3 _ HK.out).mono ?_
        rintro e w4 ⟨rfl, hk4⟩
        have HK4 := hid (HK.out.trans hk4)
        go_wp2_with fail
        refine (k4 _ HK4.out).mono ?_
        rintro e w5 ⟨rfl, hk5⟩
        have HK5 := hid (HK4.out.trans hk5)
        go_wp2_with fail
        refine (k5 _ HK5.out).mono ?_
        rintro e w6 ⟨rfl, hk6⟩
        have HK6 := hid (HK5.out.trans hk6)
        go_wp2
        go_roundw
        case rel => exact ⟨k + 1, by omega, by go_num, HA2, HK6⟩
        case measure => simp [intOf]; omega
      | true =>
        rw [if_pos (by simp)] at h
        have HA2 := hid h
        clear h
        go_wp2_with fail
        refine (k3 _ HK.out).mono ?_
        rintro e w4 ⟨rfl, hk4⟩
        have HK4 := hid (HK.out.trans hk4)
        go_wp2_with fail
        refine (k4 _ HK4.out).mono ?_
        rintro e w5 ⟨rfl, hk5⟩
        have HK5 := hid (HK4.out.trans hk5)
        go_wp2_with fail
        refine (k5 _ HK5.out).mono ?_
        rintro e w6 ⟨rfl, hk6⟩
        have HK6 := hid (HK5.out.trans hk6)
        go_wp2
        go_ret
        exact ⟨by rw [← HA2.out]; rfl, HK6.out⟩
    · obtain rfl : k = n := by omega
      have h := HA.out
      rw [Nat.sub_self] at h
      go_wp2
      go_ret
      exact ⟨by rw [← h]; rfl, HK.out⟩
theorem freshF_out (f : Nat → Bool) (h : ∀ k, f k = false) : ∀ m k, freshF f m k = -1
  | 0, _ => rfl
  | m + 1, k => by
    unfold freshF
    rw [if_neg (by rw [h k]; exact Bool.false_ne_true)]
    exact freshF_out f h m (k + 1)
theorem implFreshId_any (v : Value) (zs : List Int) (x y : FR) (txn len : Int) (w : World) (hv : Rd .i64 w v zs) (hx : RdF 3 w x) (hy : RdF 3 w y) :
    Calls Try.prog 24 #[v, x.v, y.v, .int .i64 txn, .int .i64 len] w fun e w' => e = .returned (.int .i64 (freshI zs (tri x.bs) (tri y.bs) txn len)) ∧ Same w w' := by
  have k0 := roomKnown_any v zs x w hv hx
  have k1 := fun wx (hs : Same w wx) => implLocksFault_any y wx (hy.same hs)
  have k2 := recLen_any len
  have k3 := fun wx (hs : Same w wx) h1 h2 => openNeeds_any v zs x wx (hv.same hs) (hx.same hs) h1 h2
  have k4 := fun wx (hs : Same w wx) h => openLocks_any y wx (hy.same hs) h
  have k5 := fun wx (hs : Same w wx) id h1 h2 => findHold_any x id wx (hx.same hs) h1 h2
  obtain ⟨a, c, rfl⟩ := hv.form
  have hmax : zs.length ≤ maxLen := hv.1
  unfold maxLen at hmax
  obtain ⟨xe, xa, n, xc, bs⟩ := x
  obtain ⟨ye, ya, m, yc, cs⟩ := y
  have hnb := tri_length n bs hx.2.1
  dsimp only [FR.v] at k0 k1 k3 k4 k5 ⊢
  have HV := hid hv
  clear hv hx hy
  obtain ⟨R, hR⟩ : ∃ R, freshI zs (tri bs) (tri cs) txn len = R := ⟨_, rfl⟩
  rw [hR]
  unfold freshI at hR
  cases f1 : (lenOK zs && decide (holdsF (tri bs) = 0)) with
  | false =>
    rw [f1] at k0
    rw [if_pos (by
      by_cases h1 : lenOK zs = true
      · rw [h1] at f1
        exact .inr (.inl (by simpa using f1))
      · exact .inl (by simpa using h1))] at hR
    subst hR
    clear k1 k2 k3 k4 k5 f1
    go_enter Try.func24, Try.ntmps24
    go_wp2_with fail
    refine k0.mono ?_
    rintro e w1 ⟨rfl, hk1⟩
    go_wp2
    go_ret
    exact ⟨rfl, hk1⟩
  | true =>
  rw [f1] at k0
  obtain ⟨hz, hh⟩ := (show lenOK zs = true ∧ holdsF (tri bs) = 0 from by simpa using f1)
  obtain ⟨q, hq⟩ : ∃ q, locksF (tri cs) = q := ⟨_, rfl⟩
  rw [hq] at k1 hR
  by_cases h0 : q = 0
  case neg =>
    rw [if_pos (.inr (.inr h0))] at hR
    subst hR
    clear k2 k3 k4 k5 f1 hz hh hq
    go_enter Try.func24, Try.ntmps24
    go_wp2_with fail
    refine k0.mono ?_
    rintro e w1 ⟨rfl, hk1⟩
    go_wp2_with fail
    refine (k1 _ hk1).mono ?_
    rintro e w2 ⟨rfl, hk2⟩
    go_wp2
    go_ret
    exact ⟨rfl, hk1.trans hk2⟩
  subst h0
  rw [if_neg (by rw [hz, hh]; simp)] at hR
  cases f2 : inB len 0 1000 with
  | false =>
    rw [f2] at k2
    rw [freshF_out _ (fun k => by unfold freshOK roomFor; rw [if_pos (.inr (.inr f2))]; simp)] at hR
    subst hR
    clear k3 k4 k5 f1 hz hh hq
    go_enter Try.func24, Try.ntmps24
    go_wp2_with fail
    refine k0.mono ?_
    rintro e w1 ⟨rfl, hk1⟩
    go_wp2_with fail
    refine (k1 _ hk1).mono ?_
    rintro e w2 ⟨rfl, hk2⟩
    go_wp2_with fail
    refine (k2 _).mono ?_
    rintro e w3 ⟨rfl, rfl⟩
    go_wp2
    go_ret
    exact ⟨rfl, hk1.trans hk2⟩
  | true =>
  rw [f2] at k2
  have hlen : 0 ≤ len ∧ len ≤ 1000 := by simpa [inB] using f2
  have hll := lenOK_yes hz
  obtain ⟨L, hL⟩ : ∃ L, zs.length = L := ⟨_, rfl⟩
  have hL16 : L ≤ 512 := by have := hll.2.2.1; rw [hL] at this; omega
  have hhn := holdsF_len hh
  rw [hnb] at hhn
  have hris := holdsF_ris hh
  have hbad := holdsF_any hh
  have hgood := (goodL_iff _).1 hq
  have HRL := hid hgood.rise
  have HGL := (show Hid (∀ l ∈ tri cs, 1 ≤ l.2.2) from fun l hl => (hgood.fine l hl).2.2.1)
  have k6 := fun wx b0 B ck tt id (h : Tab wx b0 B tt ck) (hp : (cont tt).Perm (tri cs)) => others8_any wx b0 B ck tt (tri cs) txn id h hp HGL.out
  have k7 := fun wx g i hN hi => fits_any wx g L i len zs (tri bs) hN hz hh hL.symm hi hlen
  have k8 := fun wx hs => k3 wx hs hz hh
  have k9 := fun wx hs id => k5 wx hs id (by omega) hris
  have HFR : Hid (∀ (i kk : Nat), i < L → LbH (i : Int) (tri bs) kk → freshOK zs (tri bs) (tri cs) txn len i = (decide (zs.getD i 0 = -1) && (!fndH (i : Int) (tri bs) kk && (decide (othersFrom txn (i : Int) 0 (tri cs) = 0) && fitB zs (tri bs) i len)))) := fun i kk hi hl => by
    unfold freshOK othersP
    rw [holdOf_found hris hl hbad, if_pos hq, fitB_roomFor hz hh (by omega) hlen]
  rw [hL] at hmax k0 k8 hR ⊢
  have HV2 := (show Hid (Rd .i64 w (.slice a L c) zs) from by rw [← hL]; exact HV.out)
  have HL := hid hL
  have HR := hid hR
  clear k3 k5 f1 hz hh hq hris hbad hgood hL hR f2 HV hll hnb
  go_enter Try.func24, Try.ntmps24
  go_wp2_with fail
  refine k0.mono ?_
  rintro e w1 ⟨rfl, hk1⟩
  have HK1 := hid hk1
  clear hk1 k0
  go_wp2_with fail
  refine (k1 _ HK1.out).mono ?_
  rintro e w2 ⟨rfl, hk2⟩
  have HK2 := hid (HK1.out.trans hk2)
  clear hk2 k1
  go_wp2_with fail
  refine (k2 _).mono ?_
  rintro e w2b ⟨rfl, rfl⟩
  clear k2
  go_wp2_with fail
  refine (k8 _ HK2.out).mono ?_
  rintro e w3 ⟨ns, rfl, ho, hn, hk3⟩
  have HK3 := hid (HK2.out.trans hk3)
  obtain ⟨g, hg⟩ : ∃ g, w2b.heap.size = g := ⟨_, rfl⟩
  rw [hg] at ho
  simp only [hg]
  have HN3 : Hid (Needs w3 g L zs (tri bs)) := ⟨ns, ho, hn⟩
  clear ho hn hk3 k8 hg
  go_wp2_with fail
  refine (k4 _ HK3.out HRL.out).mono ?_
  rintro e w4 ⟨rfl, tt, ⟨ck, htab⟩, hperm, hk4, _⟩
  have HK4 := hid (HK3.out.trans hk4)
  have HN4 := hid (HN3.out.same hk4)
  obtain ⟨B, hB⟩ : ∃ B, w3.heap.size = B := ⟨_, rfl⟩
  rw [hB] at htab
  simp only [hB]
  have HT := hid htab
  have HP := hid hperm
  clear htab hperm hk4 k4 hB HN3
  go_wp2_with fail
  go_loopw [37] (fun i wr => ∃ k : Nat, k ≤ L ∧ i = .int .i64 k ∧ Hid (freshF (freshOK zs (tri bs) (tri cs) txn len) (L - k) k = R) ∧ Hid (Same w4 wr)) (fun i _ => L - (intOf i).toNat)
  case atStart => exact ⟨0, Nat.zero_le _, rfl, HR, Kept.refl _ _⟩
  case round =>
    obtain ⟨k, hk, rfl, HA, HKr⟩ := hrel
    by_cases hlt : k < L
    · have hlz : k < zs.length := by rw [HL.out]; exact hlt
      have HKw := hid (HK4.out.trans HKr.out)
      obtain ⟨b, off, rfl, hc⟩ := (HV2.out.same HKw.out).at hlz
      obtain ⟨z, hzk⟩ : ∃ z, zs.getD k 0 = z := ⟨_, rfl⟩
      rw [hzk] at hc
      have HZ := hid hzk
      have HA2 : Hid ((if freshOK zs (tri bs) (tri cs) txn len k = true then (k : Int) else freshF (freshOK zs (tri bs) (tri cs) txn len) (L - (k + 1)) (k + 1)) = R) := by
        have h := HA.out
        rw [freshF_at hlt] at h
        exact h
      have hkL : (k : Int) < (L : Int) := by omega
      clear hzk HA
      go_wp2_with fail
      refine (k9 wr HKw.out (k : Int)).mono ?_
      rintro e w5 ⟨kk, rfl, hlb, hk5⟩
      have HF := hid (HFR.out k kk hlt hlb)
      have HK5 := hid (HKr.out.trans hk5)
      have hc5 := hk5.cellOf hc (fun h => h)
      rw [HZ.out] at HF
      generalize freshOK zs (tri bs) (tri cs) txn len k = fo at HF HA2
      generalize fndH (k : Int) (tri bs) kk = fd at HF ⊢
      have ko := k6 w5 _ _ _ _ (k : Int) (HT.out.same HK5.out) HP.out
      have kn := fun wx (hs : Same w5 wx) => k7 wx g k (HN4.out.same (HK5.out.trans hs)) hlt
      generalize othersFrom txn (k : Int) 0 (tri cs) = ot at HF ko
      generalize fitB zs (tri bs) k len = ft at HF kn
      clear hlb hk5 hc
      by_cases h1 : z = -1
      case neg =>
        have h1' : (z == -1) = false := by simp [h1]
        have HA3 : Hid (freshF (freshOK zs (tri bs) (tri cs) txn len) (L - (k + 1)) (k + 1) = R) := by
          have h := HA2.out
          rw [HF.out] at h
          rw [if_neg (by simp [h1])] at h
          exact h
        clear HF HA2 ko kn
        go_wp2
        go_roundw
        case rel => exact ⟨k + 1, by omega, by go_num, HA3, HK5⟩
        case measure => simp [intOf]; omega
      subst h1
      cases fd with
      | true =>
        have HA3 : Hid (freshF (freshOK zs (tri bs) (tri cs) txn len) (L - (k + 1)) (k + 1) = R) := by
          have h := HA2.out
          rw [HF.out] at h
          rw [if_neg (by simp)] at h
          exact h
        clear HF HA2 ko kn
        go_wp2
        go_roundw
        case rel => exact ⟨k + 1, by omega, by go_num, HA3, HK5⟩
        case measure => simp [intOf]; omega
      | false =>
      by_cases h2 : ot = 0
      case neg =>
        have h2' : (ot == 0) = false := by simp [h2]
        have HA3 : Hid (freshF (freshOK zs (tri bs) (tri cs) txn len) (L - (k + 1)) (k + 1) = R) := by
          have h := HA2.out
          rw [HF.out] at h
          rw [if_neg (by simp [h2])] at h
          exact h
        clear HF HA2 kn
        go_wp2_with fail
        refine ko.mono ?_
        rintro e w6 ⟨rfl, hk6⟩
        have HK6 := hid (HK5.out.trans hk6)
        clear ko hk6 hc5
        go_wp2
        go_roundw
        case rel => exact ⟨k + 1, by omega, by go_num, HA3, HK6⟩
        case measure => simp [intOf]; omega
      subst h2
      cases ft with
      | false =>
        have HA3 : Hid (freshF (freshOK zs (tri bs) (tri cs) txn len) (L - (k + 1)) (k + 1) = R) := by
          have h := HA2.out
          rw [HF.out] at h
          rw [if_neg (by simp)] at h
          exact h
        clear HF HA2
        go_wp2_with fail
        refine ko.mono ?_
        rintro e w6 ⟨rfl, hk6⟩
        have HK56 := hid hk6
        clear ko hk6 hc5
        go_wp2_with fail
        refine (kn _ HK56.out).mono ?_
        rintro e w7 ⟨rfl, hk7⟩
        have HK7 := hid ((HK5.out.trans HK56.out).trans hk7)
        clear kn hk7
        go_wp2
        go_roundw
        case rel => exact ⟨k + 1, by omega, by go_num, HA3, HK7⟩
        case measure => simp [intOf]; omega
      | true =>
        have HA3 : Hid ((k : Int) = R) := by
          have h := HA2.out
          rw [HF.out] at h
          rw [if_pos (by simp)] at h
          exact h
        clear HF HA2
        go_wp2_with fail
        refine ko.mono ?_
        rintro e w6 ⟨rfl, hk6⟩
        have HK56 := hid hk6
        clear ko hk6 hc5
        go_wp2_with fail
        refine (kn _ HK56.out).mono ?_
        rintro e w7 ⟨rfl, hk7⟩
        have HK7 := hid (HK4.out.trans ((HK5.out.trans HK56.out).trans hk7))
        clear kn hk7
        go_wp2
        go_ret
        exact ⟨by rw [← HA3.out]; rfl, HK7.out⟩
    · obtain rfl : k = L := by omega
      have h := HA.out
      rw [Nat.sub_self] at h
      go_wp2
      go_ret
      exact ⟨by rw [← h]; rfl, HK4.out.trans HKr.out⟩
end Go.Proofs.Ytagcefbnhpkdiab
