/-
  The program's RoomLeft, RoomFor, FreshId.
-/
import Derived.Test.YtagcefbnhpkdiabRoomFit
import Derived.Test.YtagcefbnhpkdiabRoomS2
import Derived.Test.YtagcefbnhpkdiabTyMHoldS
namespace Go.Proofs.Ytagcefbnhpkdiab
set_option maxRecDepth 100000
set_option maxHeartbeats 4000000
open Go.RowKit
set_option linter.unusedVariables false
set_option linter.unusedSimpArgs false

theorem fitB_roomFor {zs : List Int} {hs : List T3} {i : Nat} {len : Int} (hz : lenOK zs = true) (hh : holdsF hs = 0) (hi : i < zs.length) (hlen : 0 ≤ len ∧ len ≤ 1000) : roomFor zs hs (i : Int) len = fitB zs hs i len := by
  obtain ⟨hl1, hl2, hl3, _⟩ := lenOK_yes hz
  have hr : roomB zs hs ((i : Int) / 32) = true := by
    unfold roomB
    rw [hz, hh]
    simp [inB]
    omega
  have e1 : (((i : Int) / 32).toNat) = i / 32 := by omega
  unfold roomFor fitB
  rw [if_neg (by
    rintro (h | h | h)
    · omega
    · rw [hr] at h; cases h
    · have : inB len 0 1000 = true := by simp [inB]; omega
      rw [this] at h; cases h)]
  unfold roomL
  rw [if_pos hr, e1, show ((i : Int)).toNat = i from by omega]
  generalize needA zs hs i = nd
  generalize sumA zs hs (i / 32 * 32) 32 = T
  rw [Bool.eq_iff_iff]
  by_cases h : 0 < len - nd
  · have e : grI 0 [len - nd] = len - nd := if_pos h
    simp only [e, decide_eq_true_eq, Bool.or_eq_true, Bool.and_eq_true]
    omega
  · have e : grI 0 [len - nd] = 0 := if_neg h
    simp only [e, decide_eq_true_eq, Bool.or_eq_true, Bool.and_eq_true]
    omega
theorem implRoomLeft_any (v : Value) (zs : List Int) (x : FR) (page : Int) (w : World) (hv : Rd .i64 w v zs) (hx : RdF 3 w x) :
    Calls Try.prog 17 #[v, x.v, .int .i64 page] w fun e w' => e = .returned (.int .i64 (roomL zs (tri x.bs) page)) ∧ Same w w' := by
  have k0 := roomKnown_any v zs x w hv hx
  have k1 := fun wx (hs : Same w wx) h1 h2 => openNeeds_any v zs x wx (hv.same hs) (hx.same hs) h1 h2
  obtain ⟨a, c, rfl⟩ := hv.form
  have hmax : zs.length ≤ maxLen := hv.1
  unfold maxLen at hmax
  obtain ⟨xe, xa, n, xc, bs⟩ := x
  dsimp only [FR.v] at k0 k1 ⊢
  clear hv hx
  obtain ⟨R, hR⟩ : ∃ R, roomL zs (tri bs) page = R := ⟨_, rfl⟩
  rw [hR]
  unfold roomL roomB at hR
  cases f1 : (lenOK zs && decide (holdsF (tri bs) = 0)) with
  | false =>
    rw [f1] at k0
    rw [if_neg (by rw [← Bool.and_assoc, f1]; simp)] at hR
    subst hR
    clear k1 f1
    go_enter Try.func17, Try.ntmps17
    go_wp2_with fail
    refine k0.mono ?_
    rintro e w1 ⟨rfl, hk1⟩
    go_wp2
    go_ret
    exact ⟨rfl, hk1⟩
  | true =>
    rw [f1] at k0
    obtain ⟨hz, hh⟩ := (show lenOK zs = true ∧ holdsF (tri bs) = 0 from by simpa using f1)
    rw [hz, hh] at hR
    simp only [Bool.true_and, decide_true] at hR
    obtain ⟨P, hP⟩ : ∃ P, zs.length / 32 = P := ⟨_, rfl⟩
    have hqt : ((zs.length : Int).tdiv 32) = (P : Int) := by rw [Int.tdiv_eq_ediv_of_nonneg (by omega)]; omega
    have hqe : ((zs.length : Int) / 32) = (P : Int) := by omega
    rw [hqe] at hR
    obtain ⟨_, _, hP16, _⟩ := lenOK_yes hz
    rw [hP] at hP16
    have hwP : IntKind.i64.wrap (P : Int) = (P : Int) := by rw [IntKind.wrap_i64]; omega
    have HP := hid hP
    clear hP
    obtain ⟨L, hL⟩ : ∃ L, zs.length = L := ⟨_, rfl⟩
    rw [hL] at hqt hqe hmax k0 k1 ⊢
    by_cases h1 : page < 0
    · rw [if_neg (by simp [inB]; omega)] at hR
      subst hR
      clear k1 f1 hz hh hL hqt hqe hwP hP16 hmax
      go_enter Try.func17, Try.ntmps17
      go_wp2_with fail
      refine k0.mono ?_
      rintro e w1 ⟨rfl, hk1⟩
      go_wp2
      go_ret
      exact ⟨rfl, hk1⟩
    obtain ⟨p, rfl⟩ : ∃ p : Nat, page = (p : Int) := ⟨page.toNat, by omega⟩
    by_cases h2 : P ≤ p
    · have h2' : (P : Int) ≤ (p : Int) := by omega
      rw [if_neg (by simp [inB]; omega)] at hR
      subst hR
      clear k1 f1 hz hh hL
      go_enter Try.func17, Try.ntmps17
      go_wp2_with fail
      refine k0.mono ?_
      rintro e w1 ⟨rfl, hk1⟩
      go_wp2
      go_ret
      exact ⟨rfl, hk1⟩
    have h2' : ¬ (P : Int) ≤ (p : Int) := by omega
    rw [if_pos (by simp [inB]; omega), show ((p : Int)).toNat = p from by omega] at hR
    subst hR
    have hpl : (p + 1) * 32 ≤ L := by have := HP.out; omega
    have k2 := fun wx g hN => left_any wx g L p zs (tri bs) hN hz hh hL.symm hpl
    have k3 := fun wx hs => k1 wx hs hz hh
    have HL := hid hL
    clear k1 f1 hz hh hL
    go_enter Try.func17, Try.ntmps17
    go_wp2_with fail
    refine k0.mono ?_
    rintro e w1 ⟨rfl, hk1⟩
    have HK1 := hid hk1
    clear hk1
    go_wp2_with fail
    refine (k3 _ HK1.out).mono ?_
    rintro e w2 ⟨ns, rfl, ho, hn, hk2⟩
    have HK2 := hid (HK1.out.trans hk2)
    have HN : Hid (Needs w2 w1.heap.size L zs (tri bs)) := ⟨ns, ho, hn⟩
    clear ho hn hk2 k3
    go_wp2_with fail
    refine (k2 _ _ HN.out).mono ?_
    rintro e w3 ⟨rfl, hk3⟩
    have HK3 := hid (HK2.out.trans hk3)
    clear hk3
    go_wp2
    go_ret
    exact ⟨rfl, HK3.out⟩
theorem implRoomFor_any (v : Value) (zs : List Int) (x : FR) (id len : Int) (w : World) (hid63 : id ≤ 9223372036854775807) (hv : Rd .i64 w v zs) (hx : RdF 3 w x) :
    Calls Try.prog 20 #[v, x.v, .int .i64 id, .int .i64 len] w fun e w' => e = .returned (.bool (roomFor zs (tri x.bs) id len)) ∧ Same w w' := by
  have k0 := roomKnown_any v zs x w hv hx
  have k1 := fun wx (hs : Same w wx) h1 h2 => openNeeds_any v zs x wx (hv.same hs) (hx.same hs) h1 h2
  have kl := recLen_any len
  obtain ⟨a, c, rfl⟩ := hv.form
  have hmax : zs.length ≤ maxLen := hv.1
  unfold maxLen at hmax
  obtain ⟨xe, xa, n, xc, bs⟩ := x
  dsimp only [FR.v] at k0 k1 ⊢
  clear hv hx
  obtain ⟨R, hR⟩ : ∃ R, roomFor zs (tri bs) id len = R := ⟨_, rfl⟩
  rw [hR]
  cases f1 : (lenOK zs && decide (holdsF (tri bs) = 0)) with
  | false =>
    rw [f1] at k0
    unfold roomFor roomB at hR
    rw [if_pos (.inr (.inl (by rw [← Bool.and_assoc, f1]; rfl)))] at hR
    subst hR
    clear k1 f1
    go_enter Try.func20, Try.ntmps20
    go_wp2_with fail
    refine k0.mono ?_
    rintro e w1 ⟨rfl, hk1⟩
    go_wp2
    go_ret
    exact ⟨rfl, hk1⟩
  | true =>
    rw [f1] at k0
    obtain ⟨hz, hh⟩ := (show lenOK zs = true ∧ holdsF (tri bs) = 0 from by simpa using f1)
    by_cases h1 : id < 0
    · unfold roomFor at hR
      rw [if_pos (.inl h1)] at hR
      subst hR
      clear k1 f1 hz hh
      go_enter Try.func20, Try.ntmps20
      go_wp2_with fail
      refine k0.mono ?_
      rintro e w1 ⟨rfl, hk1⟩
      go_wp2
      go_ret
      exact ⟨rfl, hk1⟩
    obtain ⟨i, rfl⟩ : ∃ i : Nat, id = (i : Int) := ⟨id.toNat, by omega⟩
    obtain ⟨hl1, hl2, hl3, _⟩ := lenOK_yes hz
    by_cases h2 : zs.length ≤ i
    · have h2' : (zs.length : Int) ≤ (i : Int) := by omega
      unfold roomFor roomB at hR
      rw [if_pos (.inr (.inl (by rw [hz, hh]; simp [inB]; omega)))] at hR
      subst hR
      clear k1 f1 hz hh
      go_enter Try.func20, Try.ntmps20
      go_wp2_with fail
      refine k0.mono ?_
      rintro e w1 ⟨rfl, hk1⟩
      go_wp2
      go_ret
      exact ⟨rfl, hk1⟩
    have h2' : ¬ (zs.length : Int) ≤ (i : Int) := by omega
    cases f2 : inB len 0 1000 with
    | false =>
      rw [f2] at kl
      unfold roomFor at hR
      rw [if_pos (.inr (.inr f2))] at hR
      subst hR
      clear k1 f1 hz hh
      go_enter Try.func20, Try.ntmps20
      go_wp2_with fail
      refine k0.mono ?_
      rintro e w1 ⟨rfl, hk1⟩
      go_wp2_with fail
      refine (kl _).mono ?_
      rintro e w2 ⟨rfl, rfl⟩
      go_wp2
      go_ret
      exact ⟨rfl, hk1⟩
    | true =>
      rw [f2] at kl
      have hlen : 0 ≤ len ∧ len ≤ 1000 := by simpa [inB] using f2
      rw [fitB_roomFor hz hh (by omega) hlen] at hR
      subst hR
      obtain ⟨L, hL⟩ : ∃ L, zs.length = L := ⟨_, rfl⟩
      rw [hL] at h2 h2' hmax k0 k1 ⊢
      have k2 := fun wx g hN => fits_any wx g L i len zs (tri bs) hN hz hh hL.symm (by omega) hlen
      have k3 := fun wx hs => k1 wx hs hz hh
      generalize fitB zs (tri bs) i len = R at k2 ⊢
      clear k1 f1 hz hh hL f2
      go_enter Try.func20, Try.ntmps20
      go_wp2_with fail
      refine k0.mono ?_
      rintro e w1 ⟨rfl, hk1⟩
      have HK1 := hid hk1
      clear hk1
      go_wp2_with fail
      refine (kl _).mono ?_
      rintro e w1b ⟨rfl, rfl⟩
      go_wp2_with fail
      refine (k3 _ HK1.out).mono ?_
      rintro e w2 ⟨ns, rfl, ho, hn, hk2⟩
      have HK2 := hid (HK1.out.trans hk2)
      have HN := (show Hid (Needs w2 _ L zs (tri bs)) from ⟨ns, ho, hn⟩)
      clear ho hn hk2 k3
      go_wp2_with fail
      refine (k2 _ _ HN.out).mono ?_
      rintro e w3 ⟨rfl, hk3⟩
      have HK3 := hid (HK2.out.trans hk3)
      clear hk3
      go_wp2
      go_ret
      exact ⟨rfl, HK3.out⟩
end Go.Proofs.Ytagcefbnhpkdiab
