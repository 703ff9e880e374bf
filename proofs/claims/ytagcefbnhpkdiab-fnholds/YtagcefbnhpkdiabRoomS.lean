/-
  spec.l9Lengths, spec.l9Room, spec.RoomLeft, spec.RoomFor, spec.FreshId.
-/
import Derived.Test.YtagcefbnhpkdiabHoldSpec
import Derived.Test.YtagcefbnhpkdiabLockGet
import Derived.Test.YtagcefbnhpkdiabDrawn
import Derived.Test.YtagcefbnhpkdiabRead
namespace Go.Proofs.Ytagcefbnhpkdiab
set_option maxRecDepth 100000
set_option maxHeartbeats 8000000
open Go.RowKit
set_option linter.unusedVariables false
set_option linter.unusedSimpArgs false

def lenOK (zs : List Int) : Bool := decide (zs.length % 32 = 0) && (inB ((zs.length : Int) / 32) 1 16 && zs.all (fun z => inB z (-1) 1000))
def roomB (zs : List Int) (hs : List T3) (page : Int) : Bool := lenOK zs && (decide (holdsF hs = 0) && inB page 0 (((zs.length : Int) / 32) - 1))
def needA (zs : List Int) (hs : List T3) (id : Nat) : Int := maxI (maxI (zs.getD id 0) (holdOf (id : Int) hs)) 0
def sumA (zs : List Int) (hs : List T3) (at_ : Nat) : Nat → Int
  | 0 => 0
  | k + 1 => sumA zs hs at_ k + needA zs hs (at_ + k)
def roomL (zs : List Int) (hs : List T3) (page : Int) : Int := if roomB zs hs page = true then 3948 - sumA zs hs (page.toNat * 32) 32 else -1
def roomFor (zs : List Int) (hs : List T3) (id len : Int) : Bool :=
  if id < 0 ∨ roomB zs hs (id / 32) = false ∨ inB len 0 1000 = false then false else
  (decide (len - needA zs hs id.toNat ≤ 0) && decide (0 ≤ roomL zs hs (id / 32))) || (decide (0 < len - needA zs hs id.toNat) && decide (len - needA zs hs id.toNat ≤ roomL zs hs (id / 32)))
def freshOK (zs : List Int) (hs ls : List T3) (txn len : Int) (k : Nat) : Bool := decide (zs.getD k 0 = -1) && (decide (holdOf (k : Int) hs = -1) && (decide (othersP ls txn (k : Int) = 0) && roomFor zs hs (k : Int) len))
def freshF (f : Nat → Bool) : Nat → Nat → Int
  | 0, _ => -1
  | m + 1, k => if f k = true then (k : Int) else freshF f m (k + 1)
def freshI (zs : List Int) (hs ls : List T3) (txn len : Int) : Int := if lenOK zs = false ∨ holdsF hs ≠ 0 ∨ locksF ls ≠ 0 then -1 else freshF (freshOK zs hs ls txn len) zs.length 0

theorem lenOK_yes {zs : List Int} (h : lenOK zs = true) : zs.length % 32 = 0 ∧ 1 ≤ zs.length / 32 ∧ zs.length / 32 ≤ 16 ∧ ∀ z ∈ zs, -1 ≤ z ∧ z ≤ 1000 := by
  unfold lenOK at h
  simp only [Bool.and_eq_true, decide_eq_true_eq, List.all_eq_true] at h
  obtain ⟨h1, h2, h3⟩ := h
  have h4 : 1 ≤ ((zs.length : Int) / 32) ∧ ((zs.length : Int) / 32) ≤ 16 := by simpa [inB] using h2
  exact ⟨h1, by omega, by omega, fun z hz => by simpa [inB] using h3 z hz⟩
theorem holdOf_bound {hs : List T3} (h : hs.any hdBad = false) (id : Int) : -1 ≤ holdOf id hs ∧ holdOf id hs ≤ 1000 := by
  induction hs with
  | nil => exact ⟨by unfold holdOf; omega, by unfold holdOf; omega⟩
  | cons p hs ih =>
    simp only [List.any_cons, Bool.or_eq_false_iff] at h
    unfold holdOf
    split
    · have h1 := h.1
      simp only [hdBad, Bool.or_eq_false_iff, Bool.not_eq_false'] at h1
      have h2 : 0 ≤ p.2.2 ∧ p.2.2 ≤ 1000 := by simpa [inB] using h1.2
      omega
    · exact ih h.2
theorem holdsF_any {hs : List T3} (h : holdsF hs = 0) : hs.any hdBad = false := by
  unfold holdsF at h
  split at h
  · cases h
  · split at h
    · cases h
    · split at h
      · cases h
      · rename_i h3; simpa using h3
theorem needA_bound {zs : List Int} {hs : List T3} (hz : lenOK zs = true) (hh : holdsF hs = 0) (id : Nat) : 0 ≤ needA zs hs id ∧ needA zs hs id ≤ 1000 := by
  have h1 := holdOf_bound (holdsF_any hh) (id : Int)
  have h2 : -1 ≤ zs.getD id 0 ∧ zs.getD id 0 ≤ 1000 := by
    by_cases hi : id < zs.length
    · rw [show zs.getD id 0 = zs[id] from by simp [List.getD, List.getElem?_eq_getElem hi]]
      exact (lenOK_yes hz).2.2.2 _ (List.getElem_mem hi)
    · rw [show zs.getD id 0 = 0 from by simp [List.getD, List.getElem?_eq_none (Nat.le_of_not_lt hi)]]
      omega
  unfold needA maxI
  split <;> split <;> omega
theorem sumA_bound {zs : List Int} {hs : List T3} (hz : lenOK zs = true) (hh : holdsF hs = 0) (a : Nat) : ∀ k : Nat, 0 ≤ sumA zs hs a k ∧ sumA zs hs a k ≤ 1000 * (k : Int)
  | 0 => ⟨by unfold sumA; omega, by unfold sumA; omega⟩
  | k + 1 => by
    have h1 := sumA_bound hz hh a k
    have h2 := needA_bound hz hh (a + k)
    unfold sumA
    omega

theorem specLengths_any (v : Value) (zs : List Int) (w : World) (hv : Rd .i64 w v zs) :
    Calls Try.prog 45 #[v] w fun e w' => e = .returned (.bool (lenOK zs)) ∧ Same w w' := by
  obtain ⟨a, c, rfl⟩ := hv.form
  have hmax : zs.length ≤ maxLen := hv.1
  unfold maxLen at hmax
  obtain ⟨R, hR⟩ : ∃ R, lenOK zs = R := ⟨_, rfl⟩
  rw [hR]
  unfold lenOK at hR
  obtain ⟨n, hn⟩ : ∃ n, zs.length = n := ⟨_, rfl⟩
  have HN := hid hn
  rw [hn] at hR hmax ⊢
  have HV := (show Hid (Rd .i64 w (.slice a n c) zs) from by rw [← hn]; exact hv)
  clear hv hn
  have k1 := fun wx => l4In_any ((n : Int) / 32) 1 16 wx
  by_cases h1 : n % 32 = 0
  case neg =>
    have h1' : ¬ (n : Int) % 32 = 0 := by omega
    rw [show decide (n % 32 = 0) = false from by simp [h1]] at hR
    subst hR
    go_enter Try.func45, Try.ntmps45
    go_wp2
    go_ret
    exact ⟨rfl, Kept.refl _ _⟩
  have h1' : (n : Int) % 32 = 0 := by omega
  rw [show decide (n % 32 = 0) = true from by simp [h1], Bool.true_and] at hR
  cases f1 : inB ((n : Int) / 32) 1 16 with
  | false =>
    rw [f1] at k1 hR
    subst hR
    go_enter Try.func45, Try.ntmps45
    go_wp2_with fail
    refine (k1 _).mono ?_
    rintro e w1 ⟨rfl, hk1⟩
    go_wp2
    go_ret
    exact ⟨rfl, hk1⟩
  | true =>
    rw [f1] at k1 hR
    rw [Bool.true_and] at hR
    have HR := hid hR
    clear hR
    go_enter Try.func45, Try.ntmps45
    go_wp2_with fail
    refine (k1 _).mono ?_
    rintro e w1 ⟨rfl, hk1⟩
    have HK1 := (show Hid (Same w w1) from hk1)
    clear hk1
    go_wp2_with fail
    go_loopw [4] (fun i wr => ∃ k : Nat, k ≤ n ∧ i = .int .i64 k ∧ Hid ((zs.drop k).all (fun z => inB z (-1) 1000) = R) ∧ Hid (Same w wr)) (fun i _ => n - (intOf i).toNat)
    case atStart => exact ⟨0, Nat.zero_le _, rfl, HR, HK1⟩
    case round =>
      obtain ⟨k, hk, rfl, HA, HK⟩ := hrel
      by_cases hlt : k < n
      · have hlz : k < zs.length := by rw [HN.out]; exact hlt
        obtain ⟨b, off, rfl, hc⟩ : ∃ b off, a = some ⟨b, off, none⟩ ∧ ∀ i, i < zs.length → w.cell? ⟨b, off + i, none⟩ = some (.int .i64 (zs.getD i 0)) := by
          rcases HV.out.2 with ⟨hnil, _⟩ | ⟨b, off, c', h, _, hc⟩
          · rw [hnil] at hlz; simp at hlz
          · cases h; exact ⟨b, off, rfl, hc⟩
        obtain ⟨z, hz⟩ : ∃ z, zs.getD k 0 = z := ⟨_, rfl⟩
        have d0 : wr.cell? ⟨b, off + k, none⟩ = some (.int .i64 z) := HK.out.cellOf (by rw [← hz]; exact hc k hlz) id
        have h := HA.out
        rw [List.drop_eq_getElem_cons hlz, List.all_cons, show zs[k] = z from by rw [← hz]; simp [List.getD, List.getElem?_eq_getElem hlz]] at h
        clear hc hz HA
        have k2 := fun wx => l4In_any z (-1) 1000 wx
        cases f2 : inB z (-1) 1000 with
        | false =>
          rw [f2] at k2 h
          subst h
          go_wp2_with fail
          refine (k2 _).mono ?_
          rintro e w2 ⟨rfl, hk2⟩
          have HK2 := hid (HK.out.trans hk2)
          go_wp2
          go_ret
          exact ⟨rfl, HK2.out⟩
        | true =>
          rw [f2] at k2 h
          rw [Bool.true_and] at h
          have HA2 := hid h
          clear h
          go_wp2_with fail
          refine (k2 _).mono ?_
          rintro e w2 ⟨rfl, hk2⟩
          have HK2 := hid (HK.out.trans hk2)
          clear hk2
          go_wp2
          go_roundw
          case rel => exact ⟨k + 1, by omega, by go_num, HA2, HK2⟩
          case measure => simp [intOf]; omega
      · obtain rfl : k = n := by omega
        have h := HA.out
        rw [← HN.out, List.drop_length] at h
        go_wp2
        go_ret
        exact ⟨by rw [← h]; rfl, HK.out⟩
theorem specRoomB_any (v : Value) (zs : List Int) (x : FR) (page : Int) (w : World) (hv : Rd .i64 w v zs) (hx : RdF 3 w x) :
    Calls Try.prog 36 #[v, x.v, .int .i64 page] w fun e w' => e = .returned (.bool (roomB zs (tri x.bs) page)) ∧ Same w w' := by
  have k0 := specLengths_any v zs w hv
  have k1 := fun wx (hk : Same w wx) => specHoldsFault_any x wx (hx.same hk)
  obtain ⟨a, c, rfl⟩ := hv.form
  have hmax : zs.length ≤ maxLen := hv.1
  unfold maxLen at hmax
  obtain ⟨xe, xa, xn, xc, bs⟩ := x
  dsimp only [FR.v] at k1 ⊢
  have k2 := fun wx => l4In_any page 0 (((zs.length : Int) / 32) - 1) wx
  have hw : IntKind.i64.wrap (((zs.length : Int) / 32) - 1) = ((zs.length : Int) / 32) - 1 := by rw [IntKind.wrap_i64]; omega
  unfold roomB
  clear hv hx
  cases f0 : lenOK zs with
  | false =>
    rw [f0] at k0
    go_enter Try.func36, Try.ntmps36
    go_wp2_with fail
    refine k0.mono ?_
    rintro e w1 ⟨rfl, hk1⟩
    go_wp2
    go_ret
    exact ⟨rfl, hk1⟩
  | true =>
    rw [f0] at k0
    obtain ⟨q, hq⟩ : ∃ q, holdsF (tri bs) = q := ⟨_, rfl⟩
    rw [hq] at k1 ⊢
    by_cases h0 : q = 0
    · subst h0
      go_enter Try.func36, Try.ntmps36
      go_wp2_with (first
        | (go_at_call 45; (with_reducible refine k0.mono ?_); rintro e w1 ⟨rfl, hk1⟩; have HK1 := (show Hid (Same w w1) from hk1); clear hk1 k0)
        | (go_at_call 30; (with_reducible refine (k1 _ HK1.out).mono ?_); rintro e w2 ⟨rfl, hk2⟩; have HK2 := hid (HK1.out.trans hk2); clear hk2 k1))
      refine (k2 _).mono ?_
      rintro e w3 ⟨rfl, hk3⟩
      have HK3 := hid (HK2.out.trans hk3)
      go_wp2
      go_ret
      exact ⟨by simp, HK3.out⟩
    · have e0 : decide (q = 0) = false := by simp [h0]
      rw [e0]
      go_enter Try.func36, Try.ntmps36
      go_wp2_with (first
        | (go_at_call 45; (with_reducible refine k0.mono ?_); rintro e w1 ⟨rfl, hk1⟩; have HK1 := (show Hid (Same w w1) from hk1); clear hk1 k0)
        | (go_at_call 30; (with_reducible refine (k1 _ HK1.out).mono ?_); rintro e w2 ⟨rfl, hk2⟩; have HK2 := hid (HK1.out.trans hk2); clear hk2 k1))
      go_ret
      exact ⟨by rfl, HK2.out⟩
end Go.Proofs.Ytagcefbnhpkdiab
